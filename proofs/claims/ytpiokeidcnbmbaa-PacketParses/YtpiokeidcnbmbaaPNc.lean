/- Parse of the document: IPv4 packets. Conditions: as said. -/
import Derived.Test.YtpiokeidcnbmbaaPNb
namespace Go.Proofs.Ytpiokeidcnbmbaa
open Go.RowKit
set_option maxRecDepth 20000
set_option linter.unusedSimpArgs false
set_option maxHeartbeats 8000000 in
theorem rparse_fragA (w : World) (b off n cap A : Nat) (zs : List Int) (h : BS w (some ⟨b, off, none⟩) n zs) (hcap : n ≤ cap) (hs tt : Nat) (h0 : 0 < hs) (hst : hs ≤ tt) (hAn : A + tt ≤ n) (hc : ¬ cap = A + tt) (hA0 : 0 < A) (d s tag : Int) (tg : Bool) (tos id fr ttl pr src dst : Int) (io : List Int) (pd dd : ByteArray) (hpd : strOfNums (zs.drop (A + tt)) = pd) (hdd : strOfNums ((zs.drop (A + hs)).take (tt - hs)) = dd) (r : Array Value) (hr : ((Ca.putC ((Ca.putC zeroPk 0 (#[.int .u64 d, .int .u64 s, .bool tg, .int .i64 tag, .int .i64 2048]).toList).setIfInBounds 11 (.bool true)) 12 (#[.int .i64 tos, .int .i64 id, .int .i64 fr, .int .i64 ttl, .int .i64 pr, .int .u32 src, .int .u32 dst, .string (strOfNums io)]).toList).setIfInBounds 35 (.string pd)).setIfInBounds 33 (.string dd) = r)
    (HH : Hid (∀ W, BS W (some ⟨b, off, none⟩) n zs → Calls Try.prog 22 #[.slice (some ⟨b, off, none⟩) n cap] W fun e w' => e = .returned (Eth.ethV d s tg tag 2048 A 0) ∧ Below W.heap.size W w'))
    (HI : Hid (∀ W, BS W (some ⟨b, off + A, none⟩) (n - A) (zs.drop A) → Calls Try.prog 24 #[.slice (some ⟨b, off + A, none⟩) (n - A) (cap - A)] W fun e w' => e = .returned (.tuple #[.agg #[.int .i64 tos, .int .i64 id, .int .i64 fr, .int .i64 ttl, .int .i64 pr, .int .u32 src, .int .u32 dst, .string (strOfNums io)], .int .i64 hs, .int .i64 tt, .int .i64 0]) ∧ Below W.heap.size W w'))
    (HW : Hid (∀ W, Calls Try.prog 25 #[.agg #[.int .i64 tos, .int .i64 id, .int .i64 fr, .int .i64 ttl, .int .i64 pr, .int .u32 src, .int .u32 dst, .string (strOfNums io)]] W fun e w' => e = .returned (.bool false) ∧ Below W.heap.size W w')) :
    Calls Try.prog 9 #[.slice (some ⟨b, off, none⟩) n cap] w fun e w' => e = .returned (.tuple #[.agg r, .int .i64 0]) ∧ Below w.heap.size w w' := by
  have hb0 : b < w.heap.size := by
    rcases h.cells with h0 | ⟨b', off', e, hc'⟩
    · omega
    · cases e
      have hl := h.len
      exact cell_lt (hc' 0 (by omega))
  have HB9 : Hid (b < w.heap.size) := hb0
  have HC9 : StopP _ := StopP.mk (hc)
  have HPD : StopP (strOfNums (zs.drop (A + tt)) = pd) := StopP.mk hpd
  have HDD : StopP (strOfNums ((zs.drop (A + hs)).take (tt - hs)) = dd) := StopP.mk hdd
  have HR : StopP (((Ca.putC ((Ca.putC zeroPk 0 (#[.int .u64 d, .int .u64 s, .bool tg, .int .i64 tag, .int .i64 2048]).toList).setIfInBounds 11 (.bool true)) 12 (#[.int .i64 tos, .int .i64 id, .int .i64 fr, .int .i64 ttl, .int .i64 pr, .int .u32 src, .int .u32 dst, .string (strOfNums io)]).toList).setIfInBounds 35 (.string pd)).setIfInBounds 33 (.string dd) = r) := StopP.mk hr
  clear hpd hdd hr hb0 hc 
  have HB0 : Hid (BS w (some ⟨b, off, none⟩) n zs) := h
  clear h
  have L2 : Hid ((w.alloc (.cells zeroPk 34)).heap[w.heap.size]? = some (.cells zeroPk 34 (0, 0))) := heap_alloc_new w _
  have LB : Hid (Below w.heap.size w (w.alloc (.cells zeroPk 34))) := below1 w _
  go_enter Try.func9, Try.ntmps9
  go_wp2_with fail
  refine (HH.out _ (HB0.out.below LB.out)).mono ?_
  unfold Eth.ethV
  rintro e W1 ⟨rfl, hb⟩
  have B_1 : Hid (Below w.heap.size w W1) := LB.out.trans (hb.mono (by first | exact LB.out.size | (simp; omega)))
  have Z_1 : Hid (W1.heap[w.heap.size]? = some (.cells zeroPk 34 (0, 0))) := (hb.block _ (Ca.lt_of_heap L2.out)).trans L2.out
  have S_1 : Hid (BS W1 (some ⟨b, off, none⟩) n zs) := (HB0.out.below LB.out).below hb
  clear hb L2 LB HH HB0
  obtain ⟨o1, ho1⟩ : ∃ p, Ca.putC zeroPk 0 (#[.int .u64 d, .int .u64 s, .bool tg, .int .i64 tag, .int .i64 2048]).toList = p := ⟨_, rfl⟩
  have Zo1 : Hid (o1.size = 36) := by show _ = _; rw [← ho1]; kernel_rfl
  have Oo1 : Hid (o1.all (·.oneCell') = true) := by show _ = _; rw [← ho1]; kernel_rfl
  have hbld : Try.prog.built 34 [(0, .agg #[.int .u64 d, .int .u64 s, .bool tg, .int .i64 tag, .int .i64 2048])] = some o1 := by rw [← ho1]; kernel_rfl
  have EO1 : StopP (Ca.putC zeroPk 0 (#[.int .u64 d, .int .u64 s, .bool tg, .int .i64 tag, .int .i64 2048]).toList = o1) := StopP.mk ho1
  clear ho1
  go_wp2_with (first
    | ((with_reducible (refine isSt 25 _ _ rfl rfl ?_)); refine Ca.wpList_store_new rfl 25 _ _ rfl #[.int .u64 0, .int .u64 0, .bool false, .int .i64 0, .int .i64 0] #[.int .u64 d, .int .u64 s, .bool tg, .int .i64 tag, .int .i64 2048] _ rfl rfl rfl info_eth rfl (by kernel_rfl) ?_; refine StopP.out ?_)
    | fail)
  have hb2 := below1 W1 (.cells #[.int .u64 d, .int .u64 s, .bool tg, .int .i64 tag, .int .i64 2048] 25)
  have B_2 : Hid (Below w.heap.size w (W1.alloc (.cells #[.int .u64 d, .int .u64 s, .bool tg, .int .i64 tag, .int .i64 2048] 25))) := B_1.out.trans (hb2.mono B_1.out.size)
  have Z_2 : Hid ((W1.alloc (.cells #[.int .u64 d, .int .u64 s, .bool tg, .int .i64 tag, .int .i64 2048] 25)).heap[w.heap.size]? = some (.cells zeroPk 34 (0, 0))) := (hb2.block _ (Ca.lt_of_heap Z_1.out)).trans Z_1.out
  have E_2 : Hid ((W1.alloc (.cells #[.int .u64 d, .int .u64 s, .bool tg, .int .i64 tag, .int .i64 2048] 25)).heap[W1.heap.size]? = some (.cells #[.int .u64 d, .int .u64 s, .bool tg, .int .i64 tag, .int .i64 2048] 25 (0, 0))) := heap_alloc_new W1 _
  have S_2 : Hid (BS (W1.alloc (.cells #[.int .u64 d, .int .u64 s, .bool tg, .int .i64 tag, .int .i64 2048] 25)) (some ⟨b, off, none⟩) n zs) := S_1.out.below hb2
  have N_2 : Hid (w.heap.size < W1.heap.size) := Ca.lt_of_heap Z_1.out
  obtain ⟨W2, hW⟩ : ∃ V, (W1.alloc (.cells #[.int .u64 d, .int .u64 s, .bool tg, .int .i64 tag, .int .i64 2048] 25)) = V := ⟨_, rfl⟩
  obtain ⟨ge, hge⟩ : ∃ n, W1.heap.size = n := ⟨_, rfl⟩
  rw [hW] at B_2 Z_2 E_2 S_2 ⊢
  rw [hge] at E_2 N_2 ⊢
  clear hW hge hb2 B_1 Z_1 S_1
  refine StopP.mk ?_
  go_wp2_with (first
    | ((with_reducible (refine isLd 25 _ rfl ?_)); refine wpList_load_row rfl 25 _ rfl ge rfl 25 #[.int .u64 d, .int .u64 s, .bool tg, .int .i64 tag, .int .i64 2048] (0, 0) _ E_2.out Try.underlying25 rfl info_eth ?_; refine Ca.wpList_build_as rfl 34 _ rfl o1 (by rw [List.map_toArray]; show Try.prog.built 34 [(0, .agg #[.int .u64 d, .int .u64 s, .bool tg, .int .i64 tag, .int .i64 2048])] = _; exact hbld) ?_)
    | ((with_reducible (refine isSt 34 _ _ rfl rfl ?_)); refine Ca.wpList_store_new rfl 34 _ _ rfl zeroPk o1 _ rfl rfl rfl (info36 Zo1.out) (Eq.trans (b := 36) rfl Zo1.out.symm) Oo1.out ?_; refine StopP.out ?_)
    | fail)
  have hb3 := below1 W2 (.cells o1 34)
  have B_3 : Hid (Below w.heap.size w (W2.alloc (.cells o1 34))) := B_2.out.trans (hb3.mono B_2.out.size)
  have Z_3 : Hid ((W2.alloc (.cells o1 34)).heap[w.heap.size]? = some (.cells zeroPk 34 (0, 0))) := (hb3.block _ (Ca.lt_of_heap Z_2.out)).trans Z_2.out
  have E_3 : Hid ((W2.alloc (.cells o1 34)).heap[ge]? = some (.cells #[.int .u64 d, .int .u64 s, .bool tg, .int .i64 tag, .int .i64 2048] 25 (0, 0))) := (hb3.block _ (Ca.lt_of_heap E_2.out)).trans E_2.out
  have P_3 : Hid ((W2.alloc (.cells o1 34)).heap[W2.heap.size]? = some (.cells o1 34 (0, 0))) := heap_alloc_new W2 _
  have S_3 : Hid (BS (W2.alloc (.cells o1 34)) (some ⟨b, off, none⟩) n zs) := S_2.out.below hb3
  have N_3 : Hid (w.heap.size < ge ∧ ge < W2.heap.size) := ⟨N_2.out, Ca.lt_of_heap E_2.out⟩
  obtain ⟨W3, hW⟩ : ∃ V, W2.alloc (.cells o1 34) = V := ⟨_, rfl⟩
  obtain ⟨gp, hgp⟩ : ∃ n, W2.heap.size = n := ⟨_, rfl⟩
  rw [hW] at B_3 Z_3 E_3 P_3 S_3 ⊢
  rw [hgp] at P_3 N_3 ⊢
  clear hW hgp hb3 B_2 Z_2 S_2 E_2 N_2 hbld
  refine StopP.mk ?_
  have cty := (Ca.cell_row E_3.out 4).trans (show _ = some (Value.int .i64 2048) by rfl)
  have i1 : (A : Int) ≤ (n : Int) := by omega
  have i2 : (n : Int) ≤ (cap : Int) := by omega
  have i3 : ¬ cap = A := by omega
  go_wp2_with fail
  refine (HI.out _ (S_3.out.drop (by omega) A (by omega))).mono ?_
  rintro e W4 ⟨rfl, hb⟩
  have B_4 : Hid (Below w.heap.size w W4) := B_3.out.trans (hb.mono B_3.out.size)
  have Z_4 : Hid (W4.heap[w.heap.size]? = some (.cells zeroPk 34 (0, 0))) := (hb.block _ (Ca.lt_of_heap Z_3.out)).trans Z_3.out
  have P_4 : Hid (W4.heap[gp]? = some (.cells o1 34 (0, 0))) := (hb.block _ (Ca.lt_of_heap P_3.out)).trans P_3.out
  have S_4 : Hid (BS W4 (some ⟨b, off, none⟩) n zs) := S_3.out.below hb
  clear hb HI B_3 Z_3 E_3 P_3 S_3 cty
  go_wp2_with (first
    | ((with_reducible (refine isSt 30 _ _ rfl rfl ?_)); refine Ca.wpList_store_new rfl 30 _ _ rfl #[.int .i64 0, .int .i64 0, .int .i64 0, .int .i64 0, .int .i64 0, .int .u32 0, .int .u32 0, .string ⟨#[]⟩] #[.int .i64 tos, .int .i64 id, .int .i64 fr, .int .i64 ttl, .int .i64 pr, .int .u32 src, .int .u32 dst, .string (strOfNums io)] _ rfl rfl rfl info_ip rfl (by kernel_rfl) ?_; refine StopP.out ?_)
    | fail)
  have hb5 := below1 W4 (.cells #[.int .i64 tos, .int .i64 id, .int .i64 fr, .int .i64 ttl, .int .i64 pr, .int .u32 src, .int .u32 dst, .string (strOfNums io)] 30)
  have HLn : Hid (zs.length = n) := S_4.out.len
  have NN : Hid (w.heap.size < ge ∧ ge < gp ∧ gp < W4.heap.size ∧ b < w.heap.size) := ⟨N_3.out.1, N_3.out.2, Ca.lt_of_heap P_4.out, HB9.out⟩
  have B_W5 : Hid (Below w.heap.size w (W4.alloc (.cells #[.int .i64 tos, .int .i64 id, .int .i64 fr, .int .i64 ttl, .int .i64 pr, .int .u32 src, .int .u32 dst, .string (strOfNums io)] 30))) := B_4.out.trans (hb5.mono B_4.out.size)
  have Z_W5 : Hid ((W4.alloc (.cells #[.int .i64 tos, .int .i64 id, .int .i64 fr, .int .i64 ttl, .int .i64 pr, .int .u32 src, .int .u32 dst, .string (strOfNums io)] 30)).heap[w.heap.size]? = some (.cells zeroPk 34 (0, 0))) := (hb5.block _ (Ca.lt_of_heap Z_4.out)).trans Z_4.out
  have P_W5 : Hid ((W4.alloc (.cells #[.int .i64 tos, .int .i64 id, .int .i64 fr, .int .i64 ttl, .int .i64 pr, .int .u32 src, .int .u32 dst, .string (strOfNums io)] 30)).heap[gp]? = some (.cells o1 34 (0, 0))) := (hb5.block _ (Ca.lt_of_heap P_4.out)).trans P_4.out
  have A_W5 : Hid ((W4.alloc (.cells #[.int .i64 tos, .int .i64 id, .int .i64 fr, .int .i64 ttl, .int .i64 pr, .int .u32 src, .int .u32 dst, .string (strOfNums io)] 30)).heap[W4.heap.size]? = some (.cells #[.int .i64 tos, .int .i64 id, .int .i64 fr, .int .i64 ttl, .int .i64 pr, .int .u32 src, .int .u32 dst, .string (strOfNums io)] 30 (0, 0))) := heap_alloc_new W4 _
  have D_W5 : Hid (BS (W4.alloc (.cells #[.int .i64 tos, .int .i64 id, .int .i64 fr, .int .i64 ttl, .int .i64 pr, .int .u32 src, .int .u32 dst, .string (strOfNums io)] 30)) (some ⟨b, off + A + tt, none⟩) (n - A - tt) (zs.drop (A + tt))) := by show BS _ _ _ _; have := ((S_4.out.below hb5).drop (by omega) A (by omega)).drop (by omega) tt (by omega); rw [List.drop_drop] at this; exact this
  have M_W5 : Hid (BS (W4.alloc (.cells #[.int .i64 tos, .int .i64 id, .int .i64 fr, .int .i64 ttl, .int .i64 pr, .int .u32 src, .int .u32 dst, .string (strOfNums io)] 30)) (some ⟨b, off + A + hs, none⟩) (tt - hs) ((zs.drop (A + hs)).take (tt - hs))) := by show BS _ _ _ _; have := (((S_4.out.below hb5).drop (by omega) A (by omega)).drop (by omega) hs (by omega)).take (tt - hs) (by omega); rw [List.drop_drop] at this; exact this
  obtain ⟨W5, hW⟩ : ∃ V, W4.alloc (.cells #[.int .i64 tos, .int .i64 id, .int .i64 fr, .int .i64 ttl, .int .i64 pr, .int .u32 src, .int .u32 dst, .string (strOfNums io)] 30) = V := ⟨_, rfl⟩
  obtain ⟨ga, hga⟩ : ∃ n, W4.heap.size = n := ⟨_, rfl⟩
  rw [hW] at B_W5 Z_W5 P_W5 A_W5 D_W5 M_W5 ⊢
  rw [hga] at A_W5 NN ⊢
  clear hW hga hb5 B_4 Z_4 P_4 S_4 N_3 HB9
  have hD : strOfNums (zs.drop (A + tt)) = pd := by
    rw [← HPD.out]
  have hM : strOfNums ((zs.drop (A + hs)).take (tt - hs)) = dd := by
    rw [← HDD.out]
  have hM9 : StopP _ := StopP.mk hM
  clear HPD HDD hM
  obtain ⟨o2, ho2⟩ : ∃ p, o1.setIfInBounds 11 (.bool true) = p := ⟨_, rfl⟩
  have Eo2 : StopP (o1.setIfInBounds 11 (.bool true) = o2) := StopP.mk ho2
  have Zo2 : Hid (o2.size = 36) := by show _ = _; rw [← ho2]; rw [Array.size_setIfInBounds]; exact Zo1.out
  clear ho2
  obtain ⟨o3, ho3⟩ : ∃ p, Ca.putC o2 12 (#[.int .i64 tos, .int .i64 id, .int .i64 fr, .int .i64 ttl, .int .i64 pr, .int .u32 src, .int .u32 dst, .string (strOfNums io)]).toList = p := ⟨_, rfl⟩
  have Eo3 : StopP (Ca.putC o2 12 (#[.int .i64 tos, .int .i64 id, .int .i64 fr, .int .i64 ttl, .int .i64 pr, .int .u32 src, .int .u32 dst, .string (strOfNums io)]).toList = o3) := StopP.mk ho3
  have Zo3 : Hid (o3.size = 36) := by show _ = _; rw [← ho3]; rw [Ca.putC_size]; exact Zo2.out
  clear ho3
  obtain ⟨o4, ho4⟩ : ∃ p, o3.setIfInBounds 35 (.string pd) = p := ⟨_, rfl⟩
  have Eo4 : StopP (o3.setIfInBounds 35 (.string pd) = o4) := StopP.mk ho4
  have Zo4 : Hid (o4.size = 36) := by show _ = _; rw [← ho4]; rw [Array.size_setIfInBounds]; exact Zo3.out
  clear ho4
  have ER : o4.setIfInBounds 33 (.string dd) = r := by rw [← HR.out, ← Eo4.out, ← Eo3.out, ← Eo2.out, ← EO1.out]
  have Zr : Hid (r.size = 36) := by show _ = _; rw [← ER, Array.size_setIfInBounds]; exact Zo4.out
  have Orr : Hid (r.all (·.oneCell') = true) := by show _ = _; rw [← HR.out]; kernel_rfl
  have D33 : Hid (o4[33]? = some (.string ⟨#[]⟩)) := by show _ = _; rw [← Eo4.out, ← Eo3.out, ← Eo2.out, ← EO1.out]; kernel_rfl
  have ER9 : StopP _ := StopP.mk ER
  clear HR ER
  refine StopP.mk ?_
  go_wp2_with fail
  have j1 : (tt : Int) ≤ ((n - A : Nat) : Int) := by omega
  have j2 : ((n - A : Nat) : Int) ≤ ((cap - A : Nat) : Int) := by omega
  have j3 : ¬ cap - A = tt := by have := HC9.out; omega

  refine wp_region_held_drew (S := (fun W => W.heap[ga]? = some (.cells #[.int .i64 tos, .int .i64 id, .int .i64 fr, .int .i64 ttl, .int .i64 pr, .int .u32 src, .int .u32 dst, .string (strOfNums io)] 30 (0, 0)) ∧ BS W (some ⟨b, off + A + tt, none⟩) (n - A - tt) (zs.drop (A + tt)))) (by kernel_rfl) ⟨A_W5.out, D_W5.out.drew⟩ (fun hHeld => ?_)
  have B_V1 : Hid (Below w.heap.size w W5.drew) := B_W5.out.drew
  have Z_V1 : Hid (W5.drew.heap[w.heap.size]? = some (.cells zeroPk 34 (0, 0))) := Z_W5.out
  have P_V1 : Hid (W5.drew.heap[gp]? = some (.cells o1 34 (0, 0))) := P_W5.out
  have A_V1 : Hid (W5.drew.heap[ga]? = some (.cells #[.int .i64 tos, .int .i64 id, .int .i64 fr, .int .i64 ttl, .int .i64 pr, .int .u32 src, .int .u32 dst, .string (strOfNums io)] 30 (0, 0))) := A_W5.out
  have D_V1 : Hid (BS W5.drew (some ⟨b, off + A + tt, none⟩) (n - A - tt) (zs.drop (A + tt))) := D_W5.out.drew
  have M_V1 : Hid (BS W5.drew (some ⟨b, off + A + hs, none⟩) (tt - hs) ((zs.drop (A + hs)).take (tt - hs))) := M_W5.out.drew
  clear B_W5 Z_W5 P_W5 A_W5 D_W5 M_W5
  obtain ⟨V1, hW⟩ : ∃ V, W5.drew = V := ⟨_, rfl⟩
  rw [hW] at B_V1 Z_V1 P_V1 A_V1 D_V1 M_V1 hHeld ⊢
  clear hW
  refine wpAnyH_take (i := 0) (v := .agg #[.int .i64 tos, .int .i64 id, .int .i64 fr, .int .i64 ttl, .int .i64 pr, .int .u32 src, .int .u32 dst, .string (strOfNums io)]) rfl (by kernel_rfl) (by kernel_rfl) (by kernel_rfl) (fun _ _ _ h => h) (Ca.yields_at (by rfl) 30 _ rfl ga 0 8 rfl 30 #[.int .i64 tos, .int .i64 id, .int .i64 fr, .int .i64 ttl, .int .i64 pr, .int .u32 src, .int .u32 dst, .string (strOfNums io)] #[.int .i64 tos, .int .i64 id, .int .i64 fr, .int .i64 ttl, .int .i64 pr, .int .u32 src, .int .u32 dst, .string (strOfNums io)] _ (fun W hW => hW.1) (by kernel_rfl) rfl Try.underlying30 rfl (by kernel_rfl)) (by assumption) ?_
  try simp only [List.getElem_toArray, List.getElem_cons_zero, List.getElem_cons_succ, Act.put, List.setIfInBounds_toArray, List.set_cons_zero, List.set_cons_succ]
  refine wpAnyH_take (i := 1) (v := ?_) rfl (by kernel_rfl) (by kernel_rfl) (by kernel_rfl) (fun _ _ _ h => h) (Or.inl ⟨by rfl, ?_⟩) (by assumption) ?_
  rotate_left
  · (intro w hSw; (try dsimp only at hSw); go_simp; try with_reducible rfl)
  try simp only [List.getElem_toArray, List.getElem_cons_zero, List.getElem_cons_succ, Act.put, List.setIfInBounds_toArray, List.set_cons_zero, List.set_cons_succ]
  refine wpAnyH_take (i := 2) (v := ?_) rfl (by kernel_rfl) (by kernel_rfl) (by kernel_rfl) (fun _ _ _ h => h) (Or.inl ⟨by rfl, ?_⟩) (by assumption) ?_
  rotate_left
  · (intro w hSw; (try dsimp only at hSw); go_simp; try with_reducible rfl)
  try simp only [List.getElem_toArray, List.getElem_cons_zero, List.getElem_cons_succ, Act.put, List.setIfInBounds_toArray, List.set_cons_zero, List.set_cons_succ]
  refine wpAnyH_take (i := 3) (v := ?_) rfl (by kernel_rfl) (by kernel_rfl) (by kernel_rfl) (fun _ _ _ h => h) (Or.inl ⟨by rfl, ?_⟩) (by assumption) ?_
  rotate_left
  · (intro w hSw; (try dsimp only at hSw); go_simp; try with_reducible rfl)
  try simp only [List.getElem_toArray, List.getElem_cons_zero, List.getElem_cons_succ, Act.put, List.setIfInBounds_toArray, List.set_cons_zero, List.set_cons_succ]
  refine wpAnyH_take (i := 4) (v := .string pd) rfl (by kernel_rfl) (by kernel_rfl) (by kernel_rfl) (fun _ _ _ h => h) (Or.inl ⟨by rfl, fun W hW => by have c := run_conv_bs (P := Try.prog) (cap - A - tt) hW.2 22 9 5 Try.underlying22 Try.underlying5 Try.underlying9; rw [hD] at c; go_simp⟩) (by assumption) ?_
  try simp only [List.getElem_toArray, List.getElem_cons_zero, List.getElem_cons_succ, Act.put, List.setIfInBounds_toArray, List.set_cons_zero, List.set_cons_succ]
  refine wpAnyH_take (i := 5) (v := ?_) rfl (by kernel_rfl) (by kernel_rfl) (by kernel_rfl) (fun _ _ _ h => h) (Or.inl ⟨by rfl, ?_⟩) (by assumption) ?_
  rotate_left
  · (intro w hSw; (try dsimp only at hSw); go_simp; try with_reducible rfl)
  try simp only [List.getElem_toArray, List.getElem_cons_zero, List.getElem_cons_succ, Act.put, List.setIfInBounds_toArray, List.set_cons_zero, List.set_cons_succ]
  have cc := (Ca.cell_row P_V1.out 11).trans (show _ = some (Value.bool false) by rw [← EO1.out]; kernel_rfl)
  have ff := frozen_of_row V1 _ 11 _ _ P_V1.out
  refine wpAnyH_ready (rs := [6]) (by kernel_rfl) (by simp) ?_
  refine AllReadyH.cons (o := _) rfl (fun K hK => ?_) AllReadyH.nil
  go_simp
  clear cc ff
  have B_V2 : Hid (Below w.heap.size w (V1.setCell ⟨gp, 11, none⟩ (.bool true))) := B_V1.out.setCell (show w.heap.size ≤ gp by have := NN.out; omega) _
  have Z_V2 : Hid ((V1.setCell ⟨gp, 11, none⟩ (.bool true)).heap[w.heap.size]? = some (.cells zeroPk 34 (0, 0))) := (Below.heap_setCell _ _ _ _ (show w.heap.size ≠ gp by have := NN.out; omega)).trans Z_V1.out
  have P_V2 : Hid ((V1.setCell ⟨gp, 11, none⟩ (.bool true)).heap[gp]? = some (.cells o2 34 (0, 0))) := by show _ = _; rw [← Eo2.out]; exact Ca.row_setCell P_V1.out 11 _
  have A_V2 : Hid ((V1.setCell ⟨gp, 11, none⟩ (.bool true)).heap[ga]? = some (.cells #[.int .i64 tos, .int .i64 id, .int .i64 fr, .int .i64 ttl, .int .i64 pr, .int .u32 src, .int .u32 dst, .string (strOfNums io)] 30 (0, 0))) := (Below.heap_setCell _ _ _ _ (show ga ≠ gp by have := NN.out; omega)).trans A_V1.out
  have D_V2 : Hid (BS (V1.setCell ⟨gp, 11, none⟩ (.bool true)) (some ⟨b, off + A + tt, none⟩) (n - A - tt) (zs.drop (A + tt))) := bs_far D_V1.out (show gp ≠ b by have := NN.out; omega)
  have M_V2 : Hid (BS (V1.setCell ⟨gp, 11, none⟩ (.bool true)) (some ⟨b, off + A + hs, none⟩) (tt - hs) ((zs.drop (A + hs)).take (tt - hs))) := bs_far M_V1.out (show gp ≠ b by have := NN.out; omega)
  clear B_V1 Z_V1 P_V1 A_V1 D_V1 M_V1
  obtain ⟨V2, hW⟩ : ∃ V, (V1.setCell ⟨gp, 11, none⟩ (.bool true)) = V := ⟨_, rfl⟩
  rw [hW] at B_V2 Z_V2 P_V2 A_V2 D_V2 M_V2 ⊢
  clear hW
  refine hK _ _ ⟨A_V2.out, D_V2.out⟩ (fun hHeld => ?_)
  try simp only [List.getElem_toArray, List.getElem_cons_zero, List.getElem_cons_succ, Act.put, List.setIfInBounds_toArray, List.set_cons_zero, List.set_cons_succ]
  refine wpAnyH_take (i := 7) (v := ?_) rfl (by kernel_rfl) (by kernel_rfl) (by kernel_rfl) (fun _ _ _ h => h) (Or.inl ⟨by rfl, ?_⟩) (by assumption) ?_
  rotate_left
  · (intro w hSw; (try dsimp only at hSw); go_simp; try with_reducible rfl)
  try simp only [List.getElem_toArray, List.getElem_cons_zero, List.getElem_cons_succ, Act.put, List.setIfInBounds_toArray, List.set_cons_zero, List.set_cons_succ]
  refine wpAnyH_ready (rs := [8]) (by kernel_rfl) (by simp) ?_
  refine AllReadyH.cons (o := _) rfl (fun K hK => ?_) AllReadyH.nil
  have hs9 : 12 + (#[.int .i64 tos, .int .i64 id, .int .i64 fr, .int .i64 ttl, .int .i64 pr, .int .u32 src, .int .u32 dst, .string (strOfNums io)] : Array Value).size ≤ o2.size := by rw [Zo2.out]; exact Nat.le_of_ble_eq_true (by kernel_rfl)
  refine Ca.step_store_at rfl 30 _ _ rfl gp 12 o2 #[.int .i64 tos, .int .i64 id, .int .i64 fr, .int .i64 ttl, .int .i64 pr, .int .u32 src, .int .u32 dst, .string (strOfNums io)] 34 rfl rfl P_V2.out (by kernel_rfl) hs9 (by kernel_rfl) ?_
  intro V3 y1 y2 y3 y4
  have B_V3 : Hid (Below w.heap.size w V3) := B_V2.out.trans (y4.mono (show w.heap.size ≤ gp by have := NN.out; omega))
  have Z_V3 : Hid (V3.heap[w.heap.size]? = some (.cells zeroPk 34 (0, 0))) := (y2 _ (show w.heap.size ≠ gp by have := NN.out; omega)).trans Z_V2.out
  have P_V3 : Hid (V3.heap[gp]? = some (.cells o3 34 (0, 0))) := by show _ = _; rw [← Eo3.out]; exact y1
  have A_V3 : Hid (V3.heap[ga]? = some (.cells #[.int .i64 tos, .int .i64 id, .int .i64 fr, .int .i64 ttl, .int .i64 pr, .int .u32 src, .int .u32 dst, .string (strOfNums io)] 30 (0, 0))) := (y2 _ (show ga ≠ gp by have := NN.out; omega)).trans A_V2.out
  have D_V3 : Hid (BS V3 (some ⟨b, off + A + tt, none⟩) (n - A - tt) (zs.drop (A + tt))) := D_V2.out.far9 y2 (show b ≠ gp by have := NN.out; omega)
  have M_V3 : Hid (BS V3 (some ⟨b, off + A + hs, none⟩) (tt - hs) ((zs.drop (A + hs)).take (tt - hs))) := M_V2.out.far9 y2 (show b ≠ gp by have := NN.out; omega)
  clear y1 y2 y3 y4
  clear B_V2 Z_V2 P_V2 A_V2 D_V2 M_V2
  clear hs9
  refine hK _ _ ⟨A_V3.out, D_V3.out⟩ (fun hHeld => ?_)
  try simp only [List.getElem_toArray, List.getElem_cons_zero, List.getElem_cons_succ, Act.put, List.setIfInBounds_toArray, List.set_cons_zero, List.set_cons_succ]
  refine wpAnyH_take (i := 9) (v := ?_) rfl (by kernel_rfl) (by kernel_rfl) (by kernel_rfl) (fun _ _ _ h => h) (Or.inl ⟨by rfl, ?_⟩) (by assumption) ?_
  rotate_left
  · (intro w hSw; (try dsimp only at hSw); go_simp; try with_reducible rfl)
  try simp only [List.getElem_toArray, List.getElem_cons_zero, List.getElem_cons_succ, Act.put, List.setIfInBounds_toArray, List.set_cons_zero, List.set_cons_succ]
  have cc := (Ca.cell_row P_V3.out 35).trans (show _ = some (Value.string ⟨#[]⟩) by rw [← Eo3.out, ← Eo2.out, ← EO1.out]; kernel_rfl)
  have ff := frozen_of_row V3 _ 35 _ _ P_V3.out
  refine wpAnyH_ready (rs := [10]) (by kernel_rfl) (by simp) ?_
  refine AllReadyH.cons (o := _) rfl (fun K hK => ?_) AllReadyH.nil
  go_simp
  clear cc ff
  have B_V4 : Hid (Below w.heap.size w (V3.setCell ⟨gp, 35, none⟩ (.string pd))) := B_V3.out.setCell (show w.heap.size ≤ gp by have := NN.out; omega) _
  have Z_V4 : Hid ((V3.setCell ⟨gp, 35, none⟩ (.string pd)).heap[w.heap.size]? = some (.cells zeroPk 34 (0, 0))) := (Below.heap_setCell _ _ _ _ (show w.heap.size ≠ gp by have := NN.out; omega)).trans Z_V3.out
  have P_V4 : Hid ((V3.setCell ⟨gp, 35, none⟩ (.string pd)).heap[gp]? = some (.cells o4 34 (0, 0))) := by show _ = _; rw [← Eo4.out]; exact Ca.row_setCell P_V3.out 35 _
  have A_V4 : Hid ((V3.setCell ⟨gp, 35, none⟩ (.string pd)).heap[ga]? = some (.cells #[.int .i64 tos, .int .i64 id, .int .i64 fr, .int .i64 ttl, .int .i64 pr, .int .u32 src, .int .u32 dst, .string (strOfNums io)] 30 (0, 0))) := (Below.heap_setCell _ _ _ _ (show ga ≠ gp by have := NN.out; omega)).trans A_V3.out
  have D_V4 : Hid (BS (V3.setCell ⟨gp, 35, none⟩ (.string pd)) (some ⟨b, off + A + tt, none⟩) (n - A - tt) (zs.drop (A + tt))) := bs_far D_V3.out (show gp ≠ b by have := NN.out; omega)
  have M_V4 : Hid (BS (V3.setCell ⟨gp, 35, none⟩ (.string pd)) (some ⟨b, off + A + hs, none⟩) (tt - hs) ((zs.drop (A + hs)).take (tt - hs))) := bs_far M_V3.out (show gp ≠ b by have := NN.out; omega)
  clear B_V3 Z_V3 P_V3 A_V3 D_V3 M_V3
  obtain ⟨V4, hW⟩ : ∃ V, (V3.setCell ⟨gp, 35, none⟩ (.string pd)) = V := ⟨_, rfl⟩
  rw [hW] at B_V4 Z_V4 P_V4 A_V4 D_V4 M_V4 ⊢
  clear hW
  refine hK _ _ ⟨A_V4.out, D_V4.out⟩ (fun hHeld => ?_)
  refine wpAnyH_done (by kernel_rfl) ?_ _
  clear hHeld
  try simp only [List.getElem_toArray, List.getElem_cons_zero, List.getElem_cons_succ, Act.put, List.setIfInBounds_toArray, List.set_cons_zero, List.set_cons_succ]
  clear hD
  go_wp2_with (first
    | ((with_reducible (refine isLd 30 _ rfl ?_)); refine wpList_load_row rfl 30 _ rfl ga rfl 30 #[.int .i64 tos, .int .i64 id, .int .i64 fr, .int .i64 ttl, .int .i64 pr, .int .u32 src, .int .u32 dst, .string (strOfNums io)] (0, 0) _ A_V4.out Try.underlying30 rfl info_ip ?_)
    | fail)
  refine (HW.out _).mono ?_
  rintro e W8 ⟨rfl, hb⟩
  have B_8 : Hid (Below w.heap.size w W8) := B_V4.out.trans (hb.mono B_V4.out.size)
  have Z_8 : Hid (W8.heap[w.heap.size]? = some (.cells zeroPk 34 (0, 0))) := (hb.block _ (Ca.lt_of_heap Z_V4.out)).trans Z_V4.out
  have P_8 : Hid (W8.heap[gp]? = some (.cells o4 34 (0, 0))) := (hb.block _ (Ca.lt_of_heap P_V4.out)).trans P_V4.out
  have M_8 : Hid (BS W8 (some ⟨b, off + A + hs, none⟩) (tt - hs) ((zs.drop (A + hs)).take (tt - hs))) := M_V4.out.below hb
  clear hb HW B_V4 Z_V4 P_V4 A_V4 D_V4 M_V4
  have k1 : (hs : Int) ≤ (tt : Int) := by omega
  have k2 : (tt : Int) ≤ ((cap - A : Nat) : Int) := by omega
  have k3 : ¬ cap - A = hs := by have := HC9.out; omega
  have cv := run_conv_bs (P := Try.prog) (w := W8) (cap - A - hs) M_8.out 22 9 5 Try.underlying22 Try.underlying5 Try.underlying9
  rw [hM9.out] at cv
  have c33 := (Ca.cell_row P_8.out 33).trans D33.out
  have f33 := frozen_of_row W8 _ 33 _ _ P_8.out
  have P_9 : Hid ((W8.setCell ⟨gp, 33, none⟩ (.string dd)).heap[gp]? = some (.cells r 34 (0, 0))) := by show _ = _; rw [← ER9.out]; exact Ca.row_setCell P_8.out 33 _
  have Z_9 : Hid ((W8.setCell ⟨gp, 33, none⟩ (.string dd)).heap[w.heap.size]? = some (.cells zeroPk 34 (0, 0))) := (Below.heap_setCell _ _ _ _ (show w.heap.size ≠ gp by have := NN.out; omega)).trans Z_8.out
  have B_9 : Hid (Below w.heap.size w (W8.setCell ⟨gp, 33, none⟩ (.string dd))) := B_8.out.setCell (show w.heap.size ≤ gp by have := NN.out; omega) _
  go_wp2_with (first
    | ((with_reducible (refine isLd 34 _ rfl ?_)); refine wpList_load_row rfl 34 _ rfl gp rfl 34 r (0, 0) _ P_9.out Try.underlying34 rfl (info36 Zr.out) ?_)
    | ((with_reducible (refine isSt 34 _ _ rfl rfl ?_)); refine Ca.wpList_store_row rfl 34 _ _ rfl (w.heap.size) zeroPk r 34 rfl rfl Z_9.out (info36 Zr.out) (Eq.trans (b := 36) rfl Zr.out.symm) Orr.out ?_)
    | fail)
  intro W9 y1 y2 y3 y4
  go_wp2
  exact bodyPost_ret (results_pk (p := 2) (u := 3) rfl _ _ (w.heap.size) r rfl y1 Zr.out) rfl ⟨rfl, B_9.out.trans (y4.mono (by omega))⟩
set_option maxHeartbeats 8000000 in
theorem rparse_fragB (w : World) (b off n cap A : Nat) (zs : List Int) (h : BS w (some ⟨b, off, none⟩) n zs) (hcap : n ≤ cap) (hs tt : Nat) (h0 : 0 < hs) (hst : hs ≤ tt) (hAn : A + tt ≤ n) (hc : cap = A + tt) (hht : hs = tt) (hA0 : 0 < A) (d s tag : Int) (tg : Bool) (tos id fr ttl pr src dst : Int) (io : List Int) (pd dd : ByteArray) (hpd : strOfNums (zs.drop (A + tt)) = pd) (hdd : strOfNums ((zs.drop (A + hs)).take (tt - hs)) = dd) (r : Array Value) (hr : ((Ca.putC ((Ca.putC zeroPk 0 (#[.int .u64 d, .int .u64 s, .bool tg, .int .i64 tag, .int .i64 2048]).toList).setIfInBounds 11 (.bool true)) 12 (#[.int .i64 tos, .int .i64 id, .int .i64 fr, .int .i64 ttl, .int .i64 pr, .int .u32 src, .int .u32 dst, .string (strOfNums io)]).toList).setIfInBounds 35 (.string pd)).setIfInBounds 33 (.string dd) = r)
    (HH : Hid (∀ W, BS W (some ⟨b, off, none⟩) n zs → Calls Try.prog 22 #[.slice (some ⟨b, off, none⟩) n cap] W fun e w' => e = .returned (Eth.ethV d s tg tag 2048 A 0) ∧ Below W.heap.size W w'))
    (HI : Hid (∀ W, BS W (some ⟨b, off + A, none⟩) (n - A) (zs.drop A) → Calls Try.prog 24 #[.slice (some ⟨b, off + A, none⟩) (n - A) (cap - A)] W fun e w' => e = .returned (.tuple #[.agg #[.int .i64 tos, .int .i64 id, .int .i64 fr, .int .i64 ttl, .int .i64 pr, .int .u32 src, .int .u32 dst, .string (strOfNums io)], .int .i64 hs, .int .i64 tt, .int .i64 0]) ∧ Below W.heap.size W w'))
    (HW : Hid (∀ W, Calls Try.prog 25 #[.agg #[.int .i64 tos, .int .i64 id, .int .i64 fr, .int .i64 ttl, .int .i64 pr, .int .u32 src, .int .u32 dst, .string (strOfNums io)]] W fun e w' => e = .returned (.bool false) ∧ Below W.heap.size W w')) :
    Calls Try.prog 9 #[.slice (some ⟨b, off, none⟩) n cap] w fun e w' => e = .returned (.tuple #[.agg r, .int .i64 0]) ∧ Below w.heap.size w w' := by
  have hb0 : b < w.heap.size := by
    rcases h.cells with h0 | ⟨b', off', e, hc'⟩
    · omega
    · cases e
      have hl := h.len
      exact cell_lt (hc' 0 (by omega))
  have HB9 : Hid (b < w.heap.size) := hb0
  have HC9 : StopP _ := StopP.mk (And.intro hc hht)
  have HPD : StopP (strOfNums (zs.drop (A + tt)) = pd) := StopP.mk hpd
  have HDD : StopP (strOfNums ((zs.drop (A + hs)).take (tt - hs)) = dd) := StopP.mk hdd
  have HR : StopP (((Ca.putC ((Ca.putC zeroPk 0 (#[.int .u64 d, .int .u64 s, .bool tg, .int .i64 tag, .int .i64 2048]).toList).setIfInBounds 11 (.bool true)) 12 (#[.int .i64 tos, .int .i64 id, .int .i64 fr, .int .i64 ttl, .int .i64 pr, .int .u32 src, .int .u32 dst, .string (strOfNums io)]).toList).setIfInBounds 35 (.string pd)).setIfInBounds 33 (.string dd) = r) := StopP.mk hr
  clear hpd hdd hr hb0 hc hht
  have HB0 : Hid (BS w (some ⟨b, off, none⟩) n zs) := h
  clear h
  have L2 : Hid ((w.alloc (.cells zeroPk 34)).heap[w.heap.size]? = some (.cells zeroPk 34 (0, 0))) := heap_alloc_new w _
  have LB : Hid (Below w.heap.size w (w.alloc (.cells zeroPk 34))) := below1 w _
  go_enter Try.func9, Try.ntmps9
  go_wp2_with fail
  refine (HH.out _ (HB0.out.below LB.out)).mono ?_
  unfold Eth.ethV
  rintro e W1 ⟨rfl, hb⟩
  have B_1 : Hid (Below w.heap.size w W1) := LB.out.trans (hb.mono (by first | exact LB.out.size | (simp; omega)))
  have Z_1 : Hid (W1.heap[w.heap.size]? = some (.cells zeroPk 34 (0, 0))) := (hb.block _ (Ca.lt_of_heap L2.out)).trans L2.out
  have S_1 : Hid (BS W1 (some ⟨b, off, none⟩) n zs) := (HB0.out.below LB.out).below hb
  clear hb L2 LB HH HB0
  obtain ⟨o1, ho1⟩ : ∃ p, Ca.putC zeroPk 0 (#[.int .u64 d, .int .u64 s, .bool tg, .int .i64 tag, .int .i64 2048]).toList = p := ⟨_, rfl⟩
  have Zo1 : Hid (o1.size = 36) := by show _ = _; rw [← ho1]; kernel_rfl
  have Oo1 : Hid (o1.all (·.oneCell') = true) := by show _ = _; rw [← ho1]; kernel_rfl
  have hbld : Try.prog.built 34 [(0, .agg #[.int .u64 d, .int .u64 s, .bool tg, .int .i64 tag, .int .i64 2048])] = some o1 := by rw [← ho1]; kernel_rfl
  have EO1 : StopP (Ca.putC zeroPk 0 (#[.int .u64 d, .int .u64 s, .bool tg, .int .i64 tag, .int .i64 2048]).toList = o1) := StopP.mk ho1
  clear ho1
  go_wp2_with (first
    | ((with_reducible (refine isSt 25 _ _ rfl rfl ?_)); refine Ca.wpList_store_new rfl 25 _ _ rfl #[.int .u64 0, .int .u64 0, .bool false, .int .i64 0, .int .i64 0] #[.int .u64 d, .int .u64 s, .bool tg, .int .i64 tag, .int .i64 2048] _ rfl rfl rfl info_eth rfl (by kernel_rfl) ?_; refine StopP.out ?_)
    | fail)
  have hb2 := below1 W1 (.cells #[.int .u64 d, .int .u64 s, .bool tg, .int .i64 tag, .int .i64 2048] 25)
  have B_2 : Hid (Below w.heap.size w (W1.alloc (.cells #[.int .u64 d, .int .u64 s, .bool tg, .int .i64 tag, .int .i64 2048] 25))) := B_1.out.trans (hb2.mono B_1.out.size)
  have Z_2 : Hid ((W1.alloc (.cells #[.int .u64 d, .int .u64 s, .bool tg, .int .i64 tag, .int .i64 2048] 25)).heap[w.heap.size]? = some (.cells zeroPk 34 (0, 0))) := (hb2.block _ (Ca.lt_of_heap Z_1.out)).trans Z_1.out
  have E_2 : Hid ((W1.alloc (.cells #[.int .u64 d, .int .u64 s, .bool tg, .int .i64 tag, .int .i64 2048] 25)).heap[W1.heap.size]? = some (.cells #[.int .u64 d, .int .u64 s, .bool tg, .int .i64 tag, .int .i64 2048] 25 (0, 0))) := heap_alloc_new W1 _
  have S_2 : Hid (BS (W1.alloc (.cells #[.int .u64 d, .int .u64 s, .bool tg, .int .i64 tag, .int .i64 2048] 25)) (some ⟨b, off, none⟩) n zs) := S_1.out.below hb2
  have N_2 : Hid (w.heap.size < W1.heap.size) := Ca.lt_of_heap Z_1.out
  obtain ⟨W2, hW⟩ : ∃ V, (W1.alloc (.cells #[.int .u64 d, .int .u64 s, .bool tg, .int .i64 tag, .int .i64 2048] 25)) = V := ⟨_, rfl⟩
  obtain ⟨ge, hge⟩ : ∃ n, W1.heap.size = n := ⟨_, rfl⟩
  rw [hW] at B_2 Z_2 E_2 S_2 ⊢
  rw [hge] at E_2 N_2 ⊢
  clear hW hge hb2 B_1 Z_1 S_1
  refine StopP.mk ?_
  go_wp2_with (first
    | ((with_reducible (refine isLd 25 _ rfl ?_)); refine wpList_load_row rfl 25 _ rfl ge rfl 25 #[.int .u64 d, .int .u64 s, .bool tg, .int .i64 tag, .int .i64 2048] (0, 0) _ E_2.out Try.underlying25 rfl info_eth ?_; refine Ca.wpList_build_as rfl 34 _ rfl o1 (by rw [List.map_toArray]; show Try.prog.built 34 [(0, .agg #[.int .u64 d, .int .u64 s, .bool tg, .int .i64 tag, .int .i64 2048])] = _; exact hbld) ?_)
    | ((with_reducible (refine isSt 34 _ _ rfl rfl ?_)); refine Ca.wpList_store_new rfl 34 _ _ rfl zeroPk o1 _ rfl rfl rfl (info36 Zo1.out) (Eq.trans (b := 36) rfl Zo1.out.symm) Oo1.out ?_; refine StopP.out ?_)
    | fail)
  have hb3 := below1 W2 (.cells o1 34)
  have B_3 : Hid (Below w.heap.size w (W2.alloc (.cells o1 34))) := B_2.out.trans (hb3.mono B_2.out.size)
  have Z_3 : Hid ((W2.alloc (.cells o1 34)).heap[w.heap.size]? = some (.cells zeroPk 34 (0, 0))) := (hb3.block _ (Ca.lt_of_heap Z_2.out)).trans Z_2.out
  have E_3 : Hid ((W2.alloc (.cells o1 34)).heap[ge]? = some (.cells #[.int .u64 d, .int .u64 s, .bool tg, .int .i64 tag, .int .i64 2048] 25 (0, 0))) := (hb3.block _ (Ca.lt_of_heap E_2.out)).trans E_2.out
  have P_3 : Hid ((W2.alloc (.cells o1 34)).heap[W2.heap.size]? = some (.cells o1 34 (0, 0))) := heap_alloc_new W2 _
  have S_3 : Hid (BS (W2.alloc (.cells o1 34)) (some ⟨b, off, none⟩) n zs) := S_2.out.below hb3
  have N_3 : Hid (w.heap.size < ge ∧ ge < W2.heap.size) := ⟨N_2.out, Ca.lt_of_heap E_2.out⟩
  obtain ⟨W3, hW⟩ : ∃ V, W2.alloc (.cells o1 34) = V := ⟨_, rfl⟩
  obtain ⟨gp, hgp⟩ : ∃ n, W2.heap.size = n := ⟨_, rfl⟩
  rw [hW] at B_3 Z_3 E_3 P_3 S_3 ⊢
  rw [hgp] at P_3 N_3 ⊢
  clear hW hgp hb3 B_2 Z_2 S_2 E_2 N_2 hbld
  refine StopP.mk ?_
  have cty := (Ca.cell_row E_3.out 4).trans (show _ = some (Value.int .i64 2048) by rfl)
  have i1 : (A : Int) ≤ (n : Int) := by omega
  have i2 : (n : Int) ≤ (cap : Int) := by omega
  have i3 : ¬ cap = A := by omega
  go_wp2_with fail
  refine (HI.out _ (S_3.out.drop (by omega) A (by omega))).mono ?_
  rintro e W4 ⟨rfl, hb⟩
  have B_4 : Hid (Below w.heap.size w W4) := B_3.out.trans (hb.mono B_3.out.size)
  have Z_4 : Hid (W4.heap[w.heap.size]? = some (.cells zeroPk 34 (0, 0))) := (hb.block _ (Ca.lt_of_heap Z_3.out)).trans Z_3.out
  have P_4 : Hid (W4.heap[gp]? = some (.cells o1 34 (0, 0))) := (hb.block _ (Ca.lt_of_heap P_3.out)).trans P_3.out
  have S_4 : Hid (BS W4 (some ⟨b, off, none⟩) n zs) := S_3.out.below hb
  clear hb HI B_3 Z_3 E_3 P_3 S_3 cty
  go_wp2_with (first
    | ((with_reducible (refine isSt 30 _ _ rfl rfl ?_)); refine Ca.wpList_store_new rfl 30 _ _ rfl #[.int .i64 0, .int .i64 0, .int .i64 0, .int .i64 0, .int .i64 0, .int .u32 0, .int .u32 0, .string ⟨#[]⟩] #[.int .i64 tos, .int .i64 id, .int .i64 fr, .int .i64 ttl, .int .i64 pr, .int .u32 src, .int .u32 dst, .string (strOfNums io)] _ rfl rfl rfl info_ip rfl (by kernel_rfl) ?_; refine StopP.out ?_)
    | fail)
  have hb5 := below1 W4 (.cells #[.int .i64 tos, .int .i64 id, .int .i64 fr, .int .i64 ttl, .int .i64 pr, .int .u32 src, .int .u32 dst, .string (strOfNums io)] 30)
  have HLn : Hid (zs.length = n) := S_4.out.len
  have NN : Hid (w.heap.size < ge ∧ ge < gp ∧ gp < W4.heap.size ∧ b < w.heap.size) := ⟨N_3.out.1, N_3.out.2, Ca.lt_of_heap P_4.out, HB9.out⟩
  have B_W5 : Hid (Below w.heap.size w (W4.alloc (.cells #[.int .i64 tos, .int .i64 id, .int .i64 fr, .int .i64 ttl, .int .i64 pr, .int .u32 src, .int .u32 dst, .string (strOfNums io)] 30))) := B_4.out.trans (hb5.mono B_4.out.size)
  have Z_W5 : Hid ((W4.alloc (.cells #[.int .i64 tos, .int .i64 id, .int .i64 fr, .int .i64 ttl, .int .i64 pr, .int .u32 src, .int .u32 dst, .string (strOfNums io)] 30)).heap[w.heap.size]? = some (.cells zeroPk 34 (0, 0))) := (hb5.block _ (Ca.lt_of_heap Z_4.out)).trans Z_4.out
  have P_W5 : Hid ((W4.alloc (.cells #[.int .i64 tos, .int .i64 id, .int .i64 fr, .int .i64 ttl, .int .i64 pr, .int .u32 src, .int .u32 dst, .string (strOfNums io)] 30)).heap[gp]? = some (.cells o1 34 (0, 0))) := (hb5.block _ (Ca.lt_of_heap P_4.out)).trans P_4.out
  have A_W5 : Hid ((W4.alloc (.cells #[.int .i64 tos, .int .i64 id, .int .i64 fr, .int .i64 ttl, .int .i64 pr, .int .u32 src, .int .u32 dst, .string (strOfNums io)] 30)).heap[W4.heap.size]? = some (.cells #[.int .i64 tos, .int .i64 id, .int .i64 fr, .int .i64 ttl, .int .i64 pr, .int .u32 src, .int .u32 dst, .string (strOfNums io)] 30 (0, 0))) := heap_alloc_new W4 _
  have D_W5 : Hid (BS (W4.alloc (.cells #[.int .i64 tos, .int .i64 id, .int .i64 fr, .int .i64 ttl, .int .i64 pr, .int .u32 src, .int .u32 dst, .string (strOfNums io)] 30)) (some ⟨b, off + A, none⟩) 0 []) := BS.empty _
  have M_W5 : Hid (BS (W4.alloc (.cells #[.int .i64 tos, .int .i64 id, .int .i64 fr, .int .i64 ttl, .int .i64 pr, .int .u32 src, .int .u32 dst, .string (strOfNums io)] 30)) (some ⟨b, off + A, none⟩) 0 []) := BS.empty _
  obtain ⟨W5, hW⟩ : ∃ V, W4.alloc (.cells #[.int .i64 tos, .int .i64 id, .int .i64 fr, .int .i64 ttl, .int .i64 pr, .int .u32 src, .int .u32 dst, .string (strOfNums io)] 30) = V := ⟨_, rfl⟩
  obtain ⟨ga, hga⟩ : ∃ n, W4.heap.size = n := ⟨_, rfl⟩
  rw [hW] at B_W5 Z_W5 P_W5 A_W5 D_W5 M_W5 ⊢
  rw [hga] at A_W5 NN ⊢
  clear hW hga hb5 B_4 Z_4 P_4 S_4 N_3 HB9
  have hD : strOfNums ([]) = pd := by
    rw [← HPD.out]; rw [List.drop_of_length_le (by have := HC9.out; have := HLn.out; omega)]
  have hM : strOfNums ([]) = dd := by
    rw [← HDD.out]; have := HC9.out; rw [show tt - hs = 0 by omega, List.take_zero]
  have hM9 : StopP _ := StopP.mk hM
  clear HPD HDD hM
  obtain ⟨o2, ho2⟩ : ∃ p, o1.setIfInBounds 11 (.bool true) = p := ⟨_, rfl⟩
  have Eo2 : StopP (o1.setIfInBounds 11 (.bool true) = o2) := StopP.mk ho2
  have Zo2 : Hid (o2.size = 36) := by show _ = _; rw [← ho2]; rw [Array.size_setIfInBounds]; exact Zo1.out
  clear ho2
  obtain ⟨o3, ho3⟩ : ∃ p, Ca.putC o2 12 (#[.int .i64 tos, .int .i64 id, .int .i64 fr, .int .i64 ttl, .int .i64 pr, .int .u32 src, .int .u32 dst, .string (strOfNums io)]).toList = p := ⟨_, rfl⟩
  have Eo3 : StopP (Ca.putC o2 12 (#[.int .i64 tos, .int .i64 id, .int .i64 fr, .int .i64 ttl, .int .i64 pr, .int .u32 src, .int .u32 dst, .string (strOfNums io)]).toList = o3) := StopP.mk ho3
  have Zo3 : Hid (o3.size = 36) := by show _ = _; rw [← ho3]; rw [Ca.putC_size]; exact Zo2.out
  clear ho3
  obtain ⟨o4, ho4⟩ : ∃ p, o3.setIfInBounds 35 (.string pd) = p := ⟨_, rfl⟩
  have Eo4 : StopP (o3.setIfInBounds 35 (.string pd) = o4) := StopP.mk ho4
  have Zo4 : Hid (o4.size = 36) := by show _ = _; rw [← ho4]; rw [Array.size_setIfInBounds]; exact Zo3.out
  clear ho4
  have ER : o4.setIfInBounds 33 (.string dd) = r := by rw [← HR.out, ← Eo4.out, ← Eo3.out, ← Eo2.out, ← EO1.out]
  have Zr : Hid (r.size = 36) := by show _ = _; rw [← ER, Array.size_setIfInBounds]; exact Zo4.out
  have Orr : Hid (r.all (·.oneCell') = true) := by show _ = _; rw [← HR.out]; kernel_rfl
  have D33 : Hid (o4[33]? = some (.string ⟨#[]⟩)) := by show _ = _; rw [← Eo4.out, ← Eo3.out, ← Eo2.out, ← EO1.out]; kernel_rfl
  have ER9 : StopP _ := StopP.mk ER
  clear HR ER
  refine StopP.mk ?_
  go_wp2_with fail
  have j1 : (tt : Int) ≤ ((n - A : Nat) : Int) := by omega
  have j2 : ((n - A : Nat) : Int) ≤ ((cap - A : Nat) : Int) := by omega
  have j3 : cap - A = tt := by have := HC9.out; omega
  have j4 : n - A = tt := by have := HC9.out; omega
  refine wp_region_held_drew (S := (fun W => W.heap[ga]? = some (.cells #[.int .i64 tos, .int .i64 id, .int .i64 fr, .int .i64 ttl, .int .i64 pr, .int .u32 src, .int .u32 dst, .string (strOfNums io)] 30 (0, 0)) ∧ BS W (some ⟨b, off + A, none⟩) 0 [])) (by kernel_rfl) ⟨A_W5.out, D_W5.out.drew⟩ (fun hHeld => ?_)
  have B_V1 : Hid (Below w.heap.size w W5.drew) := B_W5.out.drew
  have Z_V1 : Hid (W5.drew.heap[w.heap.size]? = some (.cells zeroPk 34 (0, 0))) := Z_W5.out
  have P_V1 : Hid (W5.drew.heap[gp]? = some (.cells o1 34 (0, 0))) := P_W5.out
  have A_V1 : Hid (W5.drew.heap[ga]? = some (.cells #[.int .i64 tos, .int .i64 id, .int .i64 fr, .int .i64 ttl, .int .i64 pr, .int .u32 src, .int .u32 dst, .string (strOfNums io)] 30 (0, 0))) := A_W5.out
  have D_V1 : Hid (BS W5.drew (some ⟨b, off + A, none⟩) 0 []) := D_W5.out.drew
  have M_V1 : Hid (BS W5.drew (some ⟨b, off + A, none⟩) 0 []) := M_W5.out.drew
  clear B_W5 Z_W5 P_W5 A_W5 D_W5 M_W5
  obtain ⟨V1, hW⟩ : ∃ V, W5.drew = V := ⟨_, rfl⟩
  rw [hW] at B_V1 Z_V1 P_V1 A_V1 D_V1 M_V1 hHeld ⊢
  clear hW
  refine wpAnyH_take (i := 0) (v := .agg #[.int .i64 tos, .int .i64 id, .int .i64 fr, .int .i64 ttl, .int .i64 pr, .int .u32 src, .int .u32 dst, .string (strOfNums io)]) rfl (by kernel_rfl) (by kernel_rfl) (by kernel_rfl) (fun _ _ _ h => h) (Ca.yields_at (by rfl) 30 _ rfl ga 0 8 rfl 30 #[.int .i64 tos, .int .i64 id, .int .i64 fr, .int .i64 ttl, .int .i64 pr, .int .u32 src, .int .u32 dst, .string (strOfNums io)] #[.int .i64 tos, .int .i64 id, .int .i64 fr, .int .i64 ttl, .int .i64 pr, .int .u32 src, .int .u32 dst, .string (strOfNums io)] _ (fun W hW => hW.1) (by kernel_rfl) rfl Try.underlying30 rfl (by kernel_rfl)) (by assumption) ?_
  try simp only [List.getElem_toArray, List.getElem_cons_zero, List.getElem_cons_succ, Act.put, List.setIfInBounds_toArray, List.set_cons_zero, List.set_cons_succ]
  refine wpAnyH_take (i := 1) (v := ?_) rfl (by kernel_rfl) (by kernel_rfl) (by kernel_rfl) (fun _ _ _ h => h) (Or.inl ⟨by rfl, ?_⟩) (by assumption) ?_
  rotate_left
  · (intro w hSw; (try dsimp only at hSw); go_simp; try with_reducible rfl)
  try simp only [List.getElem_toArray, List.getElem_cons_zero, List.getElem_cons_succ, Act.put, List.setIfInBounds_toArray, List.set_cons_zero, List.set_cons_succ]
  refine wpAnyH_take (i := 2) (v := ?_) rfl (by kernel_rfl) (by kernel_rfl) (by kernel_rfl) (fun _ _ _ h => h) (Or.inl ⟨by rfl, ?_⟩) (by assumption) ?_
  rotate_left
  · (intro w hSw; (try dsimp only at hSw); go_simp; try with_reducible rfl)
  try simp only [List.getElem_toArray, List.getElem_cons_zero, List.getElem_cons_succ, Act.put, List.setIfInBounds_toArray, List.set_cons_zero, List.set_cons_succ]
  refine wpAnyH_take (i := 3) (v := ?_) rfl (by kernel_rfl) (by kernel_rfl) (by kernel_rfl) (fun _ _ _ h => h) (Or.inl ⟨by rfl, ?_⟩) (by assumption) ?_
  rotate_left
  · (intro w hSw; (try dsimp only at hSw); go_simp; try with_reducible rfl)
  try simp only [List.getElem_toArray, List.getElem_cons_zero, List.getElem_cons_succ, Act.put, List.setIfInBounds_toArray, List.set_cons_zero, List.set_cons_succ]
  refine wpAnyH_take (i := 4) (v := .string pd) rfl (by kernel_rfl) (by kernel_rfl) (by kernel_rfl) (fun _ _ _ h => h) (Or.inl ⟨by rfl, fun W hW => by have c := run_conv_bs (P := Try.prog) 0 hW.2 22 9 5 Try.underlying22 Try.underlying5 Try.underlying9; rw [hD] at c; go_simp⟩) (by assumption) ?_
  try simp only [List.getElem_toArray, List.getElem_cons_zero, List.getElem_cons_succ, Act.put, List.setIfInBounds_toArray, List.set_cons_zero, List.set_cons_succ]
  refine wpAnyH_take (i := 5) (v := ?_) rfl (by kernel_rfl) (by kernel_rfl) (by kernel_rfl) (fun _ _ _ h => h) (Or.inl ⟨by rfl, ?_⟩) (by assumption) ?_
  rotate_left
  · (intro w hSw; (try dsimp only at hSw); go_simp; try with_reducible rfl)
  try simp only [List.getElem_toArray, List.getElem_cons_zero, List.getElem_cons_succ, Act.put, List.setIfInBounds_toArray, List.set_cons_zero, List.set_cons_succ]
  have cc := (Ca.cell_row P_V1.out 11).trans (show _ = some (Value.bool false) by rw [← EO1.out]; kernel_rfl)
  have ff := frozen_of_row V1 _ 11 _ _ P_V1.out
  refine wpAnyH_ready (rs := [6]) (by kernel_rfl) (by simp) ?_
  refine AllReadyH.cons (o := _) rfl (fun K hK => ?_) AllReadyH.nil
  go_simp
  clear cc ff
  have B_V2 : Hid (Below w.heap.size w (V1.setCell ⟨gp, 11, none⟩ (.bool true))) := B_V1.out.setCell (show w.heap.size ≤ gp by have := NN.out; omega) _
  have Z_V2 : Hid ((V1.setCell ⟨gp, 11, none⟩ (.bool true)).heap[w.heap.size]? = some (.cells zeroPk 34 (0, 0))) := (Below.heap_setCell _ _ _ _ (show w.heap.size ≠ gp by have := NN.out; omega)).trans Z_V1.out
  have P_V2 : Hid ((V1.setCell ⟨gp, 11, none⟩ (.bool true)).heap[gp]? = some (.cells o2 34 (0, 0))) := by show _ = _; rw [← Eo2.out]; exact Ca.row_setCell P_V1.out 11 _
  have A_V2 : Hid ((V1.setCell ⟨gp, 11, none⟩ (.bool true)).heap[ga]? = some (.cells #[.int .i64 tos, .int .i64 id, .int .i64 fr, .int .i64 ttl, .int .i64 pr, .int .u32 src, .int .u32 dst, .string (strOfNums io)] 30 (0, 0))) := (Below.heap_setCell _ _ _ _ (show ga ≠ gp by have := NN.out; omega)).trans A_V1.out
  have D_V2 : Hid (BS (V1.setCell ⟨gp, 11, none⟩ (.bool true)) (some ⟨b, off + A, none⟩) 0 []) := bs_far D_V1.out (show gp ≠ b by have := NN.out; omega)
  have M_V2 : Hid (BS (V1.setCell ⟨gp, 11, none⟩ (.bool true)) (some ⟨b, off + A, none⟩) 0 []) := bs_far M_V1.out (show gp ≠ b by have := NN.out; omega)
  clear B_V1 Z_V1 P_V1 A_V1 D_V1 M_V1
  obtain ⟨V2, hW⟩ : ∃ V, (V1.setCell ⟨gp, 11, none⟩ (.bool true)) = V := ⟨_, rfl⟩
  rw [hW] at B_V2 Z_V2 P_V2 A_V2 D_V2 M_V2 ⊢
  clear hW
  refine hK _ _ ⟨A_V2.out, D_V2.out⟩ (fun hHeld => ?_)
  try simp only [List.getElem_toArray, List.getElem_cons_zero, List.getElem_cons_succ, Act.put, List.setIfInBounds_toArray, List.set_cons_zero, List.set_cons_succ]
  refine wpAnyH_take (i := 7) (v := ?_) rfl (by kernel_rfl) (by kernel_rfl) (by kernel_rfl) (fun _ _ _ h => h) (Or.inl ⟨by rfl, ?_⟩) (by assumption) ?_
  rotate_left
  · (intro w hSw; (try dsimp only at hSw); go_simp; try with_reducible rfl)
  try simp only [List.getElem_toArray, List.getElem_cons_zero, List.getElem_cons_succ, Act.put, List.setIfInBounds_toArray, List.set_cons_zero, List.set_cons_succ]
  refine wpAnyH_ready (rs := [8]) (by kernel_rfl) (by simp) ?_
  refine AllReadyH.cons (o := _) rfl (fun K hK => ?_) AllReadyH.nil
  have hs9 : 12 + (#[.int .i64 tos, .int .i64 id, .int .i64 fr, .int .i64 ttl, .int .i64 pr, .int .u32 src, .int .u32 dst, .string (strOfNums io)] : Array Value).size ≤ o2.size := by rw [Zo2.out]; exact Nat.le_of_ble_eq_true (by kernel_rfl)
  refine Ca.step_store_at rfl 30 _ _ rfl gp 12 o2 #[.int .i64 tos, .int .i64 id, .int .i64 fr, .int .i64 ttl, .int .i64 pr, .int .u32 src, .int .u32 dst, .string (strOfNums io)] 34 rfl rfl P_V2.out (by kernel_rfl) hs9 (by kernel_rfl) ?_
  intro V3 y1 y2 y3 y4
  have B_V3 : Hid (Below w.heap.size w V3) := B_V2.out.trans (y4.mono (show w.heap.size ≤ gp by have := NN.out; omega))
  have Z_V3 : Hid (V3.heap[w.heap.size]? = some (.cells zeroPk 34 (0, 0))) := (y2 _ (show w.heap.size ≠ gp by have := NN.out; omega)).trans Z_V2.out
  have P_V3 : Hid (V3.heap[gp]? = some (.cells o3 34 (0, 0))) := by show _ = _; rw [← Eo3.out]; exact y1
  have A_V3 : Hid (V3.heap[ga]? = some (.cells #[.int .i64 tos, .int .i64 id, .int .i64 fr, .int .i64 ttl, .int .i64 pr, .int .u32 src, .int .u32 dst, .string (strOfNums io)] 30 (0, 0))) := (y2 _ (show ga ≠ gp by have := NN.out; omega)).trans A_V2.out
  have D_V3 : Hid (BS V3 (some ⟨b, off + A, none⟩) 0 []) := D_V2.out.far9 y2 (show b ≠ gp by have := NN.out; omega)
  have M_V3 : Hid (BS V3 (some ⟨b, off + A, none⟩) 0 []) := M_V2.out.far9 y2 (show b ≠ gp by have := NN.out; omega)
  clear y1 y2 y3 y4
  clear B_V2 Z_V2 P_V2 A_V2 D_V2 M_V2
  clear hs9
  refine hK _ _ ⟨A_V3.out, D_V3.out⟩ (fun hHeld => ?_)
  try simp only [List.getElem_toArray, List.getElem_cons_zero, List.getElem_cons_succ, Act.put, List.setIfInBounds_toArray, List.set_cons_zero, List.set_cons_succ]
  refine wpAnyH_take (i := 9) (v := ?_) rfl (by kernel_rfl) (by kernel_rfl) (by kernel_rfl) (fun _ _ _ h => h) (Or.inl ⟨by rfl, ?_⟩) (by assumption) ?_
  rotate_left
  · (intro w hSw; (try dsimp only at hSw); go_simp; try with_reducible rfl)
  try simp only [List.getElem_toArray, List.getElem_cons_zero, List.getElem_cons_succ, Act.put, List.setIfInBounds_toArray, List.set_cons_zero, List.set_cons_succ]
  have cc := (Ca.cell_row P_V3.out 35).trans (show _ = some (Value.string ⟨#[]⟩) by rw [← Eo3.out, ← Eo2.out, ← EO1.out]; kernel_rfl)
  have ff := frozen_of_row V3 _ 35 _ _ P_V3.out
  refine wpAnyH_ready (rs := [10]) (by kernel_rfl) (by simp) ?_
  refine AllReadyH.cons (o := _) rfl (fun K hK => ?_) AllReadyH.nil
  go_simp
  clear cc ff
  have B_V4 : Hid (Below w.heap.size w (V3.setCell ⟨gp, 35, none⟩ (.string pd))) := B_V3.out.setCell (show w.heap.size ≤ gp by have := NN.out; omega) _
  have Z_V4 : Hid ((V3.setCell ⟨gp, 35, none⟩ (.string pd)).heap[w.heap.size]? = some (.cells zeroPk 34 (0, 0))) := (Below.heap_setCell _ _ _ _ (show w.heap.size ≠ gp by have := NN.out; omega)).trans Z_V3.out
  have P_V4 : Hid ((V3.setCell ⟨gp, 35, none⟩ (.string pd)).heap[gp]? = some (.cells o4 34 (0, 0))) := by show _ = _; rw [← Eo4.out]; exact Ca.row_setCell P_V3.out 35 _
  have A_V4 : Hid ((V3.setCell ⟨gp, 35, none⟩ (.string pd)).heap[ga]? = some (.cells #[.int .i64 tos, .int .i64 id, .int .i64 fr, .int .i64 ttl, .int .i64 pr, .int .u32 src, .int .u32 dst, .string (strOfNums io)] 30 (0, 0))) := (Below.heap_setCell _ _ _ _ (show ga ≠ gp by have := NN.out; omega)).trans A_V3.out
  have D_V4 : Hid (BS (V3.setCell ⟨gp, 35, none⟩ (.string pd)) (some ⟨b, off + A, none⟩) 0 []) := bs_far D_V3.out (show gp ≠ b by have := NN.out; omega)
  have M_V4 : Hid (BS (V3.setCell ⟨gp, 35, none⟩ (.string pd)) (some ⟨b, off + A, none⟩) 0 []) := bs_far M_V3.out (show gp ≠ b by have := NN.out; omega)
  clear B_V3 Z_V3 P_V3 A_V3 D_V3 M_V3
  obtain ⟨V4, hW⟩ : ∃ V, (V3.setCell ⟨gp, 35, none⟩ (.string pd)) = V := ⟨_, rfl⟩
  rw [hW] at B_V4 Z_V4 P_V4 A_V4 D_V4 M_V4 ⊢
  clear hW
  refine hK _ _ ⟨A_V4.out, D_V4.out⟩ (fun hHeld => ?_)
  refine wpAnyH_done (by kernel_rfl) ?_ _
  clear hHeld
  try simp only [List.getElem_toArray, List.getElem_cons_zero, List.getElem_cons_succ, Act.put, List.setIfInBounds_toArray, List.set_cons_zero, List.set_cons_succ]
  clear hD
  go_wp2_with (first
    | ((with_reducible (refine isLd 30 _ rfl ?_)); refine wpList_load_row rfl 30 _ rfl ga rfl 30 #[.int .i64 tos, .int .i64 id, .int .i64 fr, .int .i64 ttl, .int .i64 pr, .int .u32 src, .int .u32 dst, .string (strOfNums io)] (0, 0) _ A_V4.out Try.underlying30 rfl info_ip ?_)
    | fail)
  refine (HW.out _).mono ?_
  rintro e W8 ⟨rfl, hb⟩
  have B_8 : Hid (Below w.heap.size w W8) := B_V4.out.trans (hb.mono B_V4.out.size)
  have Z_8 : Hid (W8.heap[w.heap.size]? = some (.cells zeroPk 34 (0, 0))) := (hb.block _ (Ca.lt_of_heap Z_V4.out)).trans Z_V4.out
  have P_8 : Hid (W8.heap[gp]? = some (.cells o4 34 (0, 0))) := (hb.block _ (Ca.lt_of_heap P_V4.out)).trans P_V4.out
  have M_8 : Hid (BS W8 (some ⟨b, off + A, none⟩) 0 []) := M_V4.out.below hb
  clear hb HW B_V4 Z_V4 P_V4 A_V4 D_V4 M_V4
  have k1 : (hs : Int) ≤ (tt : Int) := by omega
  have k2 : (tt : Int) ≤ ((cap - A : Nat) : Int) := by omega
  have k3 : tt = hs := by have := HC9.out; omega
  have cv := run_conv_bs (P := Try.prog) (w := W8) 0 M_8.out 22 9 5 Try.underlying22 Try.underlying5 Try.underlying9
  rw [hM9.out] at cv
  have c33 := (Ca.cell_row P_8.out 33).trans D33.out
  have f33 := frozen_of_row W8 _ 33 _ _ P_8.out
  have P_9 : Hid ((W8.setCell ⟨gp, 33, none⟩ (.string dd)).heap[gp]? = some (.cells r 34 (0, 0))) := by show _ = _; rw [← ER9.out]; exact Ca.row_setCell P_8.out 33 _
  have Z_9 : Hid ((W8.setCell ⟨gp, 33, none⟩ (.string dd)).heap[w.heap.size]? = some (.cells zeroPk 34 (0, 0))) := (Below.heap_setCell _ _ _ _ (show w.heap.size ≠ gp by have := NN.out; omega)).trans Z_8.out
  have B_9 : Hid (Below w.heap.size w (W8.setCell ⟨gp, 33, none⟩ (.string dd))) := B_8.out.setCell (show w.heap.size ≤ gp by have := NN.out; omega) _
  go_wp2_with (first
    | ((with_reducible (refine isLd 34 _ rfl ?_)); refine wpList_load_row rfl 34 _ rfl gp rfl 34 r (0, 0) _ P_9.out Try.underlying34 rfl (info36 Zr.out) ?_)
    | ((with_reducible (refine isSt 34 _ _ rfl rfl ?_)); refine Ca.wpList_store_row rfl 34 _ _ rfl (w.heap.size) zeroPk r 34 rfl rfl Z_9.out (info36 Zr.out) (Eq.trans (b := 36) rfl Zr.out.symm) Orr.out ?_)
    | fail)
  intro W9 y1 y2 y3 y4
  go_wp2
  exact bodyPost_ret (results_pk (p := 2) (u := 3) rfl _ _ (w.heap.size) r rfl y1 Zr.out) rfl ⟨rfl, B_9.out.trans (y4.mono (by omega))⟩
set_option maxHeartbeats 8000000 in
theorem rparse_fragC (w : World) (b off n cap A : Nat) (zs : List Int) (h : BS w (some ⟨b, off, none⟩) n zs) (hcap : n ≤ cap) (hs tt : Nat) (h0 : 0 < hs) (hst : hs ≤ tt) (hAn : A + tt ≤ n) (hc : cap = A + tt) (hht : ¬ hs = tt) (hA0 : 0 < A) (d s tag : Int) (tg : Bool) (tos id fr ttl pr src dst : Int) (io : List Int) (pd dd : ByteArray) (hpd : strOfNums (zs.drop (A + tt)) = pd) (hdd : strOfNums ((zs.drop (A + hs)).take (tt - hs)) = dd) (r : Array Value) (hr : ((Ca.putC ((Ca.putC zeroPk 0 (#[.int .u64 d, .int .u64 s, .bool tg, .int .i64 tag, .int .i64 2048]).toList).setIfInBounds 11 (.bool true)) 12 (#[.int .i64 tos, .int .i64 id, .int .i64 fr, .int .i64 ttl, .int .i64 pr, .int .u32 src, .int .u32 dst, .string (strOfNums io)]).toList).setIfInBounds 35 (.string pd)).setIfInBounds 33 (.string dd) = r)
    (HH : Hid (∀ W, BS W (some ⟨b, off, none⟩) n zs → Calls Try.prog 22 #[.slice (some ⟨b, off, none⟩) n cap] W fun e w' => e = .returned (Eth.ethV d s tg tag 2048 A 0) ∧ Below W.heap.size W w'))
    (HI : Hid (∀ W, BS W (some ⟨b, off + A, none⟩) (n - A) (zs.drop A) → Calls Try.prog 24 #[.slice (some ⟨b, off + A, none⟩) (n - A) (cap - A)] W fun e w' => e = .returned (.tuple #[.agg #[.int .i64 tos, .int .i64 id, .int .i64 fr, .int .i64 ttl, .int .i64 pr, .int .u32 src, .int .u32 dst, .string (strOfNums io)], .int .i64 hs, .int .i64 tt, .int .i64 0]) ∧ Below W.heap.size W w'))
    (HW : Hid (∀ W, Calls Try.prog 25 #[.agg #[.int .i64 tos, .int .i64 id, .int .i64 fr, .int .i64 ttl, .int .i64 pr, .int .u32 src, .int .u32 dst, .string (strOfNums io)]] W fun e w' => e = .returned (.bool false) ∧ Below W.heap.size W w')) :
    Calls Try.prog 9 #[.slice (some ⟨b, off, none⟩) n cap] w fun e w' => e = .returned (.tuple #[.agg r, .int .i64 0]) ∧ Below w.heap.size w w' := by
  have hb0 : b < w.heap.size := by
    rcases h.cells with h0 | ⟨b', off', e, hc'⟩
    · omega
    · cases e
      have hl := h.len
      exact cell_lt (hc' 0 (by omega))
  have HB9 : Hid (b < w.heap.size) := hb0
  have HC9 : StopP _ := StopP.mk (And.intro hc hht)
  have HPD : StopP (strOfNums (zs.drop (A + tt)) = pd) := StopP.mk hpd
  have HDD : StopP (strOfNums ((zs.drop (A + hs)).take (tt - hs)) = dd) := StopP.mk hdd
  have HR : StopP (((Ca.putC ((Ca.putC zeroPk 0 (#[.int .u64 d, .int .u64 s, .bool tg, .int .i64 tag, .int .i64 2048]).toList).setIfInBounds 11 (.bool true)) 12 (#[.int .i64 tos, .int .i64 id, .int .i64 fr, .int .i64 ttl, .int .i64 pr, .int .u32 src, .int .u32 dst, .string (strOfNums io)]).toList).setIfInBounds 35 (.string pd)).setIfInBounds 33 (.string dd) = r) := StopP.mk hr
  clear hpd hdd hr hb0 hc hht
  have HB0 : Hid (BS w (some ⟨b, off, none⟩) n zs) := h
  clear h
  have L2 : Hid ((w.alloc (.cells zeroPk 34)).heap[w.heap.size]? = some (.cells zeroPk 34 (0, 0))) := heap_alloc_new w _
  have LB : Hid (Below w.heap.size w (w.alloc (.cells zeroPk 34))) := below1 w _
  go_enter Try.func9, Try.ntmps9
  go_wp2_with fail
  refine (HH.out _ (HB0.out.below LB.out)).mono ?_
  unfold Eth.ethV
  rintro e W1 ⟨rfl, hb⟩
  have B_1 : Hid (Below w.heap.size w W1) := LB.out.trans (hb.mono (by first | exact LB.out.size | (simp; omega)))
  have Z_1 : Hid (W1.heap[w.heap.size]? = some (.cells zeroPk 34 (0, 0))) := (hb.block _ (Ca.lt_of_heap L2.out)).trans L2.out
  have S_1 : Hid (BS W1 (some ⟨b, off, none⟩) n zs) := (HB0.out.below LB.out).below hb
  clear hb L2 LB HH HB0
  obtain ⟨o1, ho1⟩ : ∃ p, Ca.putC zeroPk 0 (#[.int .u64 d, .int .u64 s, .bool tg, .int .i64 tag, .int .i64 2048]).toList = p := ⟨_, rfl⟩
  have Zo1 : Hid (o1.size = 36) := by show _ = _; rw [← ho1]; kernel_rfl
  have Oo1 : Hid (o1.all (·.oneCell') = true) := by show _ = _; rw [← ho1]; kernel_rfl
  have hbld : Try.prog.built 34 [(0, .agg #[.int .u64 d, .int .u64 s, .bool tg, .int .i64 tag, .int .i64 2048])] = some o1 := by rw [← ho1]; kernel_rfl
  have EO1 : StopP (Ca.putC zeroPk 0 (#[.int .u64 d, .int .u64 s, .bool tg, .int .i64 tag, .int .i64 2048]).toList = o1) := StopP.mk ho1
  clear ho1
  go_wp2_with (first
    | ((with_reducible (refine isSt 25 _ _ rfl rfl ?_)); refine Ca.wpList_store_new rfl 25 _ _ rfl #[.int .u64 0, .int .u64 0, .bool false, .int .i64 0, .int .i64 0] #[.int .u64 d, .int .u64 s, .bool tg, .int .i64 tag, .int .i64 2048] _ rfl rfl rfl info_eth rfl (by kernel_rfl) ?_; refine StopP.out ?_)
    | fail)
  have hb2 := below1 W1 (.cells #[.int .u64 d, .int .u64 s, .bool tg, .int .i64 tag, .int .i64 2048] 25)
  have B_2 : Hid (Below w.heap.size w (W1.alloc (.cells #[.int .u64 d, .int .u64 s, .bool tg, .int .i64 tag, .int .i64 2048] 25))) := B_1.out.trans (hb2.mono B_1.out.size)
  have Z_2 : Hid ((W1.alloc (.cells #[.int .u64 d, .int .u64 s, .bool tg, .int .i64 tag, .int .i64 2048] 25)).heap[w.heap.size]? = some (.cells zeroPk 34 (0, 0))) := (hb2.block _ (Ca.lt_of_heap Z_1.out)).trans Z_1.out
  have E_2 : Hid ((W1.alloc (.cells #[.int .u64 d, .int .u64 s, .bool tg, .int .i64 tag, .int .i64 2048] 25)).heap[W1.heap.size]? = some (.cells #[.int .u64 d, .int .u64 s, .bool tg, .int .i64 tag, .int .i64 2048] 25 (0, 0))) := heap_alloc_new W1 _
  have S_2 : Hid (BS (W1.alloc (.cells #[.int .u64 d, .int .u64 s, .bool tg, .int .i64 tag, .int .i64 2048] 25)) (some ⟨b, off, none⟩) n zs) := S_1.out.below hb2
  have N_2 : Hid (w.heap.size < W1.heap.size) := Ca.lt_of_heap Z_1.out
  obtain ⟨W2, hW⟩ : ∃ V, (W1.alloc (.cells #[.int .u64 d, .int .u64 s, .bool tg, .int .i64 tag, .int .i64 2048] 25)) = V := ⟨_, rfl⟩
  obtain ⟨ge, hge⟩ : ∃ n, W1.heap.size = n := ⟨_, rfl⟩
  rw [hW] at B_2 Z_2 E_2 S_2 ⊢
  rw [hge] at E_2 N_2 ⊢
  clear hW hge hb2 B_1 Z_1 S_1
  refine StopP.mk ?_
  go_wp2_with (first
    | ((with_reducible (refine isLd 25 _ rfl ?_)); refine wpList_load_row rfl 25 _ rfl ge rfl 25 #[.int .u64 d, .int .u64 s, .bool tg, .int .i64 tag, .int .i64 2048] (0, 0) _ E_2.out Try.underlying25 rfl info_eth ?_; refine Ca.wpList_build_as rfl 34 _ rfl o1 (by rw [List.map_toArray]; show Try.prog.built 34 [(0, .agg #[.int .u64 d, .int .u64 s, .bool tg, .int .i64 tag, .int .i64 2048])] = _; exact hbld) ?_)
    | ((with_reducible (refine isSt 34 _ _ rfl rfl ?_)); refine Ca.wpList_store_new rfl 34 _ _ rfl zeroPk o1 _ rfl rfl rfl (info36 Zo1.out) (Eq.trans (b := 36) rfl Zo1.out.symm) Oo1.out ?_; refine StopP.out ?_)
    | fail)
  have hb3 := below1 W2 (.cells o1 34)
  have B_3 : Hid (Below w.heap.size w (W2.alloc (.cells o1 34))) := B_2.out.trans (hb3.mono B_2.out.size)
  have Z_3 : Hid ((W2.alloc (.cells o1 34)).heap[w.heap.size]? = some (.cells zeroPk 34 (0, 0))) := (hb3.block _ (Ca.lt_of_heap Z_2.out)).trans Z_2.out
  have E_3 : Hid ((W2.alloc (.cells o1 34)).heap[ge]? = some (.cells #[.int .u64 d, .int .u64 s, .bool tg, .int .i64 tag, .int .i64 2048] 25 (0, 0))) := (hb3.block _ (Ca.lt_of_heap E_2.out)).trans E_2.out
  have P_3 : Hid ((W2.alloc (.cells o1 34)).heap[W2.heap.size]? = some (.cells o1 34 (0, 0))) := heap_alloc_new W2 _
  have S_3 : Hid (BS (W2.alloc (.cells o1 34)) (some ⟨b, off, none⟩) n zs) := S_2.out.below hb3
  have N_3 : Hid (w.heap.size < ge ∧ ge < W2.heap.size) := ⟨N_2.out, Ca.lt_of_heap E_2.out⟩
  obtain ⟨W3, hW⟩ : ∃ V, W2.alloc (.cells o1 34) = V := ⟨_, rfl⟩
  obtain ⟨gp, hgp⟩ : ∃ n, W2.heap.size = n := ⟨_, rfl⟩
  rw [hW] at B_3 Z_3 E_3 P_3 S_3 ⊢
  rw [hgp] at P_3 N_3 ⊢
  clear hW hgp hb3 B_2 Z_2 S_2 E_2 N_2 hbld
  refine StopP.mk ?_
  have cty := (Ca.cell_row E_3.out 4).trans (show _ = some (Value.int .i64 2048) by rfl)
  have i1 : (A : Int) ≤ (n : Int) := by omega
  have i2 : (n : Int) ≤ (cap : Int) := by omega
  have i3 : ¬ cap = A := by omega
  go_wp2_with fail
  refine (HI.out _ (S_3.out.drop (by omega) A (by omega))).mono ?_
  rintro e W4 ⟨rfl, hb⟩
  have B_4 : Hid (Below w.heap.size w W4) := B_3.out.trans (hb.mono B_3.out.size)
  have Z_4 : Hid (W4.heap[w.heap.size]? = some (.cells zeroPk 34 (0, 0))) := (hb.block _ (Ca.lt_of_heap Z_3.out)).trans Z_3.out
  have P_4 : Hid (W4.heap[gp]? = some (.cells o1 34 (0, 0))) := (hb.block _ (Ca.lt_of_heap P_3.out)).trans P_3.out
  have S_4 : Hid (BS W4 (some ⟨b, off, none⟩) n zs) := S_3.out.below hb
  clear hb HI B_3 Z_3 E_3 P_3 S_3 cty
  go_wp2_with (first
    | ((with_reducible (refine isSt 30 _ _ rfl rfl ?_)); refine Ca.wpList_store_new rfl 30 _ _ rfl #[.int .i64 0, .int .i64 0, .int .i64 0, .int .i64 0, .int .i64 0, .int .u32 0, .int .u32 0, .string ⟨#[]⟩] #[.int .i64 tos, .int .i64 id, .int .i64 fr, .int .i64 ttl, .int .i64 pr, .int .u32 src, .int .u32 dst, .string (strOfNums io)] _ rfl rfl rfl info_ip rfl (by kernel_rfl) ?_; refine StopP.out ?_)
    | fail)
  have hb5 := below1 W4 (.cells #[.int .i64 tos, .int .i64 id, .int .i64 fr, .int .i64 ttl, .int .i64 pr, .int .u32 src, .int .u32 dst, .string (strOfNums io)] 30)
  have HLn : Hid (zs.length = n) := S_4.out.len
  have NN : Hid (w.heap.size < ge ∧ ge < gp ∧ gp < W4.heap.size ∧ b < w.heap.size) := ⟨N_3.out.1, N_3.out.2, Ca.lt_of_heap P_4.out, HB9.out⟩
  have B_W5 : Hid (Below w.heap.size w (W4.alloc (.cells #[.int .i64 tos, .int .i64 id, .int .i64 fr, .int .i64 ttl, .int .i64 pr, .int .u32 src, .int .u32 dst, .string (strOfNums io)] 30))) := B_4.out.trans (hb5.mono B_4.out.size)
  have Z_W5 : Hid ((W4.alloc (.cells #[.int .i64 tos, .int .i64 id, .int .i64 fr, .int .i64 ttl, .int .i64 pr, .int .u32 src, .int .u32 dst, .string (strOfNums io)] 30)).heap[w.heap.size]? = some (.cells zeroPk 34 (0, 0))) := (hb5.block _ (Ca.lt_of_heap Z_4.out)).trans Z_4.out
  have P_W5 : Hid ((W4.alloc (.cells #[.int .i64 tos, .int .i64 id, .int .i64 fr, .int .i64 ttl, .int .i64 pr, .int .u32 src, .int .u32 dst, .string (strOfNums io)] 30)).heap[gp]? = some (.cells o1 34 (0, 0))) := (hb5.block _ (Ca.lt_of_heap P_4.out)).trans P_4.out
  have A_W5 : Hid ((W4.alloc (.cells #[.int .i64 tos, .int .i64 id, .int .i64 fr, .int .i64 ttl, .int .i64 pr, .int .u32 src, .int .u32 dst, .string (strOfNums io)] 30)).heap[W4.heap.size]? = some (.cells #[.int .i64 tos, .int .i64 id, .int .i64 fr, .int .i64 ttl, .int .i64 pr, .int .u32 src, .int .u32 dst, .string (strOfNums io)] 30 (0, 0))) := heap_alloc_new W4 _
  have D_W5 : Hid (BS (W4.alloc (.cells #[.int .i64 tos, .int .i64 id, .int .i64 fr, .int .i64 ttl, .int .i64 pr, .int .u32 src, .int .u32 dst, .string (strOfNums io)] 30)) (some ⟨b, off + A, none⟩) 0 []) := BS.empty _
  have M_W5 : Hid (BS (W4.alloc (.cells #[.int .i64 tos, .int .i64 id, .int .i64 fr, .int .i64 ttl, .int .i64 pr, .int .u32 src, .int .u32 dst, .string (strOfNums io)] 30)) (some ⟨b, off + A + hs, none⟩) (tt - hs) ((zs.drop (A + hs)).take (tt - hs))) := by show BS _ _ _ _; have := (((S_4.out.below hb5).drop (by omega) A (by omega)).drop (by omega) hs (by omega)).take (tt - hs) (by omega); rw [List.drop_drop] at this; exact this
  obtain ⟨W5, hW⟩ : ∃ V, W4.alloc (.cells #[.int .i64 tos, .int .i64 id, .int .i64 fr, .int .i64 ttl, .int .i64 pr, .int .u32 src, .int .u32 dst, .string (strOfNums io)] 30) = V := ⟨_, rfl⟩
  obtain ⟨ga, hga⟩ : ∃ n, W4.heap.size = n := ⟨_, rfl⟩
  rw [hW] at B_W5 Z_W5 P_W5 A_W5 D_W5 M_W5 ⊢
  rw [hga] at A_W5 NN ⊢
  clear hW hga hb5 B_4 Z_4 P_4 S_4 N_3 HB9
  have hD : strOfNums ([]) = pd := by
    rw [← HPD.out]; rw [List.drop_of_length_le (by have := HC9.out; have := HLn.out; omega)]
  have hM : strOfNums ((zs.drop (A + hs)).take (tt - hs)) = dd := by
    rw [← HDD.out]
  have hM9 : StopP _ := StopP.mk hM
  clear HPD HDD hM
  obtain ⟨o2, ho2⟩ : ∃ p, o1.setIfInBounds 11 (.bool true) = p := ⟨_, rfl⟩
  have Eo2 : StopP (o1.setIfInBounds 11 (.bool true) = o2) := StopP.mk ho2
  have Zo2 : Hid (o2.size = 36) := by show _ = _; rw [← ho2]; rw [Array.size_setIfInBounds]; exact Zo1.out
  clear ho2
  obtain ⟨o3, ho3⟩ : ∃ p, Ca.putC o2 12 (#[.int .i64 tos, .int .i64 id, .int .i64 fr, .int .i64 ttl, .int .i64 pr, .int .u32 src, .int .u32 dst, .string (strOfNums io)]).toList = p := ⟨_, rfl⟩
  have Eo3 : StopP (Ca.putC o2 12 (#[.int .i64 tos, .int .i64 id, .int .i64 fr, .int .i64 ttl, .int .i64 pr, .int .u32 src, .int .u32 dst, .string (strOfNums io)]).toList = o3) := StopP.mk ho3
  have Zo3 : Hid (o3.size = 36) := by show _ = _; rw [← ho3]; rw [Ca.putC_size]; exact Zo2.out
  clear ho3
  obtain ⟨o4, ho4⟩ : ∃ p, o3.setIfInBounds 35 (.string pd) = p := ⟨_, rfl⟩
  have Eo4 : StopP (o3.setIfInBounds 35 (.string pd) = o4) := StopP.mk ho4
  have Zo4 : Hid (o4.size = 36) := by show _ = _; rw [← ho4]; rw [Array.size_setIfInBounds]; exact Zo3.out
  clear ho4
  have ER : o4.setIfInBounds 33 (.string dd) = r := by rw [← HR.out, ← Eo4.out, ← Eo3.out, ← Eo2.out, ← EO1.out]
  have Zr : Hid (r.size = 36) := by show _ = _; rw [← ER, Array.size_setIfInBounds]; exact Zo4.out
  have Orr : Hid (r.all (·.oneCell') = true) := by show _ = _; rw [← HR.out]; kernel_rfl
  have D33 : Hid (o4[33]? = some (.string ⟨#[]⟩)) := by show _ = _; rw [← Eo4.out, ← Eo3.out, ← Eo2.out, ← EO1.out]; kernel_rfl
  have ER9 : StopP _ := StopP.mk ER
  clear HR ER
  refine StopP.mk ?_
  go_wp2_with fail
  have j1 : (tt : Int) ≤ ((n - A : Nat) : Int) := by omega
  have j2 : ((n - A : Nat) : Int) ≤ ((cap - A : Nat) : Int) := by omega
  have j3 : cap - A = tt := by have := HC9.out; omega
  have j4 : n - A = tt := by have := HC9.out; omega
  refine wp_region_held_drew (S := (fun W => W.heap[ga]? = some (.cells #[.int .i64 tos, .int .i64 id, .int .i64 fr, .int .i64 ttl, .int .i64 pr, .int .u32 src, .int .u32 dst, .string (strOfNums io)] 30 (0, 0)) ∧ BS W (some ⟨b, off + A, none⟩) 0 [])) (by kernel_rfl) ⟨A_W5.out, D_W5.out.drew⟩ (fun hHeld => ?_)
  have B_V1 : Hid (Below w.heap.size w W5.drew) := B_W5.out.drew
  have Z_V1 : Hid (W5.drew.heap[w.heap.size]? = some (.cells zeroPk 34 (0, 0))) := Z_W5.out
  have P_V1 : Hid (W5.drew.heap[gp]? = some (.cells o1 34 (0, 0))) := P_W5.out
  have A_V1 : Hid (W5.drew.heap[ga]? = some (.cells #[.int .i64 tos, .int .i64 id, .int .i64 fr, .int .i64 ttl, .int .i64 pr, .int .u32 src, .int .u32 dst, .string (strOfNums io)] 30 (0, 0))) := A_W5.out
  have D_V1 : Hid (BS W5.drew (some ⟨b, off + A, none⟩) 0 []) := D_W5.out.drew
  have M_V1 : Hid (BS W5.drew (some ⟨b, off + A + hs, none⟩) (tt - hs) ((zs.drop (A + hs)).take (tt - hs))) := M_W5.out.drew
  clear B_W5 Z_W5 P_W5 A_W5 D_W5 M_W5
  obtain ⟨V1, hW⟩ : ∃ V, W5.drew = V := ⟨_, rfl⟩
  rw [hW] at B_V1 Z_V1 P_V1 A_V1 D_V1 M_V1 hHeld ⊢
  clear hW
  refine wpAnyH_take (i := 0) (v := .agg #[.int .i64 tos, .int .i64 id, .int .i64 fr, .int .i64 ttl, .int .i64 pr, .int .u32 src, .int .u32 dst, .string (strOfNums io)]) rfl (by kernel_rfl) (by kernel_rfl) (by kernel_rfl) (fun _ _ _ h => h) (Ca.yields_at (by rfl) 30 _ rfl ga 0 8 rfl 30 #[.int .i64 tos, .int .i64 id, .int .i64 fr, .int .i64 ttl, .int .i64 pr, .int .u32 src, .int .u32 dst, .string (strOfNums io)] #[.int .i64 tos, .int .i64 id, .int .i64 fr, .int .i64 ttl, .int .i64 pr, .int .u32 src, .int .u32 dst, .string (strOfNums io)] _ (fun W hW => hW.1) (by kernel_rfl) rfl Try.underlying30 rfl (by kernel_rfl)) (by assumption) ?_
  try simp only [List.getElem_toArray, List.getElem_cons_zero, List.getElem_cons_succ, Act.put, List.setIfInBounds_toArray, List.set_cons_zero, List.set_cons_succ]
  refine wpAnyH_take (i := 1) (v := ?_) rfl (by kernel_rfl) (by kernel_rfl) (by kernel_rfl) (fun _ _ _ h => h) (Or.inl ⟨by rfl, ?_⟩) (by assumption) ?_
  rotate_left
  · (intro w hSw; (try dsimp only at hSw); go_simp; try with_reducible rfl)
  try simp only [List.getElem_toArray, List.getElem_cons_zero, List.getElem_cons_succ, Act.put, List.setIfInBounds_toArray, List.set_cons_zero, List.set_cons_succ]
  refine wpAnyH_take (i := 2) (v := ?_) rfl (by kernel_rfl) (by kernel_rfl) (by kernel_rfl) (fun _ _ _ h => h) (Or.inl ⟨by rfl, ?_⟩) (by assumption) ?_
  rotate_left
  · (intro w hSw; (try dsimp only at hSw); go_simp; try with_reducible rfl)
  try simp only [List.getElem_toArray, List.getElem_cons_zero, List.getElem_cons_succ, Act.put, List.setIfInBounds_toArray, List.set_cons_zero, List.set_cons_succ]
  refine wpAnyH_take (i := 3) (v := ?_) rfl (by kernel_rfl) (by kernel_rfl) (by kernel_rfl) (fun _ _ _ h => h) (Or.inl ⟨by rfl, ?_⟩) (by assumption) ?_
  rotate_left
  · (intro w hSw; (try dsimp only at hSw); go_simp; try with_reducible rfl)
  try simp only [List.getElem_toArray, List.getElem_cons_zero, List.getElem_cons_succ, Act.put, List.setIfInBounds_toArray, List.set_cons_zero, List.set_cons_succ]
  refine wpAnyH_take (i := 4) (v := .string pd) rfl (by kernel_rfl) (by kernel_rfl) (by kernel_rfl) (fun _ _ _ h => h) (Or.inl ⟨by rfl, fun W hW => by have c := run_conv_bs (P := Try.prog) 0 hW.2 22 9 5 Try.underlying22 Try.underlying5 Try.underlying9; rw [hD] at c; go_simp⟩) (by assumption) ?_
  try simp only [List.getElem_toArray, List.getElem_cons_zero, List.getElem_cons_succ, Act.put, List.setIfInBounds_toArray, List.set_cons_zero, List.set_cons_succ]
  refine wpAnyH_take (i := 5) (v := ?_) rfl (by kernel_rfl) (by kernel_rfl) (by kernel_rfl) (fun _ _ _ h => h) (Or.inl ⟨by rfl, ?_⟩) (by assumption) ?_
  rotate_left
  · (intro w hSw; (try dsimp only at hSw); go_simp; try with_reducible rfl)
  try simp only [List.getElem_toArray, List.getElem_cons_zero, List.getElem_cons_succ, Act.put, List.setIfInBounds_toArray, List.set_cons_zero, List.set_cons_succ]
  have cc := (Ca.cell_row P_V1.out 11).trans (show _ = some (Value.bool false) by rw [← EO1.out]; kernel_rfl)
  have ff := frozen_of_row V1 _ 11 _ _ P_V1.out
  refine wpAnyH_ready (rs := [6]) (by kernel_rfl) (by simp) ?_
  refine AllReadyH.cons (o := _) rfl (fun K hK => ?_) AllReadyH.nil
  go_simp
  clear cc ff
  have B_V2 : Hid (Below w.heap.size w (V1.setCell ⟨gp, 11, none⟩ (.bool true))) := B_V1.out.setCell (show w.heap.size ≤ gp by have := NN.out; omega) _
  have Z_V2 : Hid ((V1.setCell ⟨gp, 11, none⟩ (.bool true)).heap[w.heap.size]? = some (.cells zeroPk 34 (0, 0))) := (Below.heap_setCell _ _ _ _ (show w.heap.size ≠ gp by have := NN.out; omega)).trans Z_V1.out
  have P_V2 : Hid ((V1.setCell ⟨gp, 11, none⟩ (.bool true)).heap[gp]? = some (.cells o2 34 (0, 0))) := by show _ = _; rw [← Eo2.out]; exact Ca.row_setCell P_V1.out 11 _
  have A_V2 : Hid ((V1.setCell ⟨gp, 11, none⟩ (.bool true)).heap[ga]? = some (.cells #[.int .i64 tos, .int .i64 id, .int .i64 fr, .int .i64 ttl, .int .i64 pr, .int .u32 src, .int .u32 dst, .string (strOfNums io)] 30 (0, 0))) := (Below.heap_setCell _ _ _ _ (show ga ≠ gp by have := NN.out; omega)).trans A_V1.out
  have D_V2 : Hid (BS (V1.setCell ⟨gp, 11, none⟩ (.bool true)) (some ⟨b, off + A, none⟩) 0 []) := bs_far D_V1.out (show gp ≠ b by have := NN.out; omega)
  have M_V2 : Hid (BS (V1.setCell ⟨gp, 11, none⟩ (.bool true)) (some ⟨b, off + A + hs, none⟩) (tt - hs) ((zs.drop (A + hs)).take (tt - hs))) := bs_far M_V1.out (show gp ≠ b by have := NN.out; omega)
  clear B_V1 Z_V1 P_V1 A_V1 D_V1 M_V1
  obtain ⟨V2, hW⟩ : ∃ V, (V1.setCell ⟨gp, 11, none⟩ (.bool true)) = V := ⟨_, rfl⟩
  rw [hW] at B_V2 Z_V2 P_V2 A_V2 D_V2 M_V2 ⊢
  clear hW
  refine hK _ _ ⟨A_V2.out, D_V2.out⟩ (fun hHeld => ?_)
  try simp only [List.getElem_toArray, List.getElem_cons_zero, List.getElem_cons_succ, Act.put, List.setIfInBounds_toArray, List.set_cons_zero, List.set_cons_succ]
  refine wpAnyH_take (i := 7) (v := ?_) rfl (by kernel_rfl) (by kernel_rfl) (by kernel_rfl) (fun _ _ _ h => h) (Or.inl ⟨by rfl, ?_⟩) (by assumption) ?_
  rotate_left
  · (intro w hSw; (try dsimp only at hSw); go_simp; try with_reducible rfl)
  try simp only [List.getElem_toArray, List.getElem_cons_zero, List.getElem_cons_succ, Act.put, List.setIfInBounds_toArray, List.set_cons_zero, List.set_cons_succ]
  refine wpAnyH_ready (rs := [8]) (by kernel_rfl) (by simp) ?_
  refine AllReadyH.cons (o := _) rfl (fun K hK => ?_) AllReadyH.nil
  have hs9 : 12 + (#[.int .i64 tos, .int .i64 id, .int .i64 fr, .int .i64 ttl, .int .i64 pr, .int .u32 src, .int .u32 dst, .string (strOfNums io)] : Array Value).size ≤ o2.size := by rw [Zo2.out]; exact Nat.le_of_ble_eq_true (by kernel_rfl)
  refine Ca.step_store_at rfl 30 _ _ rfl gp 12 o2 #[.int .i64 tos, .int .i64 id, .int .i64 fr, .int .i64 ttl, .int .i64 pr, .int .u32 src, .int .u32 dst, .string (strOfNums io)] 34 rfl rfl P_V2.out (by kernel_rfl) hs9 (by kernel_rfl) ?_
  intro V3 y1 y2 y3 y4
  have B_V3 : Hid (Below w.heap.size w V3) := B_V2.out.trans (y4.mono (show w.heap.size ≤ gp by have := NN.out; omega))
  have Z_V3 : Hid (V3.heap[w.heap.size]? = some (.cells zeroPk 34 (0, 0))) := (y2 _ (show w.heap.size ≠ gp by have := NN.out; omega)).trans Z_V2.out
  have P_V3 : Hid (V3.heap[gp]? = some (.cells o3 34 (0, 0))) := by show _ = _; rw [← Eo3.out]; exact y1
  have A_V3 : Hid (V3.heap[ga]? = some (.cells #[.int .i64 tos, .int .i64 id, .int .i64 fr, .int .i64 ttl, .int .i64 pr, .int .u32 src, .int .u32 dst, .string (strOfNums io)] 30 (0, 0))) := (y2 _ (show ga ≠ gp by have := NN.out; omega)).trans A_V2.out
  have D_V3 : Hid (BS V3 (some ⟨b, off + A, none⟩) 0 []) := D_V2.out.far9 y2 (show b ≠ gp by have := NN.out; omega)
  have M_V3 : Hid (BS V3 (some ⟨b, off + A + hs, none⟩) (tt - hs) ((zs.drop (A + hs)).take (tt - hs))) := M_V2.out.far9 y2 (show b ≠ gp by have := NN.out; omega)
  clear y1 y2 y3 y4
  clear B_V2 Z_V2 P_V2 A_V2 D_V2 M_V2
  clear hs9
  refine hK _ _ ⟨A_V3.out, D_V3.out⟩ (fun hHeld => ?_)
  try simp only [List.getElem_toArray, List.getElem_cons_zero, List.getElem_cons_succ, Act.put, List.setIfInBounds_toArray, List.set_cons_zero, List.set_cons_succ]
  refine wpAnyH_take (i := 9) (v := ?_) rfl (by kernel_rfl) (by kernel_rfl) (by kernel_rfl) (fun _ _ _ h => h) (Or.inl ⟨by rfl, ?_⟩) (by assumption) ?_
  rotate_left
  · (intro w hSw; (try dsimp only at hSw); go_simp; try with_reducible rfl)
  try simp only [List.getElem_toArray, List.getElem_cons_zero, List.getElem_cons_succ, Act.put, List.setIfInBounds_toArray, List.set_cons_zero, List.set_cons_succ]
  have cc := (Ca.cell_row P_V3.out 35).trans (show _ = some (Value.string ⟨#[]⟩) by rw [← Eo3.out, ← Eo2.out, ← EO1.out]; kernel_rfl)
  have ff := frozen_of_row V3 _ 35 _ _ P_V3.out
  refine wpAnyH_ready (rs := [10]) (by kernel_rfl) (by simp) ?_
  refine AllReadyH.cons (o := _) rfl (fun K hK => ?_) AllReadyH.nil
  go_simp
  clear cc ff
  have B_V4 : Hid (Below w.heap.size w (V3.setCell ⟨gp, 35, none⟩ (.string pd))) := B_V3.out.setCell (show w.heap.size ≤ gp by have := NN.out; omega) _
  have Z_V4 : Hid ((V3.setCell ⟨gp, 35, none⟩ (.string pd)).heap[w.heap.size]? = some (.cells zeroPk 34 (0, 0))) := (Below.heap_setCell _ _ _ _ (show w.heap.size ≠ gp by have := NN.out; omega)).trans Z_V3.out
  have P_V4 : Hid ((V3.setCell ⟨gp, 35, none⟩ (.string pd)).heap[gp]? = some (.cells o4 34 (0, 0))) := by show _ = _; rw [← Eo4.out]; exact Ca.row_setCell P_V3.out 35 _
  have A_V4 : Hid ((V3.setCell ⟨gp, 35, none⟩ (.string pd)).heap[ga]? = some (.cells #[.int .i64 tos, .int .i64 id, .int .i64 fr, .int .i64 ttl, .int .i64 pr, .int .u32 src, .int .u32 dst, .string (strOfNums io)] 30 (0, 0))) := (Below.heap_setCell _ _ _ _ (show ga ≠ gp by have := NN.out; omega)).trans A_V3.out
  have D_V4 : Hid (BS (V3.setCell ⟨gp, 35, none⟩ (.string pd)) (some ⟨b, off + A, none⟩) 0 []) := bs_far D_V3.out (show gp ≠ b by have := NN.out; omega)
  have M_V4 : Hid (BS (V3.setCell ⟨gp, 35, none⟩ (.string pd)) (some ⟨b, off + A + hs, none⟩) (tt - hs) ((zs.drop (A + hs)).take (tt - hs))) := bs_far M_V3.out (show gp ≠ b by have := NN.out; omega)
  clear B_V3 Z_V3 P_V3 A_V3 D_V3 M_V3
  obtain ⟨V4, hW⟩ : ∃ V, (V3.setCell ⟨gp, 35, none⟩ (.string pd)) = V := ⟨_, rfl⟩
  rw [hW] at B_V4 Z_V4 P_V4 A_V4 D_V4 M_V4 ⊢
  clear hW
  refine hK _ _ ⟨A_V4.out, D_V4.out⟩ (fun hHeld => ?_)
  refine wpAnyH_done (by kernel_rfl) ?_ _
  clear hHeld
  try simp only [List.getElem_toArray, List.getElem_cons_zero, List.getElem_cons_succ, Act.put, List.setIfInBounds_toArray, List.set_cons_zero, List.set_cons_succ]
  clear hD
  go_wp2_with (first
    | ((with_reducible (refine isLd 30 _ rfl ?_)); refine wpList_load_row rfl 30 _ rfl ga rfl 30 #[.int .i64 tos, .int .i64 id, .int .i64 fr, .int .i64 ttl, .int .i64 pr, .int .u32 src, .int .u32 dst, .string (strOfNums io)] (0, 0) _ A_V4.out Try.underlying30 rfl info_ip ?_)
    | fail)
  refine (HW.out _).mono ?_
  rintro e W8 ⟨rfl, hb⟩
  have B_8 : Hid (Below w.heap.size w W8) := B_V4.out.trans (hb.mono B_V4.out.size)
  have Z_8 : Hid (W8.heap[w.heap.size]? = some (.cells zeroPk 34 (0, 0))) := (hb.block _ (Ca.lt_of_heap Z_V4.out)).trans Z_V4.out
  have P_8 : Hid (W8.heap[gp]? = some (.cells o4 34 (0, 0))) := (hb.block _ (Ca.lt_of_heap P_V4.out)).trans P_V4.out
  have M_8 : Hid (BS W8 (some ⟨b, off + A + hs, none⟩) (tt - hs) ((zs.drop (A + hs)).take (tt - hs))) := M_V4.out.below hb
  clear hb HW B_V4 Z_V4 P_V4 A_V4 D_V4 M_V4
  have k1 : (hs : Int) ≤ (tt : Int) := by omega
  have k2 : (tt : Int) ≤ ((cap - A : Nat) : Int) := by omega
  have k3 : ¬ tt = hs := by have := HC9.out; omega
  have cv := run_conv_bs (P := Try.prog) (w := W8) (tt - hs) M_8.out 22 9 5 Try.underlying22 Try.underlying5 Try.underlying9
  rw [hM9.out] at cv
  have c33 := (Ca.cell_row P_8.out 33).trans D33.out
  have f33 := frozen_of_row W8 _ 33 _ _ P_8.out
  have P_9 : Hid ((W8.setCell ⟨gp, 33, none⟩ (.string dd)).heap[gp]? = some (.cells r 34 (0, 0))) := by show _ = _; rw [← ER9.out]; exact Ca.row_setCell P_8.out 33 _
  have Z_9 : Hid ((W8.setCell ⟨gp, 33, none⟩ (.string dd)).heap[w.heap.size]? = some (.cells zeroPk 34 (0, 0))) := (Below.heap_setCell _ _ _ _ (show w.heap.size ≠ gp by have := NN.out; omega)).trans Z_8.out
  have B_9 : Hid (Below w.heap.size w (W8.setCell ⟨gp, 33, none⟩ (.string dd))) := B_8.out.setCell (show w.heap.size ≤ gp by have := NN.out; omega) _
  go_wp2_with (first
    | ((with_reducible (refine isLd 34 _ rfl ?_)); refine wpList_load_row rfl 34 _ rfl gp rfl 34 r (0, 0) _ P_9.out Try.underlying34 rfl (info36 Zr.out) ?_)
    | ((with_reducible (refine isSt 34 _ _ rfl rfl ?_)); refine Ca.wpList_store_row rfl 34 _ _ rfl (w.heap.size) zeroPk r 34 rfl rfl Z_9.out (info36 Zr.out) (Eq.trans (b := 36) rfl Zr.out.symm) Orr.out ?_)
    | fail)
  intro W9 y1 y2 y3 y4
  go_wp2
  exact bodyPost_ret (results_pk (p := 2) (u := 3) rfl _ _ (w.heap.size) r rfl y1 Zr.out) rfl ⟨rfl, B_9.out.trans (y4.mono (by omega))⟩
end Go.Proofs.Ytpiokeidcnbmbaa
