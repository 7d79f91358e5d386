/- Encap of package geneve. Conditions: the options can be read. -/
import Derived.Test.YtgonckbdkgiddaaQHE
import Derived.Test.YtgonckbdkgiddaaL4n
import Derived.Test.YtgonckbdkgiddaaDI
import Derived.Test.YtgonckbdkgiddaaDH
namespace Go.Proofs.Ytgonckbdkgiddaa
open Go.RowKit
set_option maxRecDepth 20000
set_option linter.unusedSimpArgs false
/-- The datagram of a tunnel, and its packet. -/
def udpR (sp : Int) (pay : List Int) : L4R := { zeroR with k := 2, sp := sp, dp := 6081, ns := true, ds := pay }
def udpB (sp vni : Int) (oam : Bool) (os : List Opt) (fr : List Int) : List Int := (udpR sp (payB vni oam os fr)).body
def encB (src dst sp vni : Int) (oam : Bool) (os : List Opt) (fr : List Int) : List Int := Ip.ipB 0 0 16384 64 17 src dst [] ((udpB sp vni oam os fr).length : Int) ++ udpB sp vni oam os fr
theorem payB_len (vni : Int) (oam : Bool) (os : List Opt) (fr : List Int) : ((payB vni oam os fr).length : Int) = 8 + szO os + fr.length := by
  have h1 := opsB_len os
  have h2 := hdB_len vni oam os
  unfold payB
  simp only [List.length_append]
  omega
theorem payB_fit (vni : Int) (oam : Bool) (os : List Opt) (fr : List Int) (h : ∀ o ∈ os, Fit o.data) (hf : Fit fr) : Fit (payB vni oam os fr) := fits_app (fits_app (hdB_fit _ _ _) (opsB_fit _ h)) hf
theorem chk_parts {sp vni : Int} {os : List Opt} {m : Nat} (h : chkE sp vni os m = 0) : fit16 sp = true ∧ (0 ≤ vni ∧ vni ≤ 16777215) ∧ os.all optG = true ∧ szO os ≤ 252 ∧ m ≤ 9018 := by
  unfold chkE at h
  split at h
  · rename_i h1
    split at h
    · rename_i h2
      split at h
      · rename_i h3
        split at h
        · rename_i h4
          exact ⟨h1.1, h1.2, h2, h3, h4⟩
        · exact absurd h (by decide)
      · exact absurd h (by decide)
    · exact absurd h (by decide)
  · exact absurd h (by decide)
theorem udp_ok {sp : Int} (hsp : fit16 sp = true) (pay : List Int) (hl : pay.length ≤ 10000) : (udpR sp pay).ok = true := by
  have hs := strOfNums_size pay
  have := fit16_bd hsp
  unfold L4R.ok l4Ok
  have e1 : ownOk (udpR sp pay).k (udpR sp pay).ty (udpR sp pay).co (udpR sp pay).re (udpR sp pay).sp (udpR sp pay).dp (udpR sp pay).ns (udpR sp pay).sq (udpR sp pay).ak (udpR sp pay).fl (udpR sp pay).wi (udpR sp pay).ur (strOfNums (udpR sp pay).os) = true := by kernel_rfl
  have e2 : numsOk (udpR sp pay).ty (udpR sp pay).co (udpR sp pay).sp (udpR sp pay).dp (udpR sp pay).fl (udpR sp pay).wi (udpR sp pay).ur = true := by
    show (fitN 8 0 && (fitN 8 0 && (fitN 12 0 && (fitN 16 sp && (fitN 16 6081 && (fitN 16 0 && fitN 16 0)))))) = true
    rw [show fitN 16 sp = true from hsp]
    decide +kernel
  have e3 : (strOfNums (udpR sp pay).os).size = 0 := by kernel_rfl
  have e4 : (strOfNums (udpR sp pay).ds).size = pay.length := hs
  rw [e1, e2, e3, e4]
  have e5 : fixV (udpR sp pay).k = 8 := rfl
  rw [e5]
  simp
  omega
theorem put_l4 (sp : Int) (pay : List Int) : Ca.putC #[.int .i64 0, .int .i64 0, .int .i64 0, .int .u32 0, .int .i64 0, .int .i64 0, .bool false, .int .u32 0, .int .u32 0, .int .i64 0, .int .i64 0, .int .i64 0, .string ⟨#[]⟩, .string ⟨#[]⟩] 0 (#[.int .i64 2, .int .i64 0, .int .i64 0, .int .u32 0, .int .i64 sp, .int .i64 6081, .bool true, .int .u32 0, .int .u32 0, .int .i64 0, .int .i64 0, .int .i64 0, .string ⟨#[]⟩, .string (strOfNums pay)]).toList = #[.int .i64 2, .int .i64 0, .int .i64 0, .int .u32 0, .int .i64 sp, .int .i64 6081, .bool true, .int .u32 0, .int .u32 0, .int .i64 0, .int .i64 0, .int .i64 0, .string ⟨#[]⟩, .string (strOfNums pay)] := by kernel_rfl
theorem info_l4g : (Try.prog.info? 48).map (·.size) = some 14 := by kernel_rfl
theorem own_base1 {w : World} {b b' : Nat} {e : TypeId} {k : Nat} {v : Value} {n : Nat} {xs : List Value} (h : w.ownsRow b e k v n xs) (hb : b' ≤ b) : w.ownsRow b' e k v n xs := by
  refine ⟨h.1, ?_⟩
  rcases h.2 with h0 | ⟨g, cap, cur, e1, h1, h2⟩
  · exact .inl h0
  · exact .inr ⟨g, cap, cur, e1, Nat.le_trans hb h1, h2⟩
theorem udp_body_len (sp : Int) (pay : List Int) : (udpR sp pay).body.length = 8 + pay.length := by
  have h1 := (udpR sp pay).body_len
  have e1 : fixV (udpR sp pay).k = 8 := rfl
  have e2 : (udpR sp pay).os.length = 0 := rfl
  have e3 : (udpR sp pay).ds.length = pay.length := rfl
  omega
theorem udp_fine (sp : Int) (pay : List Int) (hf : Fit pay) (hl : pay.length ≤ 140737488355328) : (udpR sp pay).Fine :=
  have z : (0 : Int) ≤ 0 ∧ (0 : Int) ≤ 4294967295 := ⟨by decide, by decide⟩
  ⟨z, z, z, fun i => by simp [udpR, zeroR], hf, hl⟩
set_option maxHeartbeats 2000000 in
theorem encap_no (src dst sp vni : Int) (oam : Bool) (a : Option Addr) (n cap : Nat) (os : List Opt) (fr : List Int) (w : World) (h : OS w a n os) (f : Int) (hE : chkE sp vni os fr.length = f) (hf : (f != 0) = true) :
    Calls Try.prog 7 #[.agg (tnC src dst sp vni oam a n cap fr)] w fun e w' => e = .returned (.tuple #[.slice none 0 0, .int .i64 f]) ∧ Below w.heap.size w w' := by
  have hC : Hid _ := fun W (h : OS W a n os) => gcheck_any src dst sp vni oam a n cap os fr W h
  unfold tnC at hC ⊢
  have H : Hid _ := h
  rw [hE] at hC
  clear h hE
  go_enter Try.func7, Try.ntmps7
  go_wp2_with fail
  refine (hC.out _ (H.out.below (below1 w _))).mono ?_
  rintro e W1 ⟨rfl, hb⟩
  have HB : Hid (Below w.heap.size w W1) := (below1 w _).trans (hb.mono (by simp))
  clear hb hC
  go_wp2
  go_ret2
  exact ⟨rfl, HB.out⟩
set_option maxHeartbeats 4000000 in
theorem encap_yes (src dst sp vni : Int) (oam : Bool) (a : Option Addr) (n cap : Nat) (os : List Opt) (fr : List Int) (w : World) (h : OS w a n os) (hE : chkE sp vni os fr.length = 0) (hs : 0 ≤ src ∧ src ≤ 4294967295) (hd : 0 ≤ dst ∧ dst ≤ 4294967295) (hff : Fit fr) :
    Calls Try.prog 7 #[.agg (tnC src dst sp vni oam a n cap fr)] w fun e w' => ∃ a' cap', e = .returned (.tuple #[.slice a' (encB src dst sp vni oam os fr).length cap', .int .i64 0]) ∧ w'.ownsRow w.heap.size 5 1 (.slice a' (encB src dst sp vni oam os fr).length cap') (encB src dst sp vni oam os fr).length ((encB src dst sp vni oam os fr).map (Value.int .u8)) ∧ Below w.heap.size w w' := by
  obtain ⟨p1, p2, p3, p4, p5⟩ := chk_parts hE
  have hC : Hid _ := fun W (h : OS W a n os) => gcheck_any src dst sp vni oam a n cap os fr W h
  have hP : Hid _ := fun W (h : OS W a n os) => payload_any src dst sp vni oam a n cap os fr W h p2 p3 p4 p5 hff
  unfold tnC at hC hP ⊢
  have H : Hid _ := h
  rw [hE] at hC
  have A0 : Hid ((w.alloc (.cells #[.int .u32 src, .int .u32 dst, .int .i64 sp, .int .i64 vni, .bool oam, .slice a n cap, .string (strOfNums fr)] 25)).heap[w.heap.size]? = some (.cells #[.int .u32 src, .int .u32 dst, .int .i64 sp, .int .i64 vni, .bool oam, .slice a n cap, .string (strOfNums fr)] 25 (0, 0))) := heap_alloc_new w _
  clear h
  go_enter Try.func7, Try.ntmps7
  go_wp2_with fail
  refine (hC.out _ (H.out.below (below1 w _))).mono ?_
  rintro e W1 ⟨rfl, hb⟩
  have HB : Hid (Below w.heap.size w W1) := (below1 w _).trans (hb.mono (by simp))
  have A1 : Hid (W1.heap[w.heap.size]? = some (.cells #[.int .u32 src, .int .u32 dst, .int .i64 sp, .int .i64 vni, .bool oam, .slice a n cap, .string (strOfNums fr)] 25 (0, 0))) := (hb.block _ (Ca.lt_of_heap A0.out)).trans A0.out
  clear hb hC A0
  obtain ⟨pay, hpay⟩ : ∃ p, payB vni oam os fr = p := ⟨_, rfl⟩
  rw [hpay] at hP
  obtain ⟨i0, hi, hz0, hz1, hz2⟩ := info_parts info5
  have hpl := payB_len vni oam os fr
  have hsn := szO_nn os
  rw [hpay] at hpl
  have hpf : Fit pay := by rw [← hpay]; exact payB_fit vni oam os fr (fun o ho => (H.out.fits o ho).1) hff
  have hpl2 : pay.length ≤ 10000 := by omega
  have HM : Hid ((udpR sp pay).body.length ≤ 20000) := by show _ ≤ _; rw [udp_body_len]; omega
  have HEB : Hid (encB src dst sp vni oam os fr = Ip.ipB 0 0 16384 64 17 src dst [] ((udpR sp pay).body.length : Int) ++ (udpR sp pay).body) := by show _ = _; unfold encB udpB; rw [hpay]
  have hL : Hid (∀ W, Calls Try.prog 19 #[.int .u32 src, .int .u32 dst, .agg #[.int .i64 2, .int .i64 0, .int .i64 0, .int .u32 0, .int .i64 sp, .int .i64 6081, .bool true, .int .u32 0, .int .u32 0, .int .i64 0, .int .i64 0, .int .i64 0, .string ⟨#[]⟩, .string (strOfNums pay)]] W fun e w' => ∃ g, e = .returned (.tuple #[.slice (some ⟨g, 0, none⟩) (udpR sp pay).body.length (udpR sp pay).body.length, .int .i64 0]) ∧ EncS W w' g (udpR sp pay).body.length (udpR sp pay).body.length (udpR sp pay).body) := fun W => encode_ok (udpR sp pay) (udp_fine sp pay hpf (by omega)) (udp_ok p1 pay hpl2) src dst hs hd W
  have hI : Hid (∀ W, Calls Try.prog 20 #[.agg #[.int .i64 0, .int .i64 0, .int .i64 16384, .int .i64 64, .int .i64 17, .int .u32 src, .int .u32 dst, .string ⟨#[]⟩], .int .i64 ((udpR sp pay).body.length : Int)] W fun e w' => ∃ a cap, e = .returned (.tuple #[.slice a 20 cap, .int .i64 0]) ∧ w'.ownsRow W.heap.size 5 1 (.slice a 20 cap) 20 ((Ip.ipB 0 0 16384 64 17 src dst [] ((udpR sp pay).body.length : Int)).map (Value.int .u8)) ∧ Below W.heap.size W w') := fun W => Ip.encode_yes 0 0 16384 64 17 src dst [] ((udpR sp pay).body.length : Int) W hs hd (fun i => by simp) (by have := HM.out; unfold Ip.encOk; rw [show Ip.headOk 0 0 16384 64 17 ([] : List Int).length = true from by decide +kernel]; simp; omega)
  have hipl : (Ip.ipB 0 0 16384 64 17 src dst [] ((udpR sp pay).body.length : Int)).length = 20 := rfl
  have HIL : Hid _ := hipl
  obtain ⟨D, hD⟩ : ∃ D, (udpR sp pay).body = D := ⟨_, rfl⟩
  rw [hD] at HM HEB hL hI HIL
  obtain ⟨M, hMM⟩ : ∃ M, D.length = M := ⟨_, rfl⟩
  rw [hMM] at HM HEB hL hI HIL
  obtain ⟨J, hJ⟩ : ∃ J, Ip.ipB 0 0 16384 64 17 src dst [] (M : Int) = J := ⟨_, rfl⟩
  rw [hJ] at HEB hI HIL
  have HMM : Hid _ := hMM
  clear hpl hsn hpf hpl2 hipl hD hJ hMM hE p1 p2 p3 p4 p5 hpay
  have KC : Hid (∀ W, Below W1.heap.size W1 W → W.cell? ⟨w.heap.size, 0, none⟩ = some (.int .u32 src) ∧ W.cell? ⟨w.heap.size, 1, none⟩ = some (.int .u32 dst) ∧ W.cell? ⟨w.heap.size, 2, none⟩ = some (.int .i64 sp) ∧ W.cell? ⟨w.heap.size, 3, none⟩ = some (.int .i64 vni) ∧ W.cell? ⟨w.heap.size, 4, none⟩ = some (.bool oam) ∧ W.cell? ⟨w.heap.size, 5, none⟩ = some (.slice a n cap) ∧ W.cell? ⟨w.heap.size, 6, none⟩ = some (.string (strOfNums fr)) ∧ Below W1.heap.size W1 W) := fun W hb => by
    obtain ⟨x0, x1, x2, x3, x4, x5, x6⟩ := seven ((hb.block _ (Ca.lt_of_heap A1.out)).trans A1.out)
    exact ⟨x0, x1, x2, x3, x4, x5, x6, hb⟩
  go_wp2_with fail
  refine wp_region_held_drew (S := (fun W => W.cell? ⟨w.heap.size, 0, none⟩ = some (.int .u32 src) ∧ W.cell? ⟨w.heap.size, 1, none⟩ = some (.int .u32 dst) ∧ W.cell? ⟨w.heap.size, 2, none⟩ = some (.int .i64 sp) ∧ W.cell? ⟨w.heap.size, 3, none⟩ = some (.int .i64 vni) ∧ W.cell? ⟨w.heap.size, 4, none⟩ = some (.bool oam) ∧ W.cell? ⟨w.heap.size, 5, none⟩ = some (.slice a n cap) ∧ W.cell? ⟨w.heap.size, 6, none⟩ = some (.string (strOfNums fr)) ∧ Below W1.heap.size W1 W)) (by kernel_rfl) ?_ (fun hHeld => ?_)
  · exact KC.out _ (Below.refl _ _).drew
  have KB : Hid _ := hHeld.2.2.2.2.2.2.2
  refine wpAnyH_take (i := 0) (v := ?_) rfl (by kernel_rfl) (by kernel_rfl) (by kernel_rfl) (fun _ _ _ h => h) (Or.inl ⟨by rfl, ?_⟩) (by assumption) ?_
  rotate_left
  · (intro w hSw; (try dsimp only at hSw); go_simp; try with_reducible rfl)
  try simp only [List.getElem_toArray, List.getElem_cons_zero, List.getElem_cons_succ, Act.put, List.setIfInBounds_toArray, List.set_cons_zero, List.set_cons_succ]
  refine wpAnyH_take (i := 1) (v := ?_) rfl (by kernel_rfl) (by kernel_rfl) (by kernel_rfl) (fun _ _ _ h => h) (Or.inl ⟨by rfl, ?_⟩) (by assumption) ?_
  rotate_left
  · (intro w hSw; (try dsimp only at hSw); go_simp; try with_reducible rfl)
  try simp only [List.getElem_toArray, List.getElem_cons_zero, List.getElem_cons_succ, Act.put, List.setIfInBounds_toArray, List.set_cons_zero, List.set_cons_succ]
  refine wpAnyH_take (i := 2) (v := ?_) rfl (by kernel_rfl) (by kernel_rfl) (by kernel_rfl) (fun _ _ _ h => h) (Or.inl ⟨by rfl, ?_⟩) (by assumption) ?_
  rotate_left
  · (intro w hSw; (try dsimp only at hSw); go_simp; try with_reducible rfl)
  try simp only [List.getElem_toArray, List.getElem_cons_zero, List.getElem_cons_succ, Act.put, List.setIfInBounds_toArray, List.set_cons_zero, List.set_cons_succ]
  refine wpAnyH_ready (rs := [3, 5]) (by kernel_rfl) (by simp) ?_
  refine AllReadyH.cons (o := _) rfl (fun K hK => ?_) (AllReadyH.cons (o := _) rfl (fun K hK => ?_) AllReadyH.nil)
  · go_simp
    refine (hP.out _ (H.out.below (HB.out.trans (KB.out.mono HB.out.size)))).mono ?_
    rintro e W2 ⟨rfl, hb2⟩
    go_wp2_with fail
    refine hK.out _ _ (KC.out _ (KB.out.trans (hb2.mono KB.out.size))) (fun hHeld2 => ?_)
    clear hK K hHeld hb2
    try simp only [List.getElem_toArray, List.getElem_cons_zero, List.getElem_cons_succ, Act.put, List.setIfInBounds_toArray, List.set_cons_zero, List.set_cons_succ]
    refine wpAnyH_take (i := 4) (v := ?_) rfl (by kernel_rfl) (by kernel_rfl) (by kernel_rfl) (fun _ _ _ h => h) (Or.inl ⟨by rfl, ?_⟩) (by assumption) ?_
    rotate_left
    · (intro w hSw; (try dsimp only at hSw); go_simp; try with_reducible rfl)
    try simp only [List.getElem_toArray, List.getElem_cons_zero, List.getElem_cons_succ, Act.put, List.setIfInBounds_toArray, List.set_cons_zero, List.set_cons_succ]
    refine wpAnyH_ready (rs := [5]) (by kernel_rfl) (by simp) ?_
    refine AllReadyH.cons (o := _) rfl (fun K hK => ?_) AllReadyH.nil
    go_simp
    refine hK.out _ _ (KC.out _ ((hHeld2.2.2.2.2.2.2.2).alloc hHeld2.2.2.2.2.2.2.2.size _)) (fun hHeld3 => ?_)
    have KD : Hid _ := hHeld2.2.2.2.2.2.2.2
    clear hK K hHeld2 hHeld3
    try simp only [List.getElem_toArray, List.getElem_cons_zero, List.getElem_cons_succ, Act.put, List.setIfInBounds_toArray, List.set_cons_zero, List.set_cons_succ]
    refine wpAnyH_ready (rs := [6]) (by kernel_rfl) (by simp) ?_
    refine AllReadyH.cons (o := _) rfl (fun K hK => ?_) AllReadyH.nil
    go_simp
    refine hK.out _ _ (KC.out _ (KD.out.alloc KD.out.size _)) (fun hHeld4 => ?_)
    refine wpAnyH_done (by kernel_rfl) ?_ _
    clear hK K hHeld4
    try simp only [List.getElem_toArray, List.getElem_cons_zero, List.getElem_cons_succ, Act.put, List.setIfInBounds_toArray, List.set_cons_zero, List.set_cons_succ]
    have R5 : Hid ((W2.alloc (.cells #[.int .i64 2, .int .i64 0, .int .i64 0, .int .u32 0, .int .i64 sp, .int .i64 6081, .bool true, .int .u32 0, .int .u32 0, .int .i64 0, .int .i64 0, .int .i64 0, .string ⟨#[]⟩, .string (strOfNums pay)] 48)).heap[W2.heap.size]? = some (.cells #[.int .i64 2, .int .i64 0, .int .i64 0, .int .u32 0, .int .i64 sp, .int .i64 6081, .bool true, .int .u32 0, .int .u32 0, .int .i64 0, .int .i64 0, .int .i64 0, .string ⟨#[]⟩, .string (strOfNums pay)] 48 (0, 0))) := heap_alloc_new W2 _
    have hbq : Below W1.heap.size W1 (W2.alloc (.cells #[.int .i64 2, .int .i64 0, .int .i64 0, .int .u32 0, .int .i64 sp, .int .i64 6081, .bool true, .int .u32 0, .int .u32 0, .int .i64 0, .int .i64 0, .int .i64 0, .string ⟨#[]⟩, .string (strOfNums pay)] 48)) := KD.out.alloc KD.out.size _
    have A5 : Hid ((W2.alloc (.cells #[.int .i64 2, .int .i64 0, .int .i64 0, .int .u32 0, .int .i64 sp, .int .i64 6081, .bool true, .int .u32 0, .int .u32 0, .int .i64 0, .int .i64 0, .int .i64 0, .string ⟨#[]⟩, .string (strOfNums pay)] 48)).heap[w.heap.size]? = some (.cells #[.int .u32 src, .int .u32 dst, .int .i64 sp, .int .i64 vni, .bool oam, .slice a n cap, .string (strOfNums fr)] 25 (0, 0))) := (hbq.block _ (Ca.lt_of_heap A1.out)).trans A1.out
    have B5 : Hid (Below w.heap.size w (W2.alloc (.cells #[.int .i64 2, .int .i64 0, .int .i64 0, .int .u32 0, .int .i64 sp, .int .i64 6081, .bool true, .int .u32 0, .int .u32 0, .int .i64 0, .int .i64 0, .int .i64 0, .string ⟨#[]⟩, .string (strOfNums pay)] 48))) := HB.out.trans (hbq.mono HB.out.size)
    obtain ⟨W5, hW⟩ : ∃ V, W2.alloc (.cells #[.int .i64 2, .int .i64 0, .int .i64 0, .int .u32 0, .int .i64 sp, .int .i64 6081, .bool true, .int .u32 0, .int .u32 0, .int .i64 0, .int .i64 0, .int .i64 0, .string ⟨#[]⟩, .string (strOfNums pay)] 48) = V := ⟨_, rfl⟩
    obtain ⟨g5, hg⟩ : ∃ V, W2.heap.size = V := ⟨_, rfl⟩
    rw [hW] at R5 A5 B5 ⊢
    rw [hg] at R5 ⊢
    clear hbq KD hW hg
    clear KC
    obtain ⟨x0, x1, x2, x3, x4, x5, x6⟩ := seven A5.out
    go_wp2_with (first
      | refine wpList_load_row rfl 48 _ rfl g5 rfl 48 #[.int .i64 2, .int .i64 0, .int .i64 0, .int .u32 0, .int .i64 sp, .int .i64 6081, .bool true, .int .u32 0, .int .u32 0, .int .i64 0, .int .i64 0, .int .i64 0, .string ⟨#[]⟩, .string (strOfNums pay)] (0, 0) _ R5.out Try.underlying48 rfl info_l4g ?_
      | fail)
    refine (hL.out _).mono ?_
    rintro e W6 ⟨g, rfl, hS⟩
    have B6 : Hid (Below w.heap.size w W6) := B5.out.trans (hS.bel.mono B5.out.size)
    have S6 : Hid (BS W6 (some ⟨g, 0, none⟩) M D) := hS.bs
    have A6 : Hid (W6.heap[w.heap.size]? = some (.cells #[.int .u32 src, .int .u32 dst, .int .i64 sp, .int .i64 vni, .bool oam, .slice a n cap, .string (strOfNums fr)] 25 (0, 0))) := (hS.bel.block _ (Ca.lt_of_heap A5.out)).trans A5.out
    clear hS x0 x1 x2 x3 x4 x5 x6 R5 A5 B5 hL
    obtain ⟨x0, x1, x2, x3, x4, x5, x6⟩ := seven A6.out
    have B7 : Hid (Below w.heap.size w (W6.alloc (.cells #[.int .i64 0, .int .i64 0, .int .i64 16384, .int .i64 64, .int .i64 17, .int .u32 src, .int .u32 dst, .string ⟨#[]⟩] 51))) := B6.out.alloc B6.out.size _
    have S7 : Hid (BS (W6.alloc (.cells #[.int .i64 0, .int .i64 0, .int .i64 16384, .int .i64 64, .int .i64 17, .int .u32 src, .int .u32 dst, .string ⟨#[]⟩] 51)) (some ⟨g, 0, none⟩) M D) := S6.out.below (below1 W6 _)
    go_wp2_with fail
    refine (hI.out _).mono ?_
    rintro e W8 ⟨a1, cap1, rfl, hown, hb8⟩
    have B8 : Hid (Below w.heap.size w W8) := B7.out.trans (hb8.mono B7.out.size)
    have S8 : Hid (BS W8 (some ⟨g, 0, none⟩) M D) := S7.out.below hb8
    have O8 : Hid _ := own_base1 hown B7.out.size
    clear hown hb8 x0 x1 x2 x3 x4 x5 x6 A6 B6 S6 B7 S7 hI
    go_wp2_with (at_builtin; refine wpList_append_bs (by rfl) _ _ 26 rfl w.heap.size 5 i0 Try.underlying26 hi hz0 hz1 hz2 _ _ _ rfl O8.out (some ⟨g, 0, none⟩) M M D rfl S8.out (by have := HM.out; omega) B8.out.size ?_)
    intro a2 cap2 W9 h1 h2
    have B9 : Hid (Below w.heap.size w W9) := B8.out.grown h2 B8.out.size (fun k hk => (World.ownsRow.lt O8.out k hk).1)
    have O9 : Hid _ := h1
    clear h1 h2 S8 O8 B8
    go_wp2
    go_ret2
    refine ⟨a2, cap2, ?_, ?_, B9.out⟩
    · rw [HEB.out, List.length_append, HIL.out, HMM.out]; exact rfl
    · rw [HEB.out, List.length_append, HIL.out, HMM.out, List.map_append]; exact O9.out
  · go_simp
    refine hK.out _ _ (KC.out _ (((Below.refl _ _).alloc (Nat.le_refl _) _).drew)) (fun hHeld2 => ?_)
    clear hK K hHeld KB
    have KB : Hid _ := hHeld2.2.2.2.2.2.2.2
    try simp only [List.getElem_toArray, List.getElem_cons_zero, List.getElem_cons_succ, Act.put, List.setIfInBounds_toArray, List.set_cons_zero, List.set_cons_succ]
    refine wpAnyH_ready (rs := [3]) (by kernel_rfl) (by simp) ?_
    refine AllReadyH.cons (o := _) rfl (fun K hK => ?_) AllReadyH.nil
    go_simp
    refine (hP.out _ (H.out.below (HB.out.trans (KB.out.mono HB.out.size)))).mono ?_
    rintro e W2 ⟨rfl, hb2⟩
    go_wp2_with fail
    refine hK.out _ _ (KC.out _ (KB.out.trans (hb2.mono KB.out.size))) (fun hHeld3 => ?_)
    clear hK K
    try simp only [List.getElem_toArray, List.getElem_cons_zero, List.getElem_cons_succ, Act.put, List.setIfInBounds_toArray, List.set_cons_zero, List.set_cons_succ]
    refine wpAnyH_take (i := 4) (v := ?_) rfl (by kernel_rfl) (by kernel_rfl) (by kernel_rfl) (fun _ _ _ h => h) (Or.inl ⟨by rfl, ?_⟩) (by assumption) ?_
    rotate_left
    · (intro w hSw; (try dsimp only at hSw); go_simp; try with_reducible rfl)
    try simp only [List.getElem_toArray, List.getElem_cons_zero, List.getElem_cons_succ, Act.put, List.setIfInBounds_toArray, List.set_cons_zero, List.set_cons_succ]
    refine wpAnyH_ready (rs := [6]) (by kernel_rfl) (by simp) ?_
    refine AllReadyH.cons (o := _) rfl (fun K hK => ?_) AllReadyH.nil
    have hr5 : W2.heap[W1.heap.size]? = some (.cells #[.int .i64 0, .int .i64 0, .int .i64 0, .int .u32 0, .int .i64 0, .int .i64 0, .bool false, .int .u32 0, .int .u32 0, .int .i64 0, .int .i64 0, .int .i64 0, .string ⟨#[]⟩, .string ⟨#[]⟩] 48 (0, 0)) := (hb2.block _ (by simp)).trans (heap_alloc_new W1 _)
    refine Ca.step_store_at rfl 48 _ _ rfl W1.heap.size 0 #[.int .i64 0, .int .i64 0, .int .i64 0, .int .u32 0, .int .i64 0, .int .i64 0, .bool false, .int .u32 0, .int .u32 0, .int .i64 0, .int .i64 0, .int .i64 0, .string ⟨#[]⟩, .string ⟨#[]⟩] #[.int .i64 2, .int .i64 0, .int .i64 0, .int .u32 0, .int .i64 sp, .int .i64 6081, .bool true, .int .u32 0, .int .u32 0, .int .i64 0, .int .i64 0, .int .i64 0, .string ⟨#[]⟩, .string (strOfNums pay)] 48 rfl rfl hr5 (by kernel_rfl) (Nat.le_of_ble_eq_true (by kernel_rfl)) (by kernel_rfl) ?_
    intro W5 y1 y2 y3 y4
    have hbq : Below W1.heap.size W1 W5 := hHeld3.2.2.2.2.2.2.2.trans (y4.mono (Nat.le_refl _))
    refine hK.out _ _ (KC.out _ hbq) (fun hHeld4 => ?_)
    refine wpAnyH_done (by kernel_rfl) ?_ _
    clear hK K hHeld4 hHeld2 hHeld3
    try simp only [List.getElem_toArray, List.getElem_cons_zero, List.getElem_cons_succ, Act.put, List.setIfInBounds_toArray, List.set_cons_zero, List.set_cons_succ]
    have R5 : Hid (W5.heap[W1.heap.size]? = some (.cells #[.int .i64 2, .int .i64 0, .int .i64 0, .int .u32 0, .int .i64 sp, .int .i64 6081, .bool true, .int .u32 0, .int .u32 0, .int .i64 0, .int .i64 0, .int .i64 0, .string ⟨#[]⟩, .string (strOfNums pay)] 48 (0, 0))) := by show _ = _; rw [← put_l4 sp pay]; exact y1
    have A5 : Hid (W5.heap[w.heap.size]? = some (.cells #[.int .u32 src, .int .u32 dst, .int .i64 sp, .int .i64 vni, .bool oam, .slice a n cap, .string (strOfNums fr)] 25 (0, 0))) := (hbq.block _ (Ca.lt_of_heap A1.out)).trans A1.out
    have B5 : Hid (Below w.heap.size w W5) := HB.out.trans (hbq.mono HB.out.size)
    obtain ⟨g5, hg⟩ : ∃ V, W1.heap.size = V := ⟨_, rfl⟩
    rw [hg] at R5 ⊢
    clear hbq hr5 y1 y2 y3 y4 hg hb2
    clear KC
    obtain ⟨x0, x1, x2, x3, x4, x5, x6⟩ := seven A5.out
    go_wp2_with (first
      | refine wpList_load_row rfl 48 _ rfl g5 rfl 48 #[.int .i64 2, .int .i64 0, .int .i64 0, .int .u32 0, .int .i64 sp, .int .i64 6081, .bool true, .int .u32 0, .int .u32 0, .int .i64 0, .int .i64 0, .int .i64 0, .string ⟨#[]⟩, .string (strOfNums pay)] (0, 0) _ R5.out Try.underlying48 rfl info_l4g ?_
      | fail)
    refine (hL.out _).mono ?_
    rintro e W6 ⟨g, rfl, hS⟩
    have B6 : Hid (Below w.heap.size w W6) := B5.out.trans (hS.bel.mono B5.out.size)
    have S6 : Hid (BS W6 (some ⟨g, 0, none⟩) M D) := hS.bs
    have A6 : Hid (W6.heap[w.heap.size]? = some (.cells #[.int .u32 src, .int .u32 dst, .int .i64 sp, .int .i64 vni, .bool oam, .slice a n cap, .string (strOfNums fr)] 25 (0, 0))) := (hS.bel.block _ (Ca.lt_of_heap A5.out)).trans A5.out
    clear hS x0 x1 x2 x3 x4 x5 x6 R5 A5 B5 hL
    obtain ⟨x0, x1, x2, x3, x4, x5, x6⟩ := seven A6.out
    have B7 : Hid (Below w.heap.size w (W6.alloc (.cells #[.int .i64 0, .int .i64 0, .int .i64 16384, .int .i64 64, .int .i64 17, .int .u32 src, .int .u32 dst, .string ⟨#[]⟩] 51))) := B6.out.alloc B6.out.size _
    have S7 : Hid (BS (W6.alloc (.cells #[.int .i64 0, .int .i64 0, .int .i64 16384, .int .i64 64, .int .i64 17, .int .u32 src, .int .u32 dst, .string ⟨#[]⟩] 51)) (some ⟨g, 0, none⟩) M D) := S6.out.below (below1 W6 _)
    go_wp2_with fail
    refine (hI.out _).mono ?_
    rintro e W8 ⟨a1, cap1, rfl, hown, hb8⟩
    have B8 : Hid (Below w.heap.size w W8) := B7.out.trans (hb8.mono B7.out.size)
    have S8 : Hid (BS W8 (some ⟨g, 0, none⟩) M D) := S7.out.below hb8
    have O8 : Hid _ := own_base1 hown B7.out.size
    clear hown hb8 x0 x1 x2 x3 x4 x5 x6 A6 B6 S6 B7 S7 hI
    go_wp2_with (at_builtin; refine wpList_append_bs (by rfl) _ _ 26 rfl w.heap.size 5 i0 Try.underlying26 hi hz0 hz1 hz2 _ _ _ rfl O8.out (some ⟨g, 0, none⟩) M M D rfl S8.out (by have := HM.out; omega) B8.out.size ?_)
    intro a2 cap2 W9 h1 h2
    have B9 : Hid (Below w.heap.size w W9) := B8.out.grown h2 B8.out.size (fun k hk => (World.ownsRow.lt O8.out k hk).1)
    have O9 : Hid _ := h1
    clear h1 h2 S8 O8 B8
    go_wp2
    go_ret2
    refine ⟨a2, cap2, ?_, ?_, B9.out⟩
    · rw [HEB.out, List.length_append, HIL.out, HMM.out]; exact rfl
    · rw [HEB.out, List.length_append, HIL.out, HMM.out, List.map_append]; exact O9.out
end Go.Proofs.Ytgonckbdkgiddaa
