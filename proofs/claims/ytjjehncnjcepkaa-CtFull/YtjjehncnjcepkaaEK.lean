/- Look of a packet that a zone with a list of connections knows. Conditions: as said. -/
import Derived.Test.YtjjehncnjcepkaaEH
import Derived.Test.YtjjehncnjcepkaaCS
import Derived.Lib.Hide
namespace Go.Proofs.Ytjjehncnjcepkaa
open Go.RowKit
theorem TZ.tup1 {w : World} {B tb zb : Nat} {room : Int} {q : Value} {E : List Nat} {z : Int} {O : Nat → Tup} {g1 g2 zs cz : Nat} (h : TZ w B tb zb room q E z O g1 g2 zs cz) (t : Tup) : (Instr.lookup 58 (.map (some g1)) (tv t) false).run Try.prog w = .ok (.pointer (at9 O E t)) w := by
  have := look_any tupK Try.underlying58 (.pointer none) (fun _ => by kernel_rfl) h.m1 t
  rwa [find_rows9] at this
theorem TZ.tup2 {w : World} {B tb zb : Nat} {room : Int} {q : Value} {E : List Nat} {z : Int} {O : Nat → Tup} {g1 g2 zs cz : Nat} (h : TZ w B tb zb room q E z O g1 g2 zs cz) (t : Tup) : (Instr.lookup 58 (.map (some g2)) (tv t) false).run Try.prog w = .ok (.pointer (at9 (fun e => turn (O e)) E t)) w := by
  have := look_any tupK Try.underlying58 (.pointer none) (fun _ => by kernel_rfl) h.m2 t
  rwa [find_rows9] at this
theorem TZ.knows {w : World} {B tb zb : Nat} {room : Int} {q : Value} {E : List Nat} {z : Int} {O : Nat → Tup} {g1 g2 zs cz : Nat} (h : TZ w B tb zb room q E z O g1 g2 zs cz) (t : Tup) :
    Calls Try.prog 27 #[.agg #[.map (some g1), .map (some g2)], tv t] w fun e w' => e = .returned (.bool ((at9 O E t).isSome || (at9 (fun e => turn (O e)) E t).isSome)) ∧ Below w.heap.size w w' :=
  knows_any _ _ t _ _ w (fun _ hW => (h.of hW.block).tup1 t) (fun _ hW => (h.of hW.block).tup2 t)
set_option linter.unusedVariables false
set_option linter.unusedSimpArgs false in
set_option maxRecDepth 20000 in
set_option maxHeartbeats 8000000 in
theorem look_list (bk : Bool) {w : World} {B tb zb : Nat} {room : Int} {q : Value} {E : List Nat} {z : Int} {O : Nat → Tup} {g1 g2 zs cz : Nat} (h : TZ w B tb zb room q E z O g1 g2 zs cz) (eb : Nat) (hm : eb ∈ E) (hz0 : 0 ≤ z) (hz1 : z ≤ 65535)
    (cs ps : Array Value) (hst : St cs) (hps : cs.extract 0 (0 + 36) = ps) {fr pr src dst k ty co re sp dp : Int} (hp : Pk ps true fr pr src dst k ty co re sp dp) (hT : hasT true fr k ty co = true)
    (t : Tup) (ht : (pr, src, dst, portT k re sp, portT k re dp) = t) (hU : if bk then at9 O E t = none ∧ at9 (fun e => turn (O e)) E t = some ⟨eb, 0, none⟩ else at9 O E t = some ⟨eb, 0, none⟩) :
    Calls Try.prog 8 #[.pointer (some ⟨tb, 0, none⟩), .int .i64 z, .agg cs] w fun e w' => e = .returned (.tuple #[.agg (lookC cs t (if bk then 6 else 2)), .int .i64 0]) ∧ Below w.heap.size w w' := by
  have HOF : Hid (∀ W, Calls Try.prog 20 #[.agg ps] W fun e w' => e = .returned (.tuple #[.agg (tupC pr src dst (portT k re sp) (portT k re dp)), .bool true]) ∧ Below W.heap.size W w') := by
    show ∀ W, _
    intro W; exact of_yes hp hT W
  obtain ⟨s9, hs9⟩ : ∃ s9, portT k re sp = s9 := ⟨_, rfl⟩
  obtain ⟨d9, hd9⟩ : ∃ d9, portT k re dp = d9 := ⟨_, rfl⟩
  rw [hs9, hd9] at HOF ht
  subst ht
  obtain ⟨ie, hie⟩ := mem_get.1 hm
  have hpos : 0 < E.length := by have := (List.getElem?_eq_some_iff.1 hie).1; omega
  have HIE : Hid _ := hie
  have HMM : Hid _ := hm
  have HPO : Hid _ := hpos
  have HF : Hid (∀ W, Below w.heap.size w W → Calls Try.prog 21 #[.agg #[.map (some g1), .map (some g2)], tv (pr, src, dst, s9, d9)] W fun e w' => e = .returned (.tuple #[.pointer (some ⟨eb, 0, none⟩), .bool bk]) ∧ Below W.heap.size W w') := by
    show ∀ W, _
    intro W hW
    have hw := h.of hW.block
    have hf := find_any (some g1) (some g2) (pr, src, dst, s9, d9) _ _ W (fun W' hW' => (hw.of hW'.block).tup1 _) (fun W' hW' => (hw.of hW'.block).tup2 _)
    cases bk
    · have hU' : at9 O E (pr, src, dst, s9, d9) = _ := hU
      rw [hU'] at hf
      exact hf
    · obtain ⟨u1, u2⟩ := hU
      rw [u1, u2] at hf
      exact hf
  have HNX : Hid (∀ W, W.heap[tb]? = some (.cells (tabV room 0 zb q) 65 (0, 0)) → Calls Try.prog 23 #[.pointer (some ⟨tb, 0, none⟩)] W fun e w' => e = .returned (.int .i64 30) ∧ w' = W) := by
    show ∀ W, _
    intro W hW; exact nextEnd_any tb zb room 0 (by decide) q W hW
  obtain ⟨tc, htc⟩ : ∃ tc, tupC pr src dst s9 d9 = tc := ⟨_, rfl⟩
  rw [htc] at HOF
  have htz : tc.size = 5 := by rw [← htc]; rfl
  have hto : tc.all (·.oneCell') = true := by rw [← htc]; exact tup_one _ _ _ _ _
  have HTE : Hid _ := htc
  have HTZ : Hid _ := htz
  have HTO : Hid _ := hto
  have HIT : Hid _ := (show (Try.prog.info? 44).map (·.size) = some tc.size by rw [htz]; exact size5)
  have HST : Hid _ := hst
  have HPS : Hid _ := hps
  have HP36 : Hid _ := hp.size
  have HH : Hid _ := h
  have HTB : Hid _ := h.qs.t
  have hz9 : zoneE z = 0 := by unfold zoneE; rw [if_neg (by omega), if_neg (by omega)]
  have HZE : Hid _ := hz9
  have hlt : tb < w.heap.size := lt_of_heap h.qs.t
  have hle : eb < w.heap.size := lt_of_heap (h.qs.en ie eb hie)
  have HS2 : Hid _ := two_first w (.cells cs 46) (.cells zeroC 46)
  have HZ2 : Hid _ := two_last w (.cells cs 46) (.cells zeroC 46)
  have HLS : Hid (∀ a, (lookC cs (pr, src, dst, s9, d9) a).size = 49) := fun a => look_size hst.size (pr, src, dst, s9, d9) a
  have HLO : Hid (∀ a, (lookC cs (pr, src, dst, s9, d9) a).all (·.oneCell') = true) := fun a => look_one hst.one (pr, src, dst, s9, d9) a
  obtain ⟨x36, h36, _, _⟩ := hst.i64 36 (by decide)
  have H36 : Hid _ := h36
  clear htc htz hto hst hps hp hT hU h hz9 hs9 hd9 h36 hie hm hpos
  go_enter Try.func8, Try.ntmps8
  go_wp2_with fail
  refine (check_any tb zb room 0 z _ _ ((below2 w _ _).block _ hlt |>.trans HTB.out)).mono ?_
  rw [HZE.out]
  rintro e W0 ⟨rfl, hw0⟩
  rw [hw0]
  clear hw0
  go_wp2_with (first
    | refine wpList_load_as rfl 41 _ rfl w.heap.size 0 36 rfl cs ps 46 _ HS2.out Try.underlying41 rfl HPS.out HP36.out size36 ?_
    | fail)
  refine (HOF.out _).mono ?_
  rintro e W1 ⟨rfl, hb1⟩
  have HS1 : Hid (W1.heap[w.heap.size]? = some (.cells cs 46 (0, 0))) := (hb1.block _ (by simp; omega)).trans HS2.out
  have HZ1 : Hid (W1.heap[w.heap.size + 1]? = some (.cells zeroC 46 (0, 0))) := (hb1.block _ (by simp)).trans HZ2.out
  have hlt1 : w.heap.size + 1 < W1.heap.size := lt_of_heap HZ1.out
  have HB1 : Hid (Below w.heap.size w W1) := (below2 w _ _).trans (hb1.mono (by simp; omega))
  have HN1 : Hid _ := heap_alloc_new W1 (.cells tc 44)
  have HS1a : Hid _ := (heap_alloc_old W1 (.cells tc 44) (by omega)).trans HS1.out
  have hin : 44 + tc.size ≤ cs.size := by rw [HTZ.out, HST.out.size]; decide
  have HIN : Hid _ := hin
  clear hb1 hin
  go_wp2_with (first
    | refine wpList_store_new rfl 44 _ _ rfl _ tc W1.heap.size rfl rfl rfl HIT.out (Eq.trans (b := 5) rfl HTZ.out.symm) HTO.out ?_
    | refine wpList_load_row rfl 44 _ rfl W1.heap.size rfl 44 tc (0, 0) _ HN1.out Try.underlying44 rfl HIT.out ?_
    | refine wpList_store_at rfl 44 _ _ rfl w.heap.size 44 cs tc 46 rfl rfl HS1a.out HIT.out HIN.out HTO.out ?_
    | fail)
  intro W2 z1 z2 z3 z4
  have c36 : W2.cell? ⟨w.heap.size, 36, none⟩ = some (.int .i64 x36) := by
    rw [cell_row z1 36, putC_get _ _ _ _ (by rw [Array.length_toList]; exact HIN.out), if_pos (by decide)]; exact H36.out
  have f36 := frozen_of_row W2 _ 36 _ _ z1
  have HT2 : Hid (W2.heap[W1.heap.size]? = some (.cells tc 44 (0, 0))) := (z2 _ (by omega)).trans HN1.out
  have HZ2' : Hid (W2.heap[w.heap.size + 1]? = some (.cells zeroC 46 (0, 0))) := (z2 _ (by omega)).trans ((heap_alloc_old _ _ hlt1).trans HZ1.out)
  have HB2 : Hid (Below w.heap.size w W2) := (HB1.out.trans ((below1 W1 _).mono HB1.out.size)).trans z4
  have HR2 : Hid _ := z1
  clear z1 z2 z3 z4 HS1a
  go_wp2_with fail
  have hlc : (putC cs 44 tc.toList).setIfInBounds 36 (.int .i64 1) = lookC cs (pr, src, dst, s9, d9) 1 := by rw [← HTE.out]; rfl
  have key : ∀ W, Below W2.heap.size (W2.setCell ⟨w.heap.size, 36, none⟩ (.int .i64 1)) W → W.cell? ⟨tb, 2, none⟩ = some (.map (some zb)) ∧ W.heap[w.heap.size]? = some (.cells (lookC cs (pr, src, dst, s9, d9) 1) 46 (0, 0)) ∧ W.heap[w.heap.size + 1]? = some (.cells zeroC 46 (0, 0)) ∧ W.heap[W1.heap.size]? = some (.cells tc 44 (0, 0)) ∧ Below w.heap.size w W := fun W hb => by
    have hl2 : W1.heap.size < W2.heap.size := lt_of_heap HT2.out
    have hbw : Below w.heap.size w W := (HB2.out.setCell (Nat.le_refl _) _).trans (hb.mono (by omega))
    have oth : ∀ g, g ≠ w.heap.size → g < W2.heap.size → W.heap[g]? = W2.heap[g]? := fun g hg hg2 => (hb.block _ hg2).trans (Below.heap_setCell _ _ _ _ hg)
    refine ⟨(cell_row ((hbw.block _ hlt).trans HTB.out) 2), ?_, (oth _ (by omega) (by omega)).trans HZ2'.out, (oth _ (by omega) hl2).trans HT2.out, hbw⟩
    rw [← hlc]
    exact (hb.block _ (by omega)).trans (row_setCell HR2.out 36 _)
  have KC : Hid _ := key
  have esz : (W2.setCell ⟨w.heap.size, 36, none⟩ (.int .i64 1)).heap.size = W2.heap.size := by simp [World.setCell]
  clear key hlc c36 f36 HR2 HZ2' HT2
  refine wp_region_held_drew (S := (fun W => W.cell? ⟨tb, 2, none⟩ = some (.map (some zb)) ∧ W.heap[w.heap.size]? = some (.cells (lookC cs (pr, src, dst, s9, d9) 1) 46 (0, 0)) ∧ W.heap[w.heap.size + 1]? = some (.cells zeroC 46 (0, 0)) ∧ W.heap[W1.heap.size]? = some (.cells tc 44 (0, 0)) ∧ Below w.heap.size w W)) (by kernel_rfl) ?_ (fun hHeld => ?_)
  · exact KC.out _ (Below.refl _ _).drew
  refine wpAnyH_take (i := 0) (v := ?_) rfl (by kernel_rfl) (by kernel_rfl) (by kernel_rfl) (fun _ _ _ h => h) (Or.inl ⟨by rfl, ?_⟩) (by assumption) ?_
  rotate_left
  · (intro w hSw; (try dsimp only at hSw); go_simp; try with_reducible rfl)
  try simp only [List.getElem_toArray, List.getElem_cons_zero, List.getElem_cons_succ, Act.put, List.setIfInBounds_toArray, List.set_cons_zero, List.set_cons_succ]
  refine wpAnyH_take (i := 1) (v := ?_) rfl (by kernel_rfl) (by kernel_rfl) (by kernel_rfl) (fun _ _ _ h => h) (Or.inl ⟨by rfl, ?_⟩) (by assumption) ?_
  rotate_left
  · (intro w hSw; (try dsimp only at hSw); go_simp; try with_reducible rfl)
  try simp only [List.getElem_toArray, List.getElem_cons_zero, List.getElem_cons_succ, Act.put, List.setIfInBounds_toArray, List.set_cons_zero, List.set_cons_succ]
  refine wpAnyH_take (i := 2) (v := ?_) rfl (by kernel_rfl) (by kernel_rfl) (by kernel_rfl) (fun _ _ _ h => h) (Or.inl ⟨by rfl, ?_⟩) (by assumption) ?_
  rotate_left
  · (intro w hSw; (try dsimp only at hSw); go_simp; try with_reducible rfl)
  try simp only [List.getElem_toArray, List.getElem_cons_zero, List.getElem_cons_succ, Act.put, List.setIfInBounds_toArray, List.set_cons_zero, List.set_cons_succ]
  refine wpAnyH_take (i := 3) (v := ?_) rfl (by kernel_rfl) (by kernel_rfl) (by kernel_rfl) (fun _ _ _ h => h) (Or.inl ⟨by rfl, ?_⟩) (by assumption) ?_
  rotate_left
  · (intro w hSw; (try dsimp only at hSw); go_simp; try with_reducible rfl)
  try simp only [List.getElem_toArray, List.getElem_cons_zero, List.getElem_cons_succ, Act.put, List.setIfInBounds_toArray, List.set_cons_zero, List.set_cons_succ]
  refine wpAnyH_take (i := 4) (v := ?_) rfl (by kernel_rfl) (by kernel_rfl) (by kernel_rfl) (fun _ _ _ h => h) (Or.inl ⟨by rfl, ?_⟩) (by assumption) ?_
  rotate_left
  · (intro w hSw; (try dsimp only at hSw); go_simp; try with_reducible rfl)
  try simp only [List.getElem_toArray, List.getElem_cons_zero, List.getElem_cons_succ, Act.put, List.setIfInBounds_toArray, List.set_cons_zero, List.set_cons_succ]
  refine wpAnyH_take (i := 5) (v := .agg #[.map (some g1), .map (some g2)]) rfl (by kernel_rfl) (by kernel_rfl) (by kernel_rfl) (fun _ _ _ h => h) (yields_lookup (by rfl) 61 _ _ rfl (.map (some zb)) (iv z) _ rfl rfl (fun W h => (HH.out.of h.2.2.2.2.block).zone)) (by assumption) ?_
  try simp only [List.getElem_toArray, List.getElem_cons_zero, List.getElem_cons_succ, Act.put, List.setIfInBounds_toArray, List.set_cons_zero, List.set_cons_succ]
  refine wpAnyH_take (i := 6) (v := .agg tc) rfl (by kernel_rfl) (by kernel_rfl) (by kernel_rfl) (fun _ _ _ h => h) (yields_loadR (by rfl) 44 _ rfl W1.heap.size rfl 44 tc _ (fun _ h => h.2.2.2.1) Try.underlying44 rfl HIT.out) (by assumption) ?_
  try simp only [List.getElem_toArray, List.getElem_cons_zero, List.getElem_cons_succ, Act.put, List.setIfInBounds_toArray, List.set_cons_zero, List.set_cons_succ]
  refine wpAnyH_ready (rs := [7]) (by kernel_rfl) (by simp) ?_
  refine AllReadyH.cons (o := _) rfl (fun K hK => ?_) AllReadyH.nil
  go_simp
  rw [← HTE.out]
  have hbd : Below w.heap.size w (W2.setCell ⟨w.heap.size, 36, none⟩ (.int .i64 1)).drew := (KC.out _ (Below.refl _ _).drew).2.2.2.2
  refine (HF.out _ hbd).mono ?_
  rintro e W3 ⟨rfl, hb3⟩
  go_wp2_with fail
  have k3 := KC.out W3 (((Below.refl _ _).drew).trans (hb3.mono (by rw [show (W2.setCell ⟨w.heap.size, 36, none⟩ (.int .i64 1)).drew.heap.size = W2.heap.size from esz]; exact Nat.le_refl _)))
  refine hK.out _ _ k3 (fun hHeld2 => ?_)
  clear hK K hHeld hb3 hbd
  have hHeld := hHeld2
  clear hHeld2
  try simp only [List.getElem_toArray, List.getElem_cons_zero, List.getElem_cons_succ, Act.put, List.setIfInBounds_toArray, List.set_cons_zero, List.set_cons_succ]
  refine wpAnyH_take (i := 8) (v := ?_) rfl (by kernel_rfl) (by kernel_rfl) (by kernel_rfl) (fun _ _ _ h => h) (Or.inl ⟨by rfl, ?_⟩) (by assumption) ?_
  rotate_left
  · (intro w hSw; (try dsimp only at hSw); go_simp; try with_reducible rfl)
  try simp only [List.getElem_toArray, List.getElem_cons_zero, List.getElem_cons_succ, Act.put, List.setIfInBounds_toArray, List.set_cons_zero, List.set_cons_succ]
  refine wpAnyH_take (i := 9) (v := ?_) rfl (by kernel_rfl) (by kernel_rfl) (by kernel_rfl) (fun _ _ _ h => h) (Or.inl ⟨by rfl, ?_⟩) (by assumption) ?_
  rotate_left
  · (intro w hSw; (try dsimp only at hSw); go_simp; try with_reducible rfl)
  try simp only [List.getElem_toArray, List.getElem_cons_zero, List.getElem_cons_succ, Act.put, List.setIfInBounds_toArray, List.set_cons_zero, List.set_cons_succ]
  refine wpAnyH_take (i := 10) (v := ?_) rfl (by kernel_rfl) (by kernel_rfl) (by kernel_rfl) (fun _ _ _ h => h) (Or.inl ⟨by rfl, ?_⟩) (by assumption) ?_
  rotate_left
  · (intro w hSw; (try dsimp only at hSw); go_simp; try with_reducible rfl)
  try simp only [List.getElem_toArray, List.getElem_cons_zero, List.getElem_cons_succ, Act.put, List.setIfInBounds_toArray, List.set_cons_zero, List.set_cons_succ]
  refine wpAnyH_take (i := 11) (v := ?_) rfl (by kernel_rfl) (by kernel_rfl) (by kernel_rfl) (fun _ _ _ h => h) (Or.inl ⟨by rfl, ?_⟩) (by assumption) ?_
  rotate_left
  · (intro w hSw; (try dsimp only at hSw); go_simp; try with_reducible rfl)
  try simp only [List.getElem_toArray, List.getElem_cons_zero, List.getElem_cons_succ, Act.put, List.setIfInBounds_toArray, List.set_cons_zero, List.set_cons_succ]
  refine wpAnyH_take (i := 12) (v := ?_) rfl (by kernel_rfl) (by kernel_rfl) (by kernel_rfl) (fun _ _ _ h => h) (Or.inl ⟨by rfl, ?_⟩) (by assumption) ?_
  rotate_left
  · (intro w hSw; (try dsimp only at hSw); go_simp; try with_reducible rfl)
  try simp only [List.getElem_toArray, List.getElem_cons_zero, List.getElem_cons_succ, Act.put, List.setIfInBounds_toArray, List.set_cons_zero, List.set_cons_succ]
  refine wpAnyH_done (by kernel_rfl) ?_ _
  have Q0 : Hid _ := k3.2.1
  have Q1 : Hid _ := k3.2.2.1
  have QB : Hid _ := k3.2.2.2.2
  clear k3 KC hHeld
  have hne := eql_pent
  go_wp2_with fail
  have H3 : Hid _ := HH.out.of QB.out.drew.block
  refine wp_region_held_drew (S := (fun _ => True)) (by kernel_rfl) trivial (fun hHeld => ?_)
  refine wpAnyH_take (i := 0) (v := ?_) rfl (by kernel_rfl) (by kernel_rfl) (by kernel_rfl) (fun _ _ _ h => h) (Or.inl ⟨by rfl, ?_⟩) (by assumption) ?_
  rotate_left
  · (intro w hSw; (try dsimp only at hSw); go_simp; try with_reducible rfl)
  try simp only [List.getElem_toArray, List.getElem_cons_zero, List.getElem_cons_succ, Act.put, List.setIfInBounds_toArray, List.set_cons_zero, List.set_cons_succ]
  refine wpAnyH_take (i := 1) (v := ?_) rfl (by kernel_rfl) (by kernel_rfl) (by kernel_rfl) (fun _ _ _ h => h) (Or.inl ⟨by rfl, ?_⟩) (by assumption) ?_
  rotate_left
  · (intro w hSw; (try dsimp only at hSw); go_simp; try with_reducible rfl)
  try simp only [List.getElem_toArray, List.getElem_cons_zero, List.getElem_cons_succ, Act.put, List.setIfInBounds_toArray, List.set_cons_zero, List.set_cons_succ]
  refine wpAnyH_take (i := 2) (v := ?_) rfl (by kernel_rfl) (by kernel_rfl) (by kernel_rfl) (fun _ _ _ h => h) (Or.inl ⟨by rfl, ?_⟩) (by assumption) ?_
  rotate_left
  · (intro w hSw; (try dsimp only at hSw); go_simp; try with_reducible rfl)
  try simp only [List.getElem_toArray, List.getElem_cons_zero, List.getElem_cons_succ, Act.put, List.setIfInBounds_toArray, List.set_cons_zero, List.set_cons_succ]
  refine wpAnyH_take (i := 3) (v := ?_) rfl (by kernel_rfl) (by kernel_rfl) (by kernel_rfl) (fun _ _ _ h => h) (Or.inl ⟨by rfl, ?_⟩) (by assumption) ?_
  rotate_left
  · (intro w hSw; (try dsimp only at hSw); go_simp; try with_reducible rfl)
  try simp only [List.getElem_toArray, List.getElem_cons_zero, List.getElem_cons_succ, Act.put, List.setIfInBounds_toArray, List.set_cons_zero, List.set_cons_succ]
  refine wpAnyH_take (i := 4) (v := ?_) rfl (by kernel_rfl) (by kernel_rfl) (by kernel_rfl) (fun _ _ _ h => h) (Or.inl ⟨by rfl, ?_⟩) (by assumption) ?_
  rotate_left
  · (intro w hSw; (try dsimp only at hSw); go_simp; try with_reducible rfl)
  try simp only [List.getElem_toArray, List.getElem_cons_zero, List.getElem_cons_succ, Act.put, List.setIfInBounds_toArray, List.set_cons_zero, List.set_cons_succ]
  refine wpAnyH_ready (rs := [5]) (by kernel_rfl) (by simp) ?_
  refine AllReadyH.cons (o := _) rfl (fun K hK => ?_) AllReadyH.nil
  go_simp
  refine (HNX.out _ H3.out.qs.t).mono ?_
  rintro e W4 ⟨rfl, hw4⟩
  rw [hw4]
  clear hw4
  go_wp2_with fail
  refine hK.out _ _ trivial (fun hHeld2 => ?_)
  clear hK K hHeld
  have hHeld := hHeld2
  clear hHeld2
  try simp only [List.getElem_toArray, List.getElem_cons_zero, List.getElem_cons_succ, Act.put, List.setIfInBounds_toArray, List.set_cons_zero, List.set_cons_succ]
  refine wpAnyH_ready (rs := [6]) (by kernel_rfl) (by simp) ?_
  refine AllReadyH.cons (o := _) rfl (fun K hK => ?_) AllReadyH.nil
  go_simp
  obtain ⟨qg, qc, Q, _, _, qb9⟩ := H3.out.qs.qb HPO.out
  refine (qput_eq qb9 HMM.out).mono ?_
  rintro e W4 ⟨rfl, k4, hw4⟩
  have q40 : W4.heap[w.heap.size]? = some (.cells (lookC cs (pr, src, dst, s9, d9) 1) 46 (0, 0)) := by rw [hw4]; exact Q0.out
  have q41 : W4.heap[w.heap.size + 1]? = some (.cells zeroC 46 (0, 0)) := by rw [hw4]; exact Q1.out
  have qb4 : Below w.heap.size w W4 := by rw [hw4]; exact below_drewN9 QB.out.drew k4
  have h4 : TZ W4 B tb zb room q E z O g1 g2 zs cz := by rw [hw4]; exact H3.out.of (fun _ _ => rfl)
  clear hw4 H3 Q0 Q1 QB qb9
  have Q40 : Hid _ := q40
  have Q41 : Hid _ := q41
  have QB4 : Hid _ := qb4
  have H4 : Hid _ := h4
  go_wp2_with fail
  refine hK.out _ _ trivial (fun hHeld2 => ?_)
  clear hK K hHeld hHeld2
  try simp only [List.getElem_toArray, List.getElem_cons_zero, List.getElem_cons_succ, Act.put, List.setIfInBounds_toArray, List.set_cons_zero, List.set_cons_succ]
  refine wpAnyH_done (by kernel_rfl) ?_ _
  have c36 : W4.cell? ⟨w.heap.size, 36, none⟩ = some (.int .i64 1) := (cell_row q40 36).trans (look_36 HST.out.size _ _)
  have f36 := frozen_of_row W4 _ 36 _ _ q40
  have c11 : W4.cell? ⟨eb, 11, none⟩ = some (.bool false) := cell_row (h4.qs.en ie eb HIE.out) 11
  have hne1 : eb ≠ w.heap.size := by omega
  have hne2 : w.heap.size ≠ eb := by omega
  have b24 : bits BinOp.or IntKind.i64 2 4 = 6 := by decide +kernel
  have b28 : bits BinOp.or IntKind.i64 2 8 = 10 := by decide +kernel
  have b68 : bits BinOp.or IntKind.i64 6 8 = 14 := by decide +kernel
  have g0 : Good w W4 W4 w.heap.size (lookC cs (pr, src, dst, s9, d9) 1) := ⟨Q40.out, Q41.out, fun _ _ => rfl, QB4.out⟩
  have G1 : Hid (∀ v, Good w W4 (W4.setCell ⟨w.heap.size, 36, none⟩ (.int .i64 v)) w.heap.size (lookC cs (pr, src, dst, s9, d9) v)) := fun v => g0.set (Nat.le_refl _) v
  have G2 : Hid (∀ u v, Good w W4 ((W4.setCell ⟨w.heap.size, 36, none⟩ (.int .i64 u)).setCell ⟨w.heap.size, 36, none⟩ (.int .i64 v)) w.heap.size (lookC cs (pr, src, dst, s9, d9) v)) := fun u v => (G1.out u).set (Nat.le_refl _) v
  have G3 : Hid (∀ u x v, Good w W4 (((W4.setCell ⟨w.heap.size, 36, none⟩ (.int .i64 u)).setCell ⟨w.heap.size, 36, none⟩ (.int .i64 x)).setCell ⟨w.heap.size, 36, none⟩ (.int .i64 v)) w.heap.size (lookC cs (pr, src, dst, s9, d9) v)) := fun u x v => (G2.out u x).set (Nat.le_refl _) v
  clear q40 q41 qb4 h4 g0
  cases bk
  · go_wp2_with (first
      | refine wpList_load_row rfl 46 _ rfl w.heap.size rfl 46 (lookC cs (pr, src, dst, s9, d9) 2) (0, 0) _ ((G1.out 2).row) Try.underlying46 rfl (info_size (HLS.out _)) ?_
      | refine wpList_store_row rfl 46 _ _ rfl (w.heap.size + 1) zeroC (lookC cs (pr, src, dst, s9, d9) 2) 46 rfl rfl ((G1.out 2).zero) (info_size (HLS.out _)) (Eq.trans (b := 49) rfl (HLS.out _).symm) (HLO.out _) ?_
      | fail)
    intro W8 y1 y2 y3 y4
    have B8 : Hid (Below w.heap.size w W8) := Below.trans ((G1.out 2).bel) (y4.mono (by omega))
    go_wp2
    exact bodyPost_ret (results_state (p := 6) (u := 7) rfl _ _ (w.heap.size + 1) _ rfl y1 (HLS.out _)) rfl ⟨rfl, B8.out⟩
  · go_wp2_with (first
      | refine wpList_load_row rfl 46 _ rfl w.heap.size rfl 46 (lookC cs (pr, src, dst, s9, d9) 6) (0, 0) _ ((G2.out 2 6).row) Try.underlying46 rfl (info_size (HLS.out _)) ?_
      | refine wpList_store_row rfl 46 _ _ rfl (w.heap.size + 1) zeroC (lookC cs (pr, src, dst, s9, d9) 6) 46 rfl rfl ((G2.out 2 6).zero) (info_size (HLS.out _)) (Eq.trans (b := 49) rfl (HLS.out _).symm) (HLO.out _) ?_
      | fail)
    intro W8 y1 y2 y3 y4
    have B8 : Hid (Below w.heap.size w W8) := Below.trans ((G2.out 2 6).bel) (y4.mono (by omega))
    go_wp2
    exact bodyPost_ret (results_state (p := 6) (u := 7) rfl _ _ (w.heap.size + 1) _ rfl y1 (HLS.out _)) rfl ⟨rfl, B8.out⟩
end Go.Proofs.Ytjjehncnjcepkaa
