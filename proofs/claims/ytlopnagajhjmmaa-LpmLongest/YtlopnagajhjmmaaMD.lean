/- LpmLongest: what is found is the longest. Conditions: as said. -/
import Derived.Test.YtlopnagajhjmmaaMC
import Derived.Test.YtlopnagajhjmmaaLZ
namespace Go.Proofs.Ytlopnagajhjmmaa
open Go.RowKit Tr
theorem T3.looksA {w V : World} {ta ub xb : Nat} {a u : Tr} (h : T3 w V ta ub xb a u a.ents) : Calls Try.prog 18 #[ptr ta, ptr xb] V fun e w' => e = .returned (.bool true) ∧ Hid (T3 w w' ta ub xb a u a.ents) := by
  obtain ⟨qa, qc, hR⟩ := h.ref
  exact (looks_any h.two.A hR).mono fun e w' ⟨he, hb⟩ => ⟨he, h.below hb⟩
theorem T3.looksU {w V : World} {ta ub xb : Nat} {a u : Tr} (h : T3 w V ta ub xb a u a.ents) (e : u.ents = a.ents) : Calls Try.prog 18 #[ptr ub, ptr xb] V fun e w' => e = .returned (.bool true) ∧ Below w.heap.size w w' := by
  obtain ⟨qa, qc, hR⟩ := h.ref
  rw [← e] at hR
  exact (looks_any h.two.B hR).mono fun e w' ⟨he, hb⟩ => ⟨he, (h.below hb).two.bel⟩
set_option linter.unusedSimpArgs false in
set_option maxRecDepth 20000 in
set_option maxHeartbeats 8000000 in
theorem longest_any {w : World} {a1 a2 : Option Addr} {n1 n2 c1 c2 : Nat} {l : List Opd} {m : List (BitVec 32)} (hl : OS w a1 n1 l) (hm : US w a2 n2 m) :
    Calls Try.prog 4 #[.slice a1 n1 c1, .slice a2 n2 c2] w fun e w' => e = .returned (.bool true) ∧ Below w.heap.size w w' := by
  have r1 := hl.room
  have r2 := hm.room
  have l1 := hl.len
  have l2 := hm.len
  have HL : Hid _ := hl
  have HQ : Hid _ := hm
  clear hl hm
  go_enter Try.func4, Try.ntmps4
  refine cut_code fun d1 e1 => ?_
  go_wp2_with fail
  rw [← e1.out]; clear e1 d1
  refine cut_code fun d1 e1 => ?_
  go_wp2_with fail
  refine (new_tab w).mono ?_
  rintro e W0 ⟨rfl, T0, s0, b0⟩
  go_wp2_with fail
  refine (new_tab W0).mono ?_
  rintro e W1 ⟨rfl, T1, s1, b1⟩
  go_wp2
  have tw1 : Two w W1 (w.heap.size + 1) (w.heap.size + 2 + 1) (newT w.heap.size) (newT W0.heap.size) := by
    refine ⟨tab_bel T0 b1, s0 ▸ T1, ?_, ?_, b0.trans (b1.mono (by omega))⟩
    · intro x hx hy; simp [newT, blocks] at hx hy; omega
    · intro x hx; simp [newT, blocks] at hx; omega
  have ee : (newT w.heap.size).ents = [] ∧ (newT W0.heap.size).ents = [] := ⟨rfl, rfl⟩
  obtain ⟨A0, hA0⟩ : ∃ A0, A0 = newT w.heap.size := ⟨_, rfl⟩
  obtain ⟨U0, hU0⟩ : ∃ U0, U0 = newT W0.heap.size := ⟨_, rfl⟩
  rw [← hA0, ← hU0] at tw1 ee
  obtain ⟨ta, hta⟩ : ∃ ta, ta = w.heap.size + 1 := ⟨_, rfl⟩
  obtain ⟨ub, hub⟩ : ∃ ub, ub = w.heap.size + 2 + 1 := ⟨_, rfl⟩
  rw [← hta, ← hub] at tw1 ⊢
  have TW1 : Hid _ := tw1
  have EE : Hid _ := ee
  clear T0 T1 b0 b1 s0 s1 tw1 hA0 hU0 hta hub ee
  rw [← e1.out]; clear e1 d1
  refine cut_code fun d1 e1 => ?_
  go_wp2_with fail
  refine (lives_any W1).mono ?_
  rintro e W2 ⟨rfl, b2⟩
  have TW2 : Hid _ := TW1.out.below b2
  clear TW1 b2
  go_wp2
  rw [← e1.out]; clear e1 d1
  refine cut_code fun d1 e1 => ?_
  go_wp2_with fail
  obtain ⟨W4, hW4⟩ : ∃ z, z = W2.alloc (.cells #[.slice none 0 0] 28) := ⟨_, rfl⟩
  obtain ⟨xb, hxb⟩ : ∃ z, z = W2.heap.size := ⟨_, rfl⟩
  have TW4 : Hid (T3 w W4 ta ub xb A0 U0 A0.ents) := by
    have b4 := below1 W2 (.cells #[.slice none 0 0] 28)
    rw [← hW4] at b4
    refine ⟨TW2.out.below b4, none, 0, ?_⟩
    rw [EE.out.1, hxb]
    exact rtab_nil (by rw [hW4]; exact heap_alloc_new _ _) TW2.out.bel.size
  rw [← hW4, ← hxb]
  clear TW2 hW4 hxb
  rw [← e1.out]; clear e1 d1
  refine cut_code fun d1 e1 => ?_
  go_wp2_with fail
  go_loopw [8] (fun i wr => ∃ (k : Nat) (A : Tr), k ≤ n1 ∧ i = .int .i64 k ∧ Hid (T3 w wr ta ub xb A U0 A.ents)) (fun i _ => n1 - (intOf i).toNat)
  case atStart => exact ⟨0, A0, Nat.zero_le _, rfl, TW4⟩
  case round =>
    clear TW4
    obtain ⟨k, A, hk, rfl, TW⟩ := hrel
    by_cases hlt : k < n1
    · obtain ⟨t, ht⟩ : ∃ t, l[k]? = some t := ⟨l[k]'(by omega), List.getElem?_eq_getElem (by omega)⟩
      obtain ⟨lb, off, rfl, hop⟩ := HL.out.at TW.out.two.bel ht
      have hqn : I64 t.n := (HL.out.ok t (List.mem_of_getElem? ht)).2.1
      have c1 := hop.2.1
      have c2 := hop.2.2.1
      have c3 := hop.2.2.2
      have HS : Hid (∀ V, Below w.heap.size w V → V.cell? ⟨lb, off + k * 4 + 1, none⟩ = some (.int .u32 t.p.toNat) ∧ V.cell? ⟨lb, off + k * 4 + 2, none⟩ = some (.int .i64 t.n) ∧ V.cell? ⟨lb, off + k * 4 + 3, none⟩ = some (.int .i64 t.v)) := fun V hV => by
        obtain ⟨lb', off', e, h⟩ := HL.out.at hV ht
        injection e with e; injection e with e1 e2; subst e1 e2
        exact ⟨h.2.1, h.2.2.1, h.2.2.2⟩
      have hki : (k : Int) < (n1 : Int) := by omega
      have hk0 : (0 : Int) ≤ (k : Int) := by omega
      have hk2 : (k : Int) ≤ 140737488351232 := by omega
      have HAD : Hid _ := lg_radd hqn (TW.out.below (W' := wr.drew) (Below.refl _ _).drew)
      clear hop ht
      go_wp2
      go_region_held3 (fun V => V.cell? ⟨lb, off + k * 4 + 1, none⟩ = some (.int .u32 t.p.toNat) ∧ V.cell? ⟨lb, off + k * 4 + 2, none⟩ = some (.int .i64 t.n) ∧ V.cell? ⟨lb, off + k * 4 + 3, none⟩ = some (.int .i64 t.v))
        (first
          | exact ⟨c1, c2, c3⟩
          | exact HS.out _ h9.out.two.bel
          | fail)
        (first
          | (go_at_call 11; refine Calls.mono HAD.out ?_; rintro e W3 ⟨rfl, h9⟩; skip)
          | fail)
      have d1' := (HS.out _ h9.out.two.bel).1
      have d2' := (HS.out _ h9.out.two.bel).2.1
      have d3' := (HS.out _ h9.out.two.bel).2.2
      have HBD : Hid _ := lg_add (h9.out.below (W' := W3.drew) (Below.refl _ _).drew)
      clear HAD c1 c2 c3
      go_wp2
      go_region_held3 (fun V => V.cell? ⟨lb, off + k * 4 + 1, none⟩ = some (.int .u32 t.p.toNat) ∧ V.cell? ⟨lb, off + k * 4 + 2, none⟩ = some (.int .i64 t.n) ∧ V.cell? ⟨lb, off + k * 4 + 3, none⟩ = some (.int .i64 t.v))
        (first
          | exact ⟨d1', d2', d3'⟩
          | exact HS.out _ h8.out.two.bel
          | fail)
        (first
          | (go_at_call 10; refine Calls.mono HBD.out ?_; rintro e W5 ⟨rfl, A', h8⟩; skip)
          | fail)
      go_wp2
      go_roundw
      case rel => exact ⟨k + 1, A', by omega, by go_num, h8⟩
      case measure => simp [intOf]; omega
    · have hnlt : ¬ (k : Int) < (n1 : Int) := by omega
      go_wp2_with fail
      rw [← e1.out]; clear e1 d1
      refine cut_code fun d1 e1 => ?_
      clear hlt hnlt hk HL
      rename World => wo
      obtain ⟨qa, qc, hR⟩ := TW.out.ref
      have cx : wo.cell? ⟨xb, 0, none⟩ = some (.slice qa A.ents.length qc) := cell_row hR.blk 0
      have hlen := hR.len
      have HRo : Hid _ := hR
      have wl : IntKind.i64.wrap ((A.ents.length : Int) - 1) = (A.ents.length : Int) - 1 := by simp [IntKind.wrap, IntKind.bits, IntKind.signed]; omega
      clear hR
      go_wp2_with fail
      go_loopw [9] (fun i wr => ∃ (j : Nat) (U : Tr), j ≤ A.ents.length ∧ i = .int .i64 ((j : Int) - 1) ∧ Hid (T3 w wr ta ub xb A U A.ents ∧ U.ents = A.ents.drop j)) (fun i _ => (intOf i + 1).toNat)
      case atStart => exact ⟨A.ents.length, U0, Nat.le_refl _, by first | rfl | go_num, TW.out, by rw [EE.out.2, List.drop_length]⟩
      case round =>
        clear TW HRo cx wl EE
        obtain ⟨j, U, hj, rfl, TW⟩ := hrel
        rcases Nat.eq_zero_or_pos j with rfl | hpos
        · rw [show ((0 : Nat) : Int) - 1 = -1 from rfl]
          go_wp2_with fail
          rw [← e1.out]; clear e1 d1
          refine cut_code fun d1 e1 => ?_
          go_wp2_with fail
          have EN : Hid (U.ents = A.ents) := TW.out.2
          rename World => wp
          go_loopw [10] (fun i wr => ∃ (g : Nat), g ≤ n2 ∧ i = .int .i64 g ∧ Hid (T3 w wr ta ub xb A U A.ents)) (fun i _ => n2 - (intOf i).toNat)
          case atStart => exact ⟨0, Nat.zero_le _, rfl, TW.out.1⟩
          case round =>
            clear TW
            obtain ⟨g, hg, rfl, TW⟩ := hrel
            by_cases hlt : g < n2
            · obtain ⟨ip, ht⟩ : ∃ ip, m[g]? = some ip := ⟨m[g]'(by omega), List.getElem?_eq_getElem (by omega)⟩
              obtain ⟨lb, off, rfl, hop⟩ := HQ.out.at TW.out.two.bel ht
              have HS : Hid (∀ V, Below w.heap.size w V → V.cell? ⟨lb, off + g, none⟩ = some (.int .u32 ip.toNat)) := fun V hV => by
                obtain ⟨lb', off', e, h⟩ := HQ.out.at hV ht
                injection e with e; injection e with e1 e2; subst e1 e2
                exact h
              have hki : (g : Int) < (n2 : Int) := by omega
              have hk0 : (0 : Int) ≤ (g : Int) := by omega
              clear ht
              go_wp2_with fail
              refine (find_v TW.out.two.A ip).mono ?_
              rintro e W3 ⟨x, ok, rfl, fx, b3⟩
              have TW3 := TW.out.below b3
              have TW4 := TW3.below (below1 W3 (.cells #[.int .u32 x.1.toNat, .int .i64 x.2.1, .int .i64 x.2.2] 37))
              have c4 := HS.out _ TW4.two.bel
              have bl3 := TW3.two.bel.size
              have HT4 : Hid _ := TW4
              have FX : Hid _ := fx
              clear TW TW3 TW4 b3 fx hop
              go_wp2_with fail
              refine (find_v HT4.out.two.B ip).mono ?_
              rintro e W5 ⟨y, oy, rfl, fy, b5⟩
              obtain ⟨rfl, rfl⟩ := findV_one (ents_sorted _ HT4.out.two.A.wf) (ents_le HT4.out.two.A.wf) FX.out (EN.out ▸ fy)
              have TW5 := HT4.out.below b5
              have TW6 := TW5.below (below1 W5 (.cells #[.int .u32 x.1.toNat, .int .i64 x.2.1, .int .i64 x.2.2] 37))
              have HT6 : Hid _ := TW6
              have r3 : (W5.alloc (.cells #[.int .u32 x.1.toNat, .int .i64 x.2.1, .int .i64 x.2.2] 37)).heap[W3.heap.size]? = some (.cells #[.int .u32 x.1.toNat, .int .i64 x.2.1, .int .i64 x.2.2] 37 (0, 0)) := by
                have := b5.size
                simp at this
                exact (heap_alloc_old _ _ (by omega)).trans ((b5.block _ (by simp)).trans (heap_alloc_new _ _))
              have HR3 : Hid _ := r3
              have r5 : (W5.alloc (.cells #[.int .u32 x.1.toNat, .int .i64 x.2.1, .int .i64 x.2.2] 37)).heap[W5.heap.size]? = some (.cells #[.int .u32 x.1.toNat, .int .i64 x.2.1, .int .i64 x.2.2] 37 (0, 0)) := heap_alloc_new _ _
              have HR5 : Hid _ := r5
              clear TW5 TW6 b5 fy HT4 r3 c4 r5
              go_wp2_with (first
                | refine wpList_load_row rfl 37 _ rfl W3.heap.size rfl 37 #[.int .u32 x.1.toNat, .int .i64 x.2.1, .int .i64 x.2.2] (0, 0) _ HR3.out Try.underlying37 rfl size3 ?_
                | refine wpList_load_row rfl 37 _ rfl W5.heap.size rfl 37 #[.int .u32 x.1.toNat, .int .i64 x.2.1, .int .i64 x.2.2] (0, 0) _ HR5.out Try.underlying37 rfl size3 ?_
                | fail)
              obtain ⟨ab, hab⟩ : ∃ z, z = W3.heap.size := ⟨_, rfl⟩
              obtain ⟨W7, hW7⟩ : ∃ z, z = W5.alloc (.cells #[.int .u32 x.1.toNat, .int .i64 x.2.1, .int .i64 x.2.2] 37) := ⟨_, rfl⟩
              rw [← hab] at HR3 ⊢
              rw [← hW7] at HR3 HT6 ⊢
              clear hab hW7 HR5 bl3
              go_loopw [15] (fun i wi => ∃ (k : Nat), k ≤ A.ents.length ∧ i = .int .i64 k ∧ Hid (T3 w wi ta ub xb A U A.ents ∧ wi.heap[ab]? = some (.cells #[.int .u32 x.1.toNat, .int .i64 x.2.1, .int .i64 x.2.2] 37 (0, 0)))) (fun i _ => A.ents.length - (intOf i).toNat)
              case atStart => exact ⟨0, Nat.zero_le _, rfl, HT6.out, HR3.out⟩
              case round =>
                clear HT6 HR3
                obtain ⟨k, hk, rfl, TI⟩ := hrel
                obtain ⟨qa, qc, hR⟩ := TI.out.1.ref
                have hlen := hR.len
                have HLE : Hid _ := ents_le TI.out.1.two.A.wf
                have hwi := TI.out.1.two.bel.size
                by_cases hkl : k < A.ents.length
                · obtain ⟨y, hy⟩ : ∃ y, A.ents[k]? = some y := ⟨A.ents[k], List.getElem?_eq_getElem hkl⟩
                  obtain ⟨g', rfl, d0, d1', d2⟩ := hR.at hy
                  have cx : wr.cell? ⟨xb, 0, none⟩ = some (.slice (some ⟨g', 0, none⟩) A.ents.length qc) := cell_row hR.blk 0
                  have hab := lt_of_heap TI.out.2
                  have TJ : Hid _ := TI.out.1.below (below1 wr (.cells #[.int .u32 y.1.toNat, .int .i64 y.2.1, .int .i64 y.2.2] 37))
                  have RJ : Hid _ := (heap_alloc_old wr (.cells #[.int .u32 y.1.toNat, .int .i64 y.2.1, .int .i64 y.2.2] 37) hab).trans TI.out.2
                  have ci := HS.out _ TJ.out.two.bel
                  have ca1 : (wr.alloc (.cells #[.int .u32 y.1.toNat, .int .i64 y.2.1, .int .i64 y.2.2] 37)).cell? ⟨ab, 1, none⟩ = some (.int .i64 x.2.1) := cell_row RJ.out 1
                  have hI1 : (k : Int) < (A.ents.length : Int) := by omega
                  have hI2 : (k : Int) ≤ 274877906944 := by omega
                  have hI3 : (0 : Int) ≤ (k : Int) := by omega
                  have hym : y ∈ A.ents := List.mem_of_getElem? hy
                  have hry := HLE.out y hym
                  have HM : Hid (∀ V, Calls Try.prog 19 #[.int .i64 y.2.1] V fun e w' => e = .returned (.int .u32 (mskI y.2.1).toNat) ∧ w' = V) := fun V => mask_any _ V
                  have EA := and_has ip hry.1 hry.2
                  cases hb : hasB y.1 y.2.1 ip
                  · rw [hb] at EA
                    clear hR hy hb hry hym TI
                    go_wp2
                    go_quiet ((go_at_call 19; exact Calls.quiet_of_same (HM.out _)))
                    go_wp2
                    go_roundw
                    case rel => exact ⟨k + 1, by omega, by go_num, TJ.out.below (below_drewN (Below.refl _ _) _), RJ.out⟩
                    case measure => simp [intOf]; omega
                  · rw [hb] at EA
                    obtain ⟨rfl, hle⟩ : ok = true ∧ y.2.1 ≤ x.2.1 := by
                      rcases FX.out with ⟨h1, h2⟩ | ⟨_, _, h2⟩
                      · exact ⟨h1, h2.2.2 y hym hb⟩
                      · rw [h2 y hym] at hb; cases hb
                    have hgt : ¬ ((x.2.1 : Int) < (y.2.1 : Int)) := by omega
                    clear hR hy hb hry hym TI
                    go_wp2
                    go_quiet ((go_at_call 19; exact Calls.quiet_of_same (HM.out _)))
                    go_wp2
                    go_roundw
                    case rel => exact ⟨k + 1, by omega, by go_num, TJ.out.below (below_drewN (Below.refl _ _) _), RJ.out⟩
                    case measure => simp [intOf]; omega
                · have hnl : ¬ (k : Int) < (A.ents.length : Int) := by omega
                  have cx : wr.cell? ⟨xb, 0, none⟩ = some (.slice qa A.ents.length qc) := cell_row hR.blk 0
                  have ci := HS.out _ TI.out.1.two.bel
                  have ca0 : wr.cell? ⟨ab, 0, none⟩ = some (.int .u32 x.1.toNat) := cell_row TI.out.2 0
                  have ca1 : wr.cell? ⟨ab, 1, none⟩ = some (.int .i64 x.2.1) := cell_row TI.out.2 1
                  have HM : Hid (∀ V, Calls Try.prog 19 #[.int .i64 x.2.1] V fun e w' => e = .returned (.int .u32 (mskI x.2.1).toNat) ∧ w' = V) := fun V => mask_any _ V
                  have HTI : Hid _ := TI.out.1
                  clear hR TI
                  cases ok
                  · clear FX ca0 ca1
                    go_wp2
                    go_quiet ((go_at_call 19; exact Calls.quiet_of_same (HM.out _)))
                    go_wp2
                    go_roundw
                    case rel => exact ⟨g + 1, by omega, by go_num, HTI.out.below (below_drewN (Below.refl _ _) _)⟩
                    case measure => simp [intOf]; omega
                  · have hbx : Best A.ents ip x := by
                      rcases FX.out with ⟨_, h2⟩ | ⟨h1, _⟩
                      · exact h2
                      · cases h1
                    have hrx := HLE.out x hbx.1
                    have EA := and_has ip hrx.1 hrx.2
                    rw [hbx.2.1] at EA
                    clear FX hbx hrx
                    go_wp2
                    go_quiet ((go_at_call 19; exact Calls.quiet_of_same (HM.out _)))
                    go_wp2
                    go_roundw
                    case rel => exact ⟨g + 1, by omega, by go_num, HTI.out.below (below_drewN (Below.refl _ _) _)⟩
                    case measure => simp [intOf]; omega
            · have hnlt : ¬ (g : Int) < (n2 : Int) := by omega
              go_wp2_with fail
              rw [← e1.out]; clear e1 d1
              go_wp2_with fail
              refine (T3.looksA TW.out).mono ?_
              rintro e W3 ⟨rfl, h3⟩
              clear TW
              go_wp2_with fail
              refine (T3.looksU h3.out EN.out).mono ?_
              rintro e W4 ⟨rfl, h4⟩
              clear h3
              go_wp2
              go_ret
              exact ⟨rfl, h4⟩
        · obtain ⟨j, rfl⟩ : ∃ j', j = j' + 1 := ⟨j - 1, by omega⟩
          rw [show ((j + 1 : Nat) : Int) - 1 = (j : Int) by omega]
          obtain ⟨x, hx⟩ : ∃ x, A.ents[j]? = some x := ⟨A.ents[j]'(by omega), List.getElem?_eq_getElem (by omega)⟩
          obtain ⟨qa, qc, hR⟩ := TW.out.1.ref
          obtain ⟨g, rfl, d0, d1', d2⟩ := hR.at hx
          have cx : wr.cell? ⟨xb, 0, none⟩ = some (.slice (some ⟨g, 0, none⟩) A.ents.length qc) := cell_row hR.blk 0
          have hlen := hR.len
          have hI1 : (j : Int) < (A.ents.length : Int) := by omega
          have hI2 : (j : Int) ≤ 274877906944 := by omega
          have hI3 : (0 : Int) ≤ (j : Int) := by omega
          have wl : IntKind.i64.wrap ((j : Int) - 1) = (j : Int) - 1 := by simp [IntKind.wrap, IntKind.bits, IntKind.signed]; omega
          have HX : Hid _ := hx
          have HRd : Hid (RTab wr.drew w.heap.size xb A.ents (some ⟨g, 0, none⟩) qc) := hR.keep (Below.refl _ _).drew
          have HAD : Hid _ := lg_back (TW.out.1.below (W' := wr.drew) (Below.refl _ _).drew) hx TW.out.2
          clear hx hR TW d0 d1' d2
          go_wp2_with fail
          refine wp_region_held_drew (S := (fun V => V.cell? ⟨xb, 0, none⟩ = some (.slice (some ⟨g, 0, none⟩) A.ents.length qc) ∧ V.cell? ⟨g, j * 3, none⟩ = some (.int .u32 x.1.toNat) ∧ V.cell? ⟨g, j * 3 + 1, none⟩ = some (.int .i64 x.2.1) ∧ V.cell? ⟨g, j * 3 + 2, none⟩ = some (.int .i64 x.2.2))) (by kernel_rfl) (HRd.out.cells4 HX.out) (fun hHeld => ?_)
          refine wpAnyH_take (i := 0) (v := ?_) rfl (by kernel_rfl) (by kernel_rfl) (by kernel_rfl) (fun _ _ _ h => h) (Or.inl ⟨by rfl, ?_⟩) (by assumption) ?_
          rotate_left
          · (intro w hSw; (try dsimp only at hSw); go_simp; try with_reducible rfl)
          try simp only [List.getElem_toArray, List.getElem_cons_zero, List.getElem_cons_succ, Act.put, List.setIfInBounds_toArray, List.set_cons_zero, List.set_cons_succ]
          refine wpAnyH_take (i := 1) (v := ?_) rfl (by kernel_rfl) (by kernel_rfl) (by kernel_rfl) (fun _ _ _ h => h) (Or.inl ⟨by rfl, ?_⟩) (by assumption) ?_
          rotate_left
          · (intro w hSw; (try dsimp only at hSw); go_simp; try with_reducible rfl)
          try simp only [List.getElem_toArray, List.getElem_cons_zero, List.getElem_cons_succ, Act.put, List.setIfInBounds_toArray, List.set_cons_zero, List.set_cons_succ]
          refine wpAnyH_take (i := 2) (v := ?_) rfl (by kernel_rfl) (by kernel_rfl) (by kernel_rfl) (fun _ _ _ h => h) (Or.inl ⟨by rfl, ?_⟩) (by assumption) ?_
          rotate_left
          · (intro w hSw; (try dsimp only at hSw); go_simp; try with_reducible rfl)
          try simp only [List.getElem_toArray, List.getElem_cons_zero, List.getElem_cons_succ, Act.put, List.setIfInBounds_toArray, List.set_cons_zero, List.set_cons_succ]
          refine wpAnyH_take (i := 3) (v := ?_) rfl (by kernel_rfl) (by kernel_rfl) (by kernel_rfl) (fun _ _ _ h => h) (Or.inl ⟨by rfl, ?_⟩) (by assumption) ?_
          rotate_left
          · (intro w hSw; (try dsimp only at hSw); go_simp; try with_reducible rfl)
          try simp only [List.getElem_toArray, List.getElem_cons_zero, List.getElem_cons_succ, Act.put, List.setIfInBounds_toArray, List.set_cons_zero, List.set_cons_succ]
          refine wpAnyH_take (i := 4) (v := ?_) rfl (by kernel_rfl) (by kernel_rfl) (by kernel_rfl) (fun _ _ _ h => h) (Or.inl ⟨by rfl, ?_⟩) (by assumption) ?_
          rotate_left
          · (intro w hSw; (try dsimp only at hSw); go_simp; try with_reducible rfl)
          try simp only [List.getElem_toArray, List.getElem_cons_zero, List.getElem_cons_succ, Act.put, List.setIfInBounds_toArray, List.set_cons_zero, List.set_cons_succ]
          refine wpAnyH_take (i := 5) (v := ?_) rfl (by kernel_rfl) (by kernel_rfl) (by kernel_rfl) (fun _ _ _ h => h) (Or.inl ⟨by rfl, ?_⟩) (by assumption) ?_
          rotate_left
          · (intro w hSw; (try dsimp only at hSw); go_simp; try with_reducible rfl)
          try simp only [List.getElem_toArray, List.getElem_cons_zero, List.getElem_cons_succ, Act.put, List.setIfInBounds_toArray, List.set_cons_zero, List.set_cons_succ]
          refine wpAnyH_take (i := 6) (v := ?_) rfl (by kernel_rfl) (by kernel_rfl) (by kernel_rfl) (fun _ _ _ h => h) (Or.inl ⟨by rfl, ?_⟩) (by assumption) ?_
          rotate_left
          · (intro w hSw; (try dsimp only at hSw); go_simp; try with_reducible rfl)
          try simp only [List.getElem_toArray, List.getElem_cons_zero, List.getElem_cons_succ, Act.put, List.setIfInBounds_toArray, List.set_cons_zero, List.set_cons_succ]
          refine wpAnyH_take (i := 7) (v := ?_) rfl (by kernel_rfl) (by kernel_rfl) (by kernel_rfl) (fun _ _ _ h => h) (Or.inl ⟨by rfl, ?_⟩) (by assumption) ?_
          rotate_left
          · (intro w hSw; (try dsimp only at hSw); go_simp; try with_reducible rfl)
          try simp only [List.getElem_toArray, List.getElem_cons_zero, List.getElem_cons_succ, Act.put, List.setIfInBounds_toArray, List.set_cons_zero, List.set_cons_succ]
          refine wpAnyH_take (i := 8) (v := ?_) rfl (by kernel_rfl) (by kernel_rfl) (by kernel_rfl) (fun _ _ _ h => h) (Or.inl ⟨by rfl, ?_⟩) (by assumption) ?_
          rotate_left
          · (intro w hSw; (try dsimp only at hSw); go_simp; try with_reducible rfl)
          try simp only [List.getElem_toArray, List.getElem_cons_zero, List.getElem_cons_succ, Act.put, List.setIfInBounds_toArray, List.set_cons_zero, List.set_cons_succ]
          refine wpAnyH_take (i := 9) (v := ?_) rfl (by kernel_rfl) (by kernel_rfl) (by kernel_rfl) (fun _ _ _ h => h) (Or.inl ⟨by rfl, ?_⟩) (by assumption) ?_
          rotate_left
          · (intro w hSw; (try dsimp only at hSw); go_simp; try with_reducible rfl)
          try simp only [List.getElem_toArray, List.getElem_cons_zero, List.getElem_cons_succ, Act.put, List.setIfInBounds_toArray, List.set_cons_zero, List.set_cons_succ]
          refine wpAnyH_take (i := 10) (v := ?_) rfl (by kernel_rfl) (by kernel_rfl) (by kernel_rfl) (fun _ _ _ h => h) (Or.inl ⟨by rfl, ?_⟩) (by assumption) ?_
          rotate_left
          · (intro w hSw; (try dsimp only at hSw); go_simp; try with_reducible rfl)
          try simp only [List.getElem_toArray, List.getElem_cons_zero, List.getElem_cons_succ, Act.put, List.setIfInBounds_toArray, List.set_cons_zero, List.set_cons_succ]
          refine wpAnyH_take (i := 11) (v := ?_) rfl (by kernel_rfl) (by kernel_rfl) (by kernel_rfl) (fun _ _ _ h => h) (Or.inl ⟨by rfl, ?_⟩) (by assumption) ?_
          rotate_left
          · (intro w hSw; (try dsimp only at hSw); go_simp; try with_reducible rfl)
          try simp only [List.getElem_toArray, List.getElem_cons_zero, List.getElem_cons_succ, Act.put, List.setIfInBounds_toArray, List.set_cons_zero, List.set_cons_succ]
          refine wpAnyH_take (i := 12) (v := ?_) rfl (by kernel_rfl) (by kernel_rfl) (by kernel_rfl) (fun _ _ _ h => h) (Or.inl ⟨by rfl, ?_⟩) (by assumption) ?_
          rotate_left
          · (intro w hSw; (try dsimp only at hSw); go_simp; try with_reducible rfl)
          try simp only [List.getElem_toArray, List.getElem_cons_zero, List.getElem_cons_succ, Act.put, List.setIfInBounds_toArray, List.set_cons_zero, List.set_cons_succ]
          refine wpAnyH_take (i := 13) (v := ?_) rfl (by kernel_rfl) (by kernel_rfl) (by kernel_rfl) (fun _ _ _ h => h) (Or.inl ⟨by rfl, ?_⟩) (by assumption) ?_
          rotate_left
          · (intro w hSw; (try dsimp only at hSw); go_simp; try with_reducible rfl)
          try simp only [List.getElem_toArray, List.getElem_cons_zero, List.getElem_cons_succ, Act.put, List.setIfInBounds_toArray, List.set_cons_zero, List.set_cons_succ]
          refine wpAnyH_take (i := 14) (v := ?_) rfl (by kernel_rfl) (by kernel_rfl) (by kernel_rfl) (fun _ _ _ h => h) (Or.inl ⟨by rfl, ?_⟩) (by assumption) ?_
          rotate_left
          · (intro w hSw; (try dsimp only at hSw); go_simp; try with_reducible rfl)
          try simp only [List.getElem_toArray, List.getElem_cons_zero, List.getElem_cons_succ, Act.put, List.setIfInBounds_toArray, List.set_cons_zero, List.set_cons_succ]
          refine wpAnyH_take (i := 15) (v := ?_) rfl (by kernel_rfl) (by kernel_rfl) (by kernel_rfl) (fun _ _ _ h => h) (Or.inl ⟨by rfl, ?_⟩) (by assumption) ?_
          rotate_left
          · (intro w hSw; (try dsimp only at hSw); go_simp; try with_reducible rfl)
          try simp only [List.getElem_toArray, List.getElem_cons_zero, List.getElem_cons_succ, Act.put, List.setIfInBounds_toArray, List.set_cons_zero, List.set_cons_succ]
          refine wpAnyH_take (i := 16) (v := ?_) rfl (by kernel_rfl) (by kernel_rfl) (by kernel_rfl) (fun _ _ _ h => h) (Or.inl ⟨by rfl, ?_⟩) (by assumption) ?_
          rotate_left
          · (intro w hSw; (try dsimp only at hSw); go_simp; try with_reducible rfl)
          try simp only [List.getElem_toArray, List.getElem_cons_zero, List.getElem_cons_succ, Act.put, List.setIfInBounds_toArray, List.set_cons_zero, List.set_cons_succ]
          refine wpAnyH_take (i := 17) (v := ?_) rfl (by kernel_rfl) (by kernel_rfl) (by kernel_rfl) (fun _ _ _ h => h) (Or.inl ⟨by rfl, ?_⟩) (by assumption) ?_
          rotate_left
          · (intro w hSw; (try dsimp only at hSw); go_simp; try with_reducible rfl)
          try simp only [List.getElem_toArray, List.getElem_cons_zero, List.getElem_cons_succ, Act.put, List.setIfInBounds_toArray, List.set_cons_zero, List.set_cons_succ]
          refine wpAnyH_take (i := 18) (v := ?_) rfl (by kernel_rfl) (by kernel_rfl) (by kernel_rfl) (fun _ _ _ h => h) (Or.inl ⟨by rfl, ?_⟩) (by assumption) ?_
          rotate_left
          · (intro w hSw; (try dsimp only at hSw); go_simp; try with_reducible rfl)
          try simp only [List.getElem_toArray, List.getElem_cons_zero, List.getElem_cons_succ, Act.put, List.setIfInBounds_toArray, List.set_cons_zero, List.set_cons_succ]
          refine wpAnyH_take (i := 19) (v := ?_) rfl (by kernel_rfl) (by kernel_rfl) (by kernel_rfl) (fun _ _ _ h => h) (Or.inl ⟨by rfl, ?_⟩) (by assumption) ?_
          rotate_left
          · (intro w hSw; (try dsimp only at hSw); go_simp; try with_reducible rfl)
          try simp only [List.getElem_toArray, List.getElem_cons_zero, List.getElem_cons_succ, Act.put, List.setIfInBounds_toArray, List.set_cons_zero, List.set_cons_succ]
          refine wpAnyH_take (i := 20) (v := ?_) rfl (by kernel_rfl) (by kernel_rfl) (by kernel_rfl) (fun _ _ _ h => h) (Or.inl ⟨by rfl, ?_⟩) (by assumption) ?_
          rotate_left
          · (intro w hSw; (try dsimp only at hSw); go_simp; try with_reducible rfl)
          try simp only [List.getElem_toArray, List.getElem_cons_zero, List.getElem_cons_succ, Act.put, List.setIfInBounds_toArray, List.set_cons_zero, List.set_cons_succ]
          refine wpAnyH_take (i := 21) (v := ?_) rfl (by kernel_rfl) (by kernel_rfl) (by kernel_rfl) (fun _ _ _ h => h) (Or.inl ⟨by rfl, ?_⟩) (by assumption) ?_
          rotate_left
          · (intro w hSw; (try dsimp only at hSw); go_simp; try with_reducible rfl)
          try simp only [List.getElem_toArray, List.getElem_cons_zero, List.getElem_cons_succ, Act.put, List.setIfInBounds_toArray, List.set_cons_zero, List.set_cons_succ]
          refine wpAnyH_take (i := 22) (v := ?_) rfl (by kernel_rfl) (by kernel_rfl) (by kernel_rfl) (fun _ _ _ h => h) (Or.inl ⟨by rfl, ?_⟩) (by assumption) ?_
          rotate_left
          · (intro w hSw; (try dsimp only at hSw); go_simp; try with_reducible rfl)
          try simp only [List.getElem_toArray, List.getElem_cons_zero, List.getElem_cons_succ, Act.put, List.setIfInBounds_toArray, List.set_cons_zero, List.set_cons_succ]
          refine wpAnyH_take (i := 23) (v := ?_) rfl (by kernel_rfl) (by kernel_rfl) (by kernel_rfl) (fun _ _ _ h => h) (Or.inl ⟨by rfl, ?_⟩) (by assumption) ?_
          rotate_left
          · (intro w hSw; (try dsimp only at hSw); go_simp; try with_reducible rfl)
          try simp only [List.getElem_toArray, List.getElem_cons_zero, List.getElem_cons_succ, Act.put, List.setIfInBounds_toArray, List.set_cons_zero, List.set_cons_succ]
          refine wpAnyH_take (i := 24) (v := ?_) rfl (by kernel_rfl) (by kernel_rfl) (by kernel_rfl) (fun _ _ _ h => h) (Or.inl ⟨by rfl, ?_⟩) (by assumption) ?_
          rotate_left
          · (intro w hSw; (try dsimp only at hSw); go_simp; try with_reducible rfl)
          try simp only [List.getElem_toArray, List.getElem_cons_zero, List.getElem_cons_succ, Act.put, List.setIfInBounds_toArray, List.set_cons_zero, List.set_cons_succ]
          refine wpAnyH_ready (rs := [25]) (by kernel_rfl) (by simp) ?_
          refine AllReadyH.cons (o := _) rfl (fun K hK => ?_) AllReadyH.nil
          go_simp
          refine Calls.mono HAD.out ?_
          rintro e W3 ⟨rfl, U', h9⟩
          go_wp2_with fail
          refine hK _ _ ((h9.out.2.2 _ _ HRd.out).cells4 HX.out) (fun hHeld2 => ?_)
          clear hK K hHeld
          try simp only [List.getElem_toArray, List.getElem_cons_zero, List.getElem_cons_succ, Act.put, List.setIfInBounds_toArray, List.set_cons_zero, List.set_cons_succ]
          refine wpAnyH_take (i := 26) (v := ?_) rfl (by kernel_rfl) (by kernel_rfl) (by kernel_rfl) (fun _ _ _ h => h) (Or.inl ⟨by rfl, ?_⟩) (by assumption) ?_
          rotate_left
          · (intro w hSw; (try dsimp only at hSw); go_simp; try with_reducible rfl)
          try simp only [List.getElem_toArray, List.getElem_cons_zero, List.getElem_cons_succ, Act.put, List.setIfInBounds_toArray, List.set_cons_zero, List.set_cons_succ]
          refine wpAnyH_done (by kernel_rfl) ?_ _
          go_wp2
          go_roundw
          case rel => exact ⟨j, U', by omega, by first | rfl | go_num, h9.out.1, h9.out.2.1⟩
          case measure => first | (simp [intOf]; done) | (simp [intOf]; omega)

end Go.Proofs.Ytlopnagajhjmmaa
