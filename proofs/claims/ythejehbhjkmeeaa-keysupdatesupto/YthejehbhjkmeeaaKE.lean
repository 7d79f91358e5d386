/- areRight: whether the keys of two lists are right. Conditions: the keys can be read. -/
import Derived.Test.YthejehbhjkmeeaaKD
import Derived.Deep.RegionHeld3
namespace Go.Proofs.Ythejehbhjkmeeaa
open Go.RowKit
/-- Is a name not behind the one ahead of it? -/
def notUp : Option ByteArray → ByteArray → Bool
  | none, _ => false
  | some q, s => !(Op.bytesLess q.toList s.toList)
/-- The numbers that are had behind keys, each taken; none where a key is not right. -/
def step (most : Int) : List Int → Option ByteArray → List Ky → Option (List Int)
  | H, _, [] => some H
  | H, p, k :: r => bif notUp p k.n || !(takeB H most k.v) then none else step most (H ++ [k.v]) (some k.n) r
theorem step_no {most : Int} {H : List Int} {p : Option ByteArray} {k : Ky} {r : List Ky} (h : (notUp p k.n || !(takeB H most k.v)) = true) : step most H p (k :: r) = none := by simp [step, h]
theorem step_yes {most : Int} {H : List Int} {p : Option ByteArray} {k : Ky} {r : List Ky} (h1 : notUp p k.n = false) (h2 : takeB H most k.v = true) : step most H p (k :: r) = step most (H ++ [k.v]) (some k.n) r := by simp [step, h1, h2]
def accR (most : Int) (M : Nat → List Ky) : Nat → Option (List Int)
  | 0 => some []
  | j + 1 => (accR most M j).bind fun H => step most H none (M j)
theorem accR_none {most : Int} {M : Nat → List Ky} {i j : Nat} (h : accR most M i = none) (hij : i ≤ j) : accR most M j = none := by
  obtain ⟨d, rfl⟩ := Nat.le.dest hij
  induction d with
  | zero => exact h
  | succ d ih => rw [← Nat.add_assoc, accR, ih (by omega)]; rfl
def prevK (ks : List Ky) (k : Nat) : Option ByteArray := if k = 0 then none else (ks[k - 1]?).map (·.n)
/-- Two lists side by side in a block. -/
structure Lists (w : World) (g : Nat) (M : Nat → List Ky) : Prop where
  at_ : ∀ j, j < 2 → ∃ a n c, w.cell? ⟨g, j, none⟩ = some (.slice a n c) ∧ n ≤ c ∧ KS w a n (M j)
theorem Lists.below {w w' : World} {g : Nat} {M : Nat → List Ky} (h : Lists w g M) (hb : Below w.heap.size w w') : Lists w' g M := ⟨fun j hj => by
  obtain ⟨a, n, c, h1, h2, h3⟩ := h.at_ j hj
  exact ⟨a, n, c, (hb.cell (cell_lt h1)).trans h1, h2, h3.below hb⟩⟩
/-- What stands while lists are looked at. -/
structure Look (w wr : World) (mb p5 : Nat) (most : Int) (H : List Int) : Prop where
  bel : Below w.heap.size w wr
  pool : PoolAt wr mb H
  box : wr.heap[p5]? = some (.cells #[.map (some mb), .int .i64 most] 59 (0, 0))
  mb1 : w.heap.size ≤ mb
  p51 : w.heap.size ≤ p5
  ne : p5 ≠ mb
theorem Look.more {w wr wr' : World} {mb p5 : Nat} {most : Int} {H : List Int} (h : Look w wr mb p5 most H) (hb : Below wr.heap.size wr wr') : Look w wr' mb p5 most H :=
  ⟨h.bel.trans (hb.mono h.bel.size), h.pool.below hb, (hb.block _ (lt_of_heap h.box)).trans h.box, h.mb1, h.p51, h.ne⟩
theorem Look.took {w wr wr' : World} {mb p5 : Nat} {most : Int} {H H' : List Int} (h : Look w wr mb p5 most H) (hb : Fr mb wr wr') (hp : PoolAt wr' mb H') : Look w wr' mb p5 most H' :=
  ⟨hb.to h.bel h.mb1, hp, (hb.block _ (lt_of_heap h.box) h.ne).trans h.box, h.mb1, h.p51, h.ne⟩
set_option linter.unusedSimpArgs false in
set_option maxRecDepth 20000 in
set_option maxHeartbeats 2000000 in
theorem areRight_any (most : Int) (g : Nat) (M : Nat → List Ky) (w : World) (hL : Lists w g M) :
    Calls Try.prog 17 #[.int .i64 most, .slice (some ⟨g, 0, none⟩) 2 2] w fun e w' => e = .returned (.bool (accR most M 2).isSome) ∧ Below w.heap.size w w' := by
  have HL : Hid _ := hL
  clear hL
  go_enter Try.func17, Try.ntmps17
  go_wp2_with fail
  refine (newPool_any most _).mono ?_
  rintro e W1 ⟨rfl, hp, hb⟩
  have HB1 : Hid _ := hb
  have HLK : Hid (Look w (W1.alloc (.cells #[.map (some (w.heap.size + 1)), .int .i64 most] 59)) (w.heap.size + 1) W1.heap.size most []) :=
    ⟨hb.trans ((below1 W1 _).mono hb.size), hp.below (below1 _ _), heap_alloc_new _ _, by omega, hb.size, by have := hp.lt; omega⟩
  unfold poolV
  clear hp hb
  go_wp2_with fail
  go_loopw [14] (fun i wr => ∃ (j : Nat) (H : List Int), j ≤ 2 ∧ i = .int .i64 j ∧ Hid (accR most M j = some H) ∧ Hid (Look w wr (w.heap.size + 1) W1.heap.size most H)) (fun i _ => 2 - (intOf i).toNat)
  case atStart => exact ⟨0, [], by omega, rfl, rfl, HLK⟩
  case round =>
    obtain ⟨j, H, hj, rfl, hH, hk⟩ := hrel
    by_cases hlt : j < 2
    · have hjI : (j : Int) < 2 := by omega
      obtain ⟨a, n, c, hc0, hnc, hks⟩ := HL.out.at_ j hlt
      have hc := (hk.out.bel.cell (p := ⟨g, j, none⟩) (cell_lt hc0)).trans hc0
      have hlen := hks.len
      have hroom := hks.room
      have HKS : Hid _ := hks
      have HE : Hid (accR most M (j + 1) = step most H none (M j)) := by show _ = _; rw [accR, hH.out]; rfl
      clear hks hc0
      go_wp2_with fail
      rename World => wo
      go_loopw [20] (fun i wr => ∃ (k : Nat) (H' : List Int), k ≤ n ∧ i = .int .i64 k ∧ Hid (step most H' (prevK (M j) k) ((M j).drop k) = accR most M (j + 1)) ∧ Hid (Look w wr (w.heap.size + 1) W1.heap.size most H')) (fun i _ => n - (intOf i).toNat)
      case atStart => exact ⟨0, H, by omega, rfl, HE.out.symm, hk⟩
      case round =>
        obtain ⟨k, H', hk2, rfl, hst, hlk⟩ := hrel
        by_cases hltn : k < n
        · have hkI : (k : Int) < n := by omega
          obtain ⟨o, ho⟩ := getK (os := M j) (k := k) (by omega)
          obtain ⟨b, off, rfl, e0, e1, hbl⟩ := HKS.out.at ho
          have c0 := (hlk.out.bel.cell (p := ⟨b, off + k * 2, none⟩) hbl).trans e0
          have c1 := (hlk.out.bel.cell (p := ⟨b, off + k * 2 + 1, none⟩) hbl).trans e1
          have hws := hlk.out.bel.size
          have hpl := hlk.out.pool.lt
          have h51 := lt_of_heap hlk.out.box
          have HK2 : Hid (Look w (wr.alloc (.cells #[.string o.n, .int .i64 o.v] 37)) (w.heap.size + 1) W1.heap.size most H') := hlk.out.more (below1 _ _)
          have HNW : Hid _ := heap_alloc_new wr (.cells #[.string o.n, .int .i64 o.v] 37)
          clear e0 e1
          cases k with
          | zero =>
            have HPV : Hid (prevK (M j) (0 + 1) = some o.n) := by show _ = _; simp only [prevK]; rw [if_neg (by omega), show 0 + 1 - 1 = 0 from rfl, ho]; rfl
            have HSTEP : Hid (step most H' (prevK (M j) 0) (o :: (M j).drop (0 + 1)) = accR most M (j + 1)) := by show _ = _; rw [← drop_cons ho]; exact hst.out
            have HUP : Hid (notUp (prevK (M j) 0) o.n = false) := rfl
            obtain ⟨on, hon⟩ : ∃ on, o.n = on := ⟨_, rfl⟩
            obtain ⟨ov, hov⟩ : ∃ ov, o.v = ov := ⟨_, rfl⟩
            have HON : Hid _ := hon
            have HOV : Hid _ := hov
            rw [hon, hov] at HK2 HNW
            rw [hon] at c0 HPV HUP
            rw [hov] at c1
            clear hon hov
            simp only [Nat.zero_mul, Nat.add_zero] at c0 c1
            have HS0 : Hid ((wr.alloc (.cells #[.string on, .int .i64 ov] 37)).drew.cell? ⟨wr.heap.size, 0, none⟩ = some (.string on) ∧ (wr.alloc (.cells #[.string on, .int .i64 ov] 37)).drew.cell? ⟨wr.heap.size, 1, none⟩ = some (.int .i64 ov) ∧ (wr.alloc (.cells #[.string on, .int .i64 ov] 37)).drew.heap[W1.heap.size]? = some (.cells #[.map (some (w.heap.size + 1)), .int .i64 most] 59 (0, 0))) := ⟨cell_row HNW.out 0, cell_row HNW.out 1, HK2.out.box⟩
            clear ho hst
            go_wp2_with fail
            refine wp_region_held_drew (S := (fun V => V.cell? ⟨wr.heap.size, 0, none⟩ = some (.string on) ∧ V.cell? ⟨wr.heap.size, 1, none⟩ = some (.int .i64 ov) ∧ V.heap[W1.heap.size]? = some (.cells #[.map (some (w.heap.size + 1)), .int .i64 most] 59 (0, 0)))) (by kernel_rfl) ?_ (fun hHeld => ?_)
            · exact HS0.out
            refine wpAnyH_take (i := 0) (v := ?_) rfl (by kernel_rfl) (by kernel_rfl) (by kernel_rfl) (fun _ _ _ h => h) (Or.inl ⟨by rfl, ?_⟩) (by assumption) ?_
            rotate_left
            · (intro w hSw; (try dsimp only at hSw); go_simp; try with_reducible rfl)
            try simp only [List.getElem_toArray, List.getElem_cons_zero, List.getElem_cons_succ, Act.put, List.setIfInBounds_toArray, List.set_cons_zero, List.set_cons_succ]
            refine wpAnyH_take (i := 1) (v := ?_) rfl (by kernel_rfl) (by kernel_rfl) (by kernel_rfl) (fun _ _ _ h => h) (Or.inl ⟨by rfl, ?_⟩) (by assumption) ?_
            rotate_left
            · (intro w hSw; (try dsimp only at hSw); go_simp; try with_reducible rfl)
            try simp only [List.getElem_toArray, List.getElem_cons_zero, List.getElem_cons_succ, Act.put, List.setIfInBounds_toArray, List.set_cons_zero, List.set_cons_succ]
            refine wpAnyH_take (i := 2) (v := ?_) rfl (by kernel_rfl) (by kernel_rfl) (by kernel_rfl) (fun _ _ _ h => h) (Or.inl ⟨by rfl, ?_⟩) (by assumption) ?_
            rotate_left
            · (intro w hSw; (try dsimp only at hSw); go_simp; try with_reducible rfl)
            try simp only [List.getElem_toArray, List.getElem_cons_zero, List.getElem_cons_succ, Act.put, List.setIfInBounds_toArray, List.set_cons_zero, List.set_cons_succ]
            refine wpAnyH_take (i := 3) (v := undef) rfl (by kernel_rfl) (by kernel_rfl) (by kernel_rfl) (fun _ _ _ h => h) (Or.inr ⟨by rfl, rfl⟩) (by assumption) ?_
            try simp only [List.getElem_toArray, List.getElem_cons_zero, List.getElem_cons_succ, Act.put, List.setIfInBounds_toArray, List.set_cons_zero, List.set_cons_succ]
            refine wpAnyH_take (i := 4) (v := undef) rfl (by kernel_rfl) (by kernel_rfl) (by kernel_rfl) (fun _ _ _ h => h) (Or.inr ⟨by rfl, rfl⟩) (by assumption) ?_
            try simp only [List.getElem_toArray, List.getElem_cons_zero, List.getElem_cons_succ, Act.put, List.setIfInBounds_toArray, List.set_cons_zero, List.set_cons_succ]
            refine wpAnyH_take (i := 5) (v := undef) rfl (by kernel_rfl) (by kernel_rfl) (by kernel_rfl) (fun _ _ _ h => h) (Or.inr ⟨by rfl, rfl⟩) (by assumption) ?_
            try simp only [List.getElem_toArray, List.getElem_cons_zero, List.getElem_cons_succ, Act.put, List.setIfInBounds_toArray, List.set_cons_zero, List.set_cons_succ]
            refine wpAnyH_take (i := 6) (v := undef) rfl (by kernel_rfl) (by kernel_rfl) (by kernel_rfl) (fun _ _ _ h => h) (Or.inr ⟨by rfl, rfl⟩) (by assumption) ?_
            try simp only [List.getElem_toArray, List.getElem_cons_zero, List.getElem_cons_succ, Act.put, List.setIfInBounds_toArray, List.set_cons_zero, List.set_cons_succ]
            refine wpAnyH_take (i := 7) (v := undef) rfl (by kernel_rfl) (by kernel_rfl) (by kernel_rfl) (fun _ _ _ h => h) (Or.inr ⟨by rfl, rfl⟩) (by assumption) ?_
            try simp only [List.getElem_toArray, List.getElem_cons_zero, List.getElem_cons_succ, Act.put, List.setIfInBounds_toArray, List.set_cons_zero, List.set_cons_succ]
            refine wpAnyH_take (i := 8) (v := undef) rfl (by kernel_rfl) (by kernel_rfl) (by kernel_rfl) (fun _ _ _ h => h) (Or.inr ⟨by rfl, rfl⟩) (by assumption) ?_
            try simp only [List.getElem_toArray, List.getElem_cons_zero, List.getElem_cons_succ, Act.put, List.setIfInBounds_toArray, List.set_cons_zero, List.set_cons_succ]
            refine wpAnyH_take (i := 9) (v := undef) rfl (by kernel_rfl) (by kernel_rfl) (by kernel_rfl) (fun _ _ _ h => h) (Or.inr ⟨by rfl, rfl⟩) (by assumption) ?_
            try simp only [List.getElem_toArray, List.getElem_cons_zero, List.getElem_cons_succ, Act.put, List.setIfInBounds_toArray, List.set_cons_zero, List.set_cons_succ]
            refine wpAnyH_take (i := 10) (v := undef) rfl (by kernel_rfl) (by kernel_rfl) (by kernel_rfl) (fun _ _ _ h => h) (Or.inr ⟨by rfl, rfl⟩) (by assumption) ?_
            try simp only [List.getElem_toArray, List.getElem_cons_zero, List.getElem_cons_succ, Act.put, List.setIfInBounds_toArray, List.set_cons_zero, List.set_cons_succ]
            refine wpAnyH_take (i := 11) (v := undef) rfl (by kernel_rfl) (by kernel_rfl) (by kernel_rfl) (fun _ _ _ h => h) (Or.inr ⟨by rfl, rfl⟩) (by assumption) ?_
            try simp only [List.getElem_toArray, List.getElem_cons_zero, List.getElem_cons_succ, Act.put, List.setIfInBounds_toArray, List.set_cons_zero, List.set_cons_succ]
            refine wpAnyH_take (i := 12) (v := ?_) rfl (by kernel_rfl) (by kernel_rfl) (by kernel_rfl) (fun _ _ _ h => h) (Or.inl ⟨by rfl, ?_⟩) (by assumption) ?_
            rotate_left
            · (intro w hSw; (try dsimp only at hSw); go_simp; try with_reducible rfl)
            try simp only [List.getElem_toArray, List.getElem_cons_zero, List.getElem_cons_succ, Act.put, List.setIfInBounds_toArray, List.set_cons_zero, List.set_cons_succ]
            refine wpAnyH_take (i := 13) (v := ?_) rfl (by kernel_rfl) (by kernel_rfl) (by kernel_rfl) (fun _ _ _ h => h) (Or.inl ⟨by rfl, ?_⟩) (by assumption) ?_
            rotate_left
            · (intro w hSw; (try dsimp only at hSw); go_simp; try with_reducible rfl)
            try simp only [List.getElem_toArray, List.getElem_cons_zero, List.getElem_cons_succ, Act.put, List.setIfInBounds_toArray, List.set_cons_zero, List.set_cons_succ]
            refine wpAnyH_take (i := 14) (v := .agg #[.map (some (w.heap.size + 1)), .int .i64 most]) rfl (by kernel_rfl) (by kernel_rfl) (by kernel_rfl) (fun _ _ _ h => h) (yields_loadR (by rfl) 59 _ rfl W1.heap.size rfl 59 _ _ (fun _ h => h.2.2) Try.underlying59 rfl size59) (by assumption) ?_
            try simp only [List.getElem_toArray, List.getElem_cons_zero, List.getElem_cons_succ, Act.put, List.setIfInBounds_toArray, List.set_cons_zero, List.set_cons_succ]
            refine wpAnyH_take (i := 15) (v := ?_) rfl (by kernel_rfl) (by kernel_rfl) (by kernel_rfl) (fun _ _ _ h => h) (Or.inl ⟨by rfl, ?_⟩) (by assumption) ?_
            rotate_left
            · (intro w hSw; (try dsimp only at hSw); go_simp; try with_reducible rfl)
            try simp only [List.getElem_toArray, List.getElem_cons_zero, List.getElem_cons_succ, Act.put, List.setIfInBounds_toArray, List.set_cons_zero, List.set_cons_succ]
            refine wpAnyH_take (i := 16) (v := ?_) rfl (by kernel_rfl) (by kernel_rfl) (by kernel_rfl) (fun _ _ _ h => h) (Or.inl ⟨by rfl, ?_⟩) (by assumption) ?_
            rotate_left
            · (intro w hSw; (try dsimp only at hSw); go_simp; try with_reducible rfl)
            try simp only [List.getElem_toArray, List.getElem_cons_zero, List.getElem_cons_succ, Act.put, List.setIfInBounds_toArray, List.set_cons_zero, List.set_cons_succ]
            refine wpAnyH_ready (rs := [17]) (by kernel_rfl) (by simp) ?_
            refine AllReadyH.cons (o := _) rfl (fun K hK => ?_) AllReadyH.nil
            go_simp
            refine (take_any (w.heap.size + 1) H' most ov _ (HK2.out.more (Below.refl _ _).drew).pool).mono ?_
            rintro e W2 ⟨rfl, hp2, hf2⟩
            have HK3 : Hid (Look w W2 (w.heap.size + 1) W1.heap.size most (takeH H' most ov)) := (HK2.out.more (Below.refl _ _).drew).took hf2 hp2
            have hS2 : W2.cell? ⟨wr.heap.size, 0, none⟩ = some (.string on) ∧ W2.cell? ⟨wr.heap.size, 1, none⟩ = some (.int .i64 ov) ∧ W2.heap[W1.heap.size]? = some (.cells #[.map (some (w.heap.size + 1)), .int .i64 most] 59 (0, 0)) := ⟨(hf2.cell (by simp) (by omega)).trans HS0.out.1, (hf2.cell (by simp) (by omega)).trans HS0.out.2.1, HK3.out.box⟩
            clear hp2 hf2
            go_wp2_with fail
            refine hK.out _ _ hS2 (fun hHeld2 => ?_)
            clear hK K hHeld
            have hHeld := hHeld2
            clear hHeld2 hS2
            try simp only [List.getElem_toArray, List.getElem_cons_zero, List.getElem_cons_succ, Act.put, List.setIfInBounds_toArray, List.set_cons_zero, List.set_cons_succ]
            cases htk : takeB H' most ov
            · have HR : Hid ((accR most M 2).isSome = false) := by show _ = _; rw [accR_none (i := j + 1) (by rw [← HSTEP.out]; exact step_no (by rw [HOV.out, htk]; simp)) (by omega)]; rfl
              refine wpAnyH_take (i := 18) (v := ?_) rfl (by kernel_rfl) (by kernel_rfl) (by kernel_rfl) (fun _ _ _ h => h) (Or.inl ⟨by rfl, ?_⟩) (by assumption) ?_
              rotate_left
              · (intro w hSw; (try dsimp only at hSw); go_simp; try with_reducible rfl)
              try simp only [List.getElem_toArray, List.getElem_cons_zero, List.getElem_cons_succ, Act.put, List.setIfInBounds_toArray, List.set_cons_zero, List.set_cons_succ]
              refine wpAnyH_take (i := 19) (v := ?_) rfl (by kernel_rfl) (by kernel_rfl) (by kernel_rfl) (fun _ _ _ h => h) (Or.inl ⟨by rfl, ?_⟩) (by assumption) ?_
              rotate_left
              · (intro w hSw; (try dsimp only at hSw); go_simp; try with_reducible rfl)
              try simp only [List.getElem_toArray, List.getElem_cons_zero, List.getElem_cons_succ, Act.put, List.setIfInBounds_toArray, List.set_cons_zero, List.set_cons_succ]
              refine wpAnyH_done (by kernel_rfl) ?_ _
              go_wp2
              go_ret
              exact ⟨by rw [HR.out]; rfl, HK3.out.bel⟩
            · have HST : Hid (step most (takeH H' most ov) (prevK (M j) (0 + 1)) ((M j).drop (0 + 1)) = accR most M (j + 1)) := by
                show _ = _
                have q1 : notUp (prevK (M j) 0) o.n = false := by rw [HON.out]; exact HUP.out
                have q2 : takeB H' most o.v = true := by rw [HOV.out]; exact htk
                rw [← HSTEP.out, step_yes q1 q2, HPV.out, HON.out, HOV.out]
                unfold takeH; rw [htk]; rfl
              refine wpAnyH_take (i := 18) (v := ?_) rfl (by kernel_rfl) (by kernel_rfl) (by kernel_rfl) (fun _ _ _ h => h) (Or.inl ⟨by rfl, ?_⟩) (by assumption) ?_
              rotate_left
              · (intro w hSw; (try dsimp only at hSw); go_simp; try with_reducible rfl)
              try simp only [List.getElem_toArray, List.getElem_cons_zero, List.getElem_cons_succ, Act.put, List.setIfInBounds_toArray, List.set_cons_zero, List.set_cons_succ]
              refine wpAnyH_take (i := 19) (v := ?_) rfl (by kernel_rfl) (by kernel_rfl) (by kernel_rfl) (fun _ _ _ h => h) (Or.inl ⟨by rfl, ?_⟩) (by assumption) ?_
              rotate_left
              · (intro w hSw; (try dsimp only at hSw); go_simp; try with_reducible rfl)
              try simp only [List.getElem_toArray, List.getElem_cons_zero, List.getElem_cons_succ, Act.put, List.setIfInBounds_toArray, List.set_cons_zero, List.set_cons_succ]
              refine wpAnyH_done (by kernel_rfl) ?_ _
              go_wp2
              go_roundw
              case rel => exact ⟨0 + 1, takeH H' most ov, by omega, by first | rfl | go_num, HST, HK3⟩
              case measure => simp [intOf]; omega
          | succ m =>
            obtain ⟨o', ho'⟩ := getK (os := M j) (k := m) (by omega)
            obtain ⟨b', off', eb, e0, e1, _⟩ := HKS.out.at ho'
            cases eb
            have c2 := (hlk.out.bel.cell (p := ⟨b, off + m * 2, none⟩) hbl).trans e0
            clear e0 e1
            have HPV : Hid (prevK (M j) ((m + 1) + 1) = some o.n) := by show _ = _; simp only [prevK]; rw [if_neg (by omega), show (m + 1) + 1 - 1 = (m + 1) from rfl, ho]; rfl
            have HSTEP : Hid (step most H' (prevK (M j) (m + 1)) (o :: (M j).drop ((m + 1) + 1)) = accR most M (j + 1)) := by show _ = _; rw [← drop_cons ho]; exact hst.out
            have hpq : prevK (M j) (m + 1) = some o'.n := by simp only [prevK]; rw [if_neg (by omega), show m + 1 - 1 = m from rfl, ho']; rfl
            have hup : notUp (prevK (M j) (m + 1)) o.n = !(Op.bytesLess o'.n.toList o.n.toList) := by rw [hpq]; rfl
            have HUPE : Hid _ := hup
            obtain ⟨on, hon⟩ : ∃ on, o.n = on := ⟨_, rfl⟩
            obtain ⟨ov, hov⟩ : ∃ ov, o.v = ov := ⟨_, rfl⟩
            have HON : Hid _ := hon
            have HOV : Hid _ := hov
            rw [hon, hov] at HK2 HNW
            rw [hon] at c0 HPV HUPE
            rw [hov] at c1
            generalize o'.n = q at *
            have HS0 : Hid ((wr.alloc (.cells #[.string on, .int .i64 ov] 37)).drew.cell? ⟨wr.heap.size, 0, none⟩ = some (.string on) ∧ (wr.alloc (.cells #[.string on, .int .i64 ov] 37)).drew.cell? ⟨wr.heap.size, 1, none⟩ = some (.int .i64 ov) ∧ (wr.alloc (.cells #[.string on, .int .i64 ov] 37)).drew.heap[W1.heap.size]? = some (.cells #[.map (some (w.heap.size + 1)), .int .i64 most] 59 (0, 0)) ∧ (wr.alloc (.cells #[.string on, .int .i64 ov] 37)).drew.cell? ⟨b, off + m * 2, none⟩ = some (.string q)) := ⟨cell_row HNW.out 0, cell_row HNW.out 1, HK2.out.box, ((below1 wr _).cell (p := ⟨b, off + m * 2, none⟩) (show b < wr.heap.size by omega)).trans c2⟩
            have hmI : (m : Int) < n := by omega
            have hm0 : (0 : Int) ≤ m := by omega
            have hmw : IntKind.i64.wrap (m : Int) = m := by simp [IntKind.wrap, IntKind.bits, IntKind.signed]; omega
            have hm1 : (0 : Int) < (m : Int) + 1 := by omega
            clear ho hst ho' hpq hup hon hov
            cases hbl2 : Op.bytesLess q.toList on.toList
            · have HR : Hid ((accR most M 2).isSome = false) := by show _ = _; rw [accR_none (i := j + 1) (by rw [← HSTEP.out]; exact step_no (by rw [HON.out, HUPE.out, hbl2]; rfl)) (by omega)]; rfl
              go_wp2_with fail
              refine wp_region_held_drew (S := (fun V => V.cell? ⟨wr.heap.size, 0, none⟩ = some (.string on) ∧ V.cell? ⟨wr.heap.size, 1, none⟩ = some (.int .i64 ov) ∧ V.heap[W1.heap.size]? = some (.cells #[.map (some (w.heap.size + 1)), .int .i64 most] 59 (0, 0)) ∧ V.cell? ⟨b, off + m * 2, none⟩ = some (.string q))) (by kernel_rfl) ?_ (fun hHeld => ?_)
              · exact HS0.out
              refine wpAnyH_take (i := 0) (v := ?_) rfl (by kernel_rfl) (by kernel_rfl) (by kernel_rfl) (fun _ _ _ h => h) (Or.inl ⟨by rfl, ?_⟩) (by assumption) ?_
              rotate_left
              · (intro w hSw; (try dsimp only at hSw); go_simp; try with_reducible rfl)
              try simp only [List.getElem_toArray, List.getElem_cons_zero, List.getElem_cons_succ, Act.put, List.setIfInBounds_toArray, List.set_cons_zero, List.set_cons_succ]
              refine wpAnyH_take (i := 1) (v := ?_) rfl (by kernel_rfl) (by kernel_rfl) (by kernel_rfl) (fun _ _ _ h => h) (Or.inl ⟨by rfl, ?_⟩) (by assumption) ?_
              rotate_left
              · (intro w hSw; (try dsimp only at hSw); go_simp; try with_reducible rfl)
              try simp only [List.getElem_toArray, List.getElem_cons_zero, List.getElem_cons_succ, Act.put, List.setIfInBounds_toArray, List.set_cons_zero, List.set_cons_succ]
              refine wpAnyH_take (i := 2) (v := ?_) rfl (by kernel_rfl) (by kernel_rfl) (by kernel_rfl) (fun _ _ _ h => h) (Or.inl ⟨by rfl, ?_⟩) (by assumption) ?_
              rotate_left
              · (intro w hSw; (try dsimp only at hSw); go_simp; try with_reducible rfl)
              try simp only [List.getElem_toArray, List.getElem_cons_zero, List.getElem_cons_succ, Act.put, List.setIfInBounds_toArray, List.set_cons_zero, List.set_cons_succ]
              refine wpAnyH_take (i := 3) (v := ?_) rfl (by kernel_rfl) (by kernel_rfl) (by kernel_rfl) (fun _ _ _ h => h) (Or.inl ⟨by rfl, ?_⟩) (by assumption) ?_
              rotate_left
              · (intro w hSw; (try dsimp only at hSw); go_simp; try with_reducible rfl)
              try simp only [List.getElem_toArray, List.getElem_cons_zero, List.getElem_cons_succ, Act.put, List.setIfInBounds_toArray, List.set_cons_zero, List.set_cons_succ]
              refine wpAnyH_take (i := 4) (v := ?_) rfl (by kernel_rfl) (by kernel_rfl) (by kernel_rfl) (fun _ _ _ h => h) (Or.inl ⟨by rfl, ?_⟩) (by assumption) ?_
              rotate_left
              · (intro w hSw; (try dsimp only at hSw); go_simp; try with_reducible rfl)
              try simp only [List.getElem_toArray, List.getElem_cons_zero, List.getElem_cons_succ, Act.put, List.setIfInBounds_toArray, List.set_cons_zero, List.set_cons_succ]
              refine wpAnyH_take (i := 5) (v := ?_) rfl (by kernel_rfl) (by kernel_rfl) (by kernel_rfl) (fun _ _ _ h => h) (Or.inl ⟨by rfl, ?_⟩) (by assumption) ?_
              rotate_left
              · (intro w hSw; (try dsimp only at hSw); go_simp; try with_reducible rfl)
              try simp only [List.getElem_toArray, List.getElem_cons_zero, List.getElem_cons_succ, Act.put, List.setIfInBounds_toArray, List.set_cons_zero, List.set_cons_succ]
              refine wpAnyH_take (i := 6) (v := ?_) rfl (by kernel_rfl) (by kernel_rfl) (by kernel_rfl) (fun _ _ _ h => h) (Or.inl ⟨by rfl, ?_⟩) (by assumption) ?_
              rotate_left
              · (intro w hSw; (try dsimp only at hSw); go_simp; try with_reducible rfl)
              try simp only [List.getElem_toArray, List.getElem_cons_zero, List.getElem_cons_succ, Act.put, List.setIfInBounds_toArray, List.set_cons_zero, List.set_cons_succ]
              refine wpAnyH_take (i := 7) (v := ?_) rfl (by kernel_rfl) (by kernel_rfl) (by kernel_rfl) (fun _ _ _ h => h) (Or.inl ⟨by rfl, ?_⟩) (by assumption) ?_
              rotate_left
              · (intro w hSw; (try dsimp only at hSw); go_simp; try with_reducible rfl)
              try simp only [List.getElem_toArray, List.getElem_cons_zero, List.getElem_cons_succ, Act.put, List.setIfInBounds_toArray, List.set_cons_zero, List.set_cons_succ]
              refine wpAnyH_take (i := 8) (v := ?_) rfl (by kernel_rfl) (by kernel_rfl) (by kernel_rfl) (fun _ _ _ h => h) (Or.inl ⟨by rfl, ?_⟩) (by assumption) ?_
              rotate_left
              · (intro w hSw; (try dsimp only at hSw); go_simp; try with_reducible rfl)
              try simp only [List.getElem_toArray, List.getElem_cons_zero, List.getElem_cons_succ, Act.put, List.setIfInBounds_toArray, List.set_cons_zero, List.set_cons_succ]
              refine wpAnyH_take (i := 9) (v := ?_) rfl (by kernel_rfl) (by kernel_rfl) (by kernel_rfl) (fun _ _ _ h => h) (Or.inl ⟨by rfl, ?_⟩) (by assumption) ?_
              rotate_left
              · (intro w hSw; (try dsimp only at hSw); go_simp; try with_reducible rfl)
              try simp only [List.getElem_toArray, List.getElem_cons_zero, List.getElem_cons_succ, Act.put, List.setIfInBounds_toArray, List.set_cons_zero, List.set_cons_succ]
              refine wpAnyH_take (i := 10) (v := ?_) rfl (by kernel_rfl) (by kernel_rfl) (by kernel_rfl) (fun _ _ _ h => h) (Or.inl ⟨by rfl, ?_⟩) (by assumption) ?_
              rotate_left
              · (intro w hSw; (try dsimp only at hSw); go_simp; try with_reducible rfl)
              try simp only [List.getElem_toArray, List.getElem_cons_zero, List.getElem_cons_succ, Act.put, List.setIfInBounds_toArray, List.set_cons_zero, List.set_cons_succ]
              refine wpAnyH_take (i := 11) (v := ?_) rfl (by kernel_rfl) (by kernel_rfl) (by kernel_rfl) (fun _ _ _ h => h) (Or.inl ⟨by rfl, ?_⟩) (by assumption) ?_
              rotate_left
              · (intro w hSw; (try dsimp only at hSw); go_simp; try with_reducible rfl)
              try simp only [List.getElem_toArray, List.getElem_cons_zero, List.getElem_cons_succ, Act.put, List.setIfInBounds_toArray, List.set_cons_zero, List.set_cons_succ]
              refine wpAnyH_take (i := 12) (v := ?_) rfl (by kernel_rfl) (by kernel_rfl) (by kernel_rfl) (fun _ _ _ h => h) (Or.inl ⟨by rfl, ?_⟩) (by assumption) ?_
              rotate_left
              · (intro w hSw; (try dsimp only at hSw); go_simp; try with_reducible rfl)
              try simp only [List.getElem_toArray, List.getElem_cons_zero, List.getElem_cons_succ, Act.put, List.setIfInBounds_toArray, List.set_cons_zero, List.set_cons_succ]
              refine wpAnyH_take (i := 13) (v := ?_) rfl (by kernel_rfl) (by kernel_rfl) (by kernel_rfl) (fun _ _ _ h => h) (Or.inl ⟨by rfl, ?_⟩) (by assumption) ?_
              rotate_left
              · (intro w hSw; (try dsimp only at hSw); go_simp; try with_reducible rfl)
              try simp only [List.getElem_toArray, List.getElem_cons_zero, List.getElem_cons_succ, Act.put, List.setIfInBounds_toArray, List.set_cons_zero, List.set_cons_succ]
              refine wpAnyH_take (i := 14) (v := undef) rfl (by kernel_rfl) (by kernel_rfl) (by kernel_rfl) (fun _ _ _ h => h) (Or.inr ⟨by rfl, rfl⟩) (by assumption) ?_
              try simp only [List.getElem_toArray, List.getElem_cons_zero, List.getElem_cons_succ, Act.put, List.setIfInBounds_toArray, List.set_cons_zero, List.set_cons_succ]
              refine wpAnyH_take (i := 15) (v := undef) rfl (by kernel_rfl) (by kernel_rfl) (by kernel_rfl) (fun _ _ _ h => h) (Or.inr ⟨by rfl, rfl⟩) (by assumption) ?_
              try simp only [List.getElem_toArray, List.getElem_cons_zero, List.getElem_cons_succ, Act.put, List.setIfInBounds_toArray, List.set_cons_zero, List.set_cons_succ]
              refine wpAnyH_take (i := 16) (v := undef) rfl (by kernel_rfl) (by kernel_rfl) (by kernel_rfl) (fun _ _ _ h => h) (Or.inr ⟨by rfl, rfl⟩) (by assumption) ?_
              try simp only [List.getElem_toArray, List.getElem_cons_zero, List.getElem_cons_succ, Act.put, List.setIfInBounds_toArray, List.set_cons_zero, List.set_cons_succ]
              refine wpAnyH_take (i := 17) (v := undef) rfl (by kernel_rfl) (by kernel_rfl) (by kernel_rfl) (fun _ _ _ h => h) (Or.inr ⟨by rfl, rfl⟩) (by assumption) ?_
              try simp only [List.getElem_toArray, List.getElem_cons_zero, List.getElem_cons_succ, Act.put, List.setIfInBounds_toArray, List.set_cons_zero, List.set_cons_succ]
              refine wpAnyH_take (i := 18) (v := undef) rfl (by kernel_rfl) (by kernel_rfl) (by kernel_rfl) (fun _ _ _ h => h) (Or.inr ⟨by rfl, rfl⟩) (by assumption) ?_
              try simp only [List.getElem_toArray, List.getElem_cons_zero, List.getElem_cons_succ, Act.put, List.setIfInBounds_toArray, List.set_cons_zero, List.set_cons_succ]
              refine wpAnyH_take (i := 19) (v := ?_) rfl (by kernel_rfl) (by kernel_rfl) (by kernel_rfl) (fun _ _ _ h => h) (Or.inl ⟨by rfl, ?_⟩) (by assumption) ?_
              rotate_left
              · (intro w hSw; (try dsimp only at hSw); go_simp; try with_reducible rfl)
              try simp only [List.getElem_toArray, List.getElem_cons_zero, List.getElem_cons_succ, Act.put, List.setIfInBounds_toArray, List.set_cons_zero, List.set_cons_succ]
              refine wpAnyH_done (by kernel_rfl) ?_ _
              go_wp2
              go_ret
              exact ⟨by rw [HR.out]; rfl, (HK2.out.more (Below.refl _ _).drew).bel⟩
            · have HUP : Hid (notUp (prevK (M j) (m + 1)) on = false) := by show _ = _; rw [HUPE.out, hbl2]; rfl
              go_wp2_with fail
              refine wp_region_held_drew (S := (fun V => V.cell? ⟨wr.heap.size, 0, none⟩ = some (.string on) ∧ V.cell? ⟨wr.heap.size, 1, none⟩ = some (.int .i64 ov) ∧ V.heap[W1.heap.size]? = some (.cells #[.map (some (w.heap.size + 1)), .int .i64 most] 59 (0, 0)) ∧ V.cell? ⟨b, off + m * 2, none⟩ = some (.string q))) (by kernel_rfl) ?_ (fun hHeld => ?_)
              · exact HS0.out
              refine wpAnyH_take (i := 0) (v := ?_) rfl (by kernel_rfl) (by kernel_rfl) (by kernel_rfl) (fun _ _ _ h => h) (Or.inl ⟨by rfl, ?_⟩) (by assumption) ?_
              rotate_left
              · (intro w hSw; (try dsimp only at hSw); go_simp; try with_reducible rfl)
              try simp only [List.getElem_toArray, List.getElem_cons_zero, List.getElem_cons_succ, Act.put, List.setIfInBounds_toArray, List.set_cons_zero, List.set_cons_succ]
              refine wpAnyH_take (i := 1) (v := ?_) rfl (by kernel_rfl) (by kernel_rfl) (by kernel_rfl) (fun _ _ _ h => h) (Or.inl ⟨by rfl, ?_⟩) (by assumption) ?_
              rotate_left
              · (intro w hSw; (try dsimp only at hSw); go_simp; try with_reducible rfl)
              try simp only [List.getElem_toArray, List.getElem_cons_zero, List.getElem_cons_succ, Act.put, List.setIfInBounds_toArray, List.set_cons_zero, List.set_cons_succ]
              refine wpAnyH_take (i := 2) (v := ?_) rfl (by kernel_rfl) (by kernel_rfl) (by kernel_rfl) (fun _ _ _ h => h) (Or.inl ⟨by rfl, ?_⟩) (by assumption) ?_
              rotate_left
              · (intro w hSw; (try dsimp only at hSw); go_simp; try with_reducible rfl)
              try simp only [List.getElem_toArray, List.getElem_cons_zero, List.getElem_cons_succ, Act.put, List.setIfInBounds_toArray, List.set_cons_zero, List.set_cons_succ]
              refine wpAnyH_take (i := 3) (v := ?_) rfl (by kernel_rfl) (by kernel_rfl) (by kernel_rfl) (fun _ _ _ h => h) (Or.inl ⟨by rfl, ?_⟩) (by assumption) ?_
              rotate_left
              · (intro w hSw; (try dsimp only at hSw); go_simp; try with_reducible rfl)
              try simp only [List.getElem_toArray, List.getElem_cons_zero, List.getElem_cons_succ, Act.put, List.setIfInBounds_toArray, List.set_cons_zero, List.set_cons_succ]
              refine wpAnyH_take (i := 4) (v := ?_) rfl (by kernel_rfl) (by kernel_rfl) (by kernel_rfl) (fun _ _ _ h => h) (Or.inl ⟨by rfl, ?_⟩) (by assumption) ?_
              rotate_left
              · (intro w hSw; (try dsimp only at hSw); go_simp; try with_reducible rfl)
              try simp only [List.getElem_toArray, List.getElem_cons_zero, List.getElem_cons_succ, Act.put, List.setIfInBounds_toArray, List.set_cons_zero, List.set_cons_succ]
              refine wpAnyH_take (i := 5) (v := ?_) rfl (by kernel_rfl) (by kernel_rfl) (by kernel_rfl) (fun _ _ _ h => h) (Or.inl ⟨by rfl, ?_⟩) (by assumption) ?_
              rotate_left
              · (intro w hSw; (try dsimp only at hSw); go_simp; try with_reducible rfl)
              try simp only [List.getElem_toArray, List.getElem_cons_zero, List.getElem_cons_succ, Act.put, List.setIfInBounds_toArray, List.set_cons_zero, List.set_cons_succ]
              refine wpAnyH_take (i := 6) (v := ?_) rfl (by kernel_rfl) (by kernel_rfl) (by kernel_rfl) (fun _ _ _ h => h) (Or.inl ⟨by rfl, ?_⟩) (by assumption) ?_
              rotate_left
              · (intro w hSw; (try dsimp only at hSw); go_simp; try with_reducible rfl)
              try simp only [List.getElem_toArray, List.getElem_cons_zero, List.getElem_cons_succ, Act.put, List.setIfInBounds_toArray, List.set_cons_zero, List.set_cons_succ]
              refine wpAnyH_take (i := 7) (v := ?_) rfl (by kernel_rfl) (by kernel_rfl) (by kernel_rfl) (fun _ _ _ h => h) (Or.inl ⟨by rfl, ?_⟩) (by assumption) ?_
              rotate_left
              · (intro w hSw; (try dsimp only at hSw); go_simp; try with_reducible rfl)
              try simp only [List.getElem_toArray, List.getElem_cons_zero, List.getElem_cons_succ, Act.put, List.setIfInBounds_toArray, List.set_cons_zero, List.set_cons_succ]
              refine wpAnyH_take (i := 8) (v := ?_) rfl (by kernel_rfl) (by kernel_rfl) (by kernel_rfl) (fun _ _ _ h => h) (Or.inl ⟨by rfl, ?_⟩) (by assumption) ?_
              rotate_left
              · (intro w hSw; (try dsimp only at hSw); go_simp; try with_reducible rfl)
              try simp only [List.getElem_toArray, List.getElem_cons_zero, List.getElem_cons_succ, Act.put, List.setIfInBounds_toArray, List.set_cons_zero, List.set_cons_succ]
              refine wpAnyH_take (i := 9) (v := ?_) rfl (by kernel_rfl) (by kernel_rfl) (by kernel_rfl) (fun _ _ _ h => h) (Or.inl ⟨by rfl, ?_⟩) (by assumption) ?_
              rotate_left
              · (intro w hSw; (try dsimp only at hSw); go_simp; try with_reducible rfl)
              try simp only [List.getElem_toArray, List.getElem_cons_zero, List.getElem_cons_succ, Act.put, List.setIfInBounds_toArray, List.set_cons_zero, List.set_cons_succ]
              refine wpAnyH_take (i := 10) (v := ?_) rfl (by kernel_rfl) (by kernel_rfl) (by kernel_rfl) (fun _ _ _ h => h) (Or.inl ⟨by rfl, ?_⟩) (by assumption) ?_
              rotate_left
              · (intro w hSw; (try dsimp only at hSw); go_simp; try with_reducible rfl)
              try simp only [List.getElem_toArray, List.getElem_cons_zero, List.getElem_cons_succ, Act.put, List.setIfInBounds_toArray, List.set_cons_zero, List.set_cons_succ]
              refine wpAnyH_take (i := 11) (v := ?_) rfl (by kernel_rfl) (by kernel_rfl) (by kernel_rfl) (fun _ _ _ h => h) (Or.inl ⟨by rfl, ?_⟩) (by assumption) ?_
              rotate_left
              · (intro w hSw; (try dsimp only at hSw); go_simp; try with_reducible rfl)
              try simp only [List.getElem_toArray, List.getElem_cons_zero, List.getElem_cons_succ, Act.put, List.setIfInBounds_toArray, List.set_cons_zero, List.set_cons_succ]
              refine wpAnyH_take (i := 12) (v := ?_) rfl (by kernel_rfl) (by kernel_rfl) (by kernel_rfl) (fun _ _ _ h => h) (Or.inl ⟨by rfl, ?_⟩) (by assumption) ?_
              rotate_left
              · (intro w hSw; (try dsimp only at hSw); go_simp; try with_reducible rfl)
              try simp only [List.getElem_toArray, List.getElem_cons_zero, List.getElem_cons_succ, Act.put, List.setIfInBounds_toArray, List.set_cons_zero, List.set_cons_succ]
              refine wpAnyH_take (i := 13) (v := ?_) rfl (by kernel_rfl) (by kernel_rfl) (by kernel_rfl) (fun _ _ _ h => h) (Or.inl ⟨by rfl, ?_⟩) (by assumption) ?_
              rotate_left
              · (intro w hSw; (try dsimp only at hSw); go_simp; try with_reducible rfl)
              try simp only [List.getElem_toArray, List.getElem_cons_zero, List.getElem_cons_succ, Act.put, List.setIfInBounds_toArray, List.set_cons_zero, List.set_cons_succ]
              refine wpAnyH_take (i := 14) (v := .agg #[.map (some (w.heap.size + 1)), .int .i64 most]) rfl (by kernel_rfl) (by kernel_rfl) (by kernel_rfl) (fun _ _ _ h => h) (yields_loadR (by rfl) 59 _ rfl W1.heap.size rfl 59 _ _ (fun _ h => h.2.2.1) Try.underlying59 rfl size59) (by assumption) ?_
              try simp only [List.getElem_toArray, List.getElem_cons_zero, List.getElem_cons_succ, Act.put, List.setIfInBounds_toArray, List.set_cons_zero, List.set_cons_succ]
              refine wpAnyH_take (i := 15) (v := ?_) rfl (by kernel_rfl) (by kernel_rfl) (by kernel_rfl) (fun _ _ _ h => h) (Or.inl ⟨by rfl, ?_⟩) (by assumption) ?_
              rotate_left
              · (intro w hSw; (try dsimp only at hSw); go_simp; try with_reducible rfl)
              try simp only [List.getElem_toArray, List.getElem_cons_zero, List.getElem_cons_succ, Act.put, List.setIfInBounds_toArray, List.set_cons_zero, List.set_cons_succ]
              refine wpAnyH_take (i := 16) (v := ?_) rfl (by kernel_rfl) (by kernel_rfl) (by kernel_rfl) (fun _ _ _ h => h) (Or.inl ⟨by rfl, ?_⟩) (by assumption) ?_
              rotate_left
              · (intro w hSw; (try dsimp only at hSw); go_simp; try with_reducible rfl)
              try simp only [List.getElem_toArray, List.getElem_cons_zero, List.getElem_cons_succ, Act.put, List.setIfInBounds_toArray, List.set_cons_zero, List.set_cons_succ]
              refine wpAnyH_ready (rs := [17]) (by kernel_rfl) (by simp) ?_
              refine AllReadyH.cons (o := _) rfl (fun K hK => ?_) AllReadyH.nil
              go_simp
              refine (take_any (w.heap.size + 1) H' most ov _ (HK2.out.more (Below.refl _ _).drew).pool).mono ?_
              rintro e W2 ⟨rfl, hp2, hf2⟩
              have HK3 : Hid (Look w W2 (w.heap.size + 1) W1.heap.size most (takeH H' most ov)) := (HK2.out.more (Below.refl _ _).drew).took hf2 hp2
              have hS2 : W2.cell? ⟨wr.heap.size, 0, none⟩ = some (.string on) ∧ W2.cell? ⟨wr.heap.size, 1, none⟩ = some (.int .i64 ov) ∧ W2.heap[W1.heap.size]? = some (.cells #[.map (some (w.heap.size + 1)), .int .i64 most] 59 (0, 0)) ∧ W2.cell? ⟨b, off + m * 2, none⟩ = some (.string q) := ⟨(hf2.cell (by simp) (by omega)).trans HS0.out.1, (hf2.cell (by simp) (by omega)).trans HS0.out.2.1, HK3.out.box, (hf2.cell (by simp; omega) (by omega)).trans HS0.out.2.2.2⟩
              clear hp2 hf2
              go_wp2_with fail
              refine hK.out _ _ hS2 (fun hHeld2 => ?_)
              clear hK K hHeld
              have hHeld := hHeld2
              clear hHeld2 hS2
              try simp only [List.getElem_toArray, List.getElem_cons_zero, List.getElem_cons_succ, Act.put, List.setIfInBounds_toArray, List.set_cons_zero, List.set_cons_succ]
              cases htk : takeB H' most ov
              · have HR : Hid ((accR most M 2).isSome = false) := by show _ = _; rw [accR_none (i := j + 1) (by rw [← HSTEP.out]; exact step_no (by rw [HOV.out, htk]; simp)) (by omega)]; rfl
                refine wpAnyH_take (i := 18) (v := ?_) rfl (by kernel_rfl) (by kernel_rfl) (by kernel_rfl) (fun _ _ _ h => h) (Or.inl ⟨by rfl, ?_⟩) (by assumption) ?_
                rotate_left
                · (intro w hSw; (try dsimp only at hSw); go_simp; try with_reducible rfl)
                try simp only [List.getElem_toArray, List.getElem_cons_zero, List.getElem_cons_succ, Act.put, List.setIfInBounds_toArray, List.set_cons_zero, List.set_cons_succ]
                refine wpAnyH_take (i := 19) (v := ?_) rfl (by kernel_rfl) (by kernel_rfl) (by kernel_rfl) (fun _ _ _ h => h) (Or.inl ⟨by rfl, ?_⟩) (by assumption) ?_
                rotate_left
                · (intro w hSw; (try dsimp only at hSw); go_simp; try with_reducible rfl)
                try simp only [List.getElem_toArray, List.getElem_cons_zero, List.getElem_cons_succ, Act.put, List.setIfInBounds_toArray, List.set_cons_zero, List.set_cons_succ]
                refine wpAnyH_done (by kernel_rfl) ?_ _
                go_wp2
                go_ret
                exact ⟨by rw [HR.out]; rfl, HK3.out.bel⟩
              · have HST : Hid (step most (takeH H' most ov) (prevK (M j) ((m + 1) + 1)) ((M j).drop ((m + 1) + 1)) = accR most M (j + 1)) := by
                  show _ = _
                  have q1 : notUp (prevK (M j) (m + 1)) o.n = false := by rw [HON.out]; exact HUP.out
                  have q2 : takeB H' most o.v = true := by rw [HOV.out]; exact htk
                  rw [← HSTEP.out, step_yes q1 q2, HPV.out, HON.out, HOV.out]
                  unfold takeH; rw [htk]; rfl
                refine wpAnyH_take (i := 18) (v := ?_) rfl (by kernel_rfl) (by kernel_rfl) (by kernel_rfl) (fun _ _ _ h => h) (Or.inl ⟨by rfl, ?_⟩) (by assumption) ?_
                rotate_left
                · (intro w hSw; (try dsimp only at hSw); go_simp; try with_reducible rfl)
                try simp only [List.getElem_toArray, List.getElem_cons_zero, List.getElem_cons_succ, Act.put, List.setIfInBounds_toArray, List.set_cons_zero, List.set_cons_succ]
                refine wpAnyH_take (i := 19) (v := ?_) rfl (by kernel_rfl) (by kernel_rfl) (by kernel_rfl) (fun _ _ _ h => h) (Or.inl ⟨by rfl, ?_⟩) (by assumption) ?_
                rotate_left
                · (intro w hSw; (try dsimp only at hSw); go_simp; try with_reducible rfl)
                try simp only [List.getElem_toArray, List.getElem_cons_zero, List.getElem_cons_succ, Act.put, List.setIfInBounds_toArray, List.set_cons_zero, List.set_cons_succ]
                refine wpAnyH_done (by kernel_rfl) ?_ _
                go_wp2
                go_roundw
                case rel => exact ⟨(m + 1) + 1, takeH H' most ov, by omega, by first | rfl | go_num, HST, HK3⟩
                case measure => simp [intOf]; omega
        · obtain rfl : k = n := by omega
          have HD : Hid (accR most M (j + 1) = some H') := by show _ = _; rw [← hst.out, List.drop_of_length_le (by omega)]; rfl
          go_wp2_with fail
          go_roundw
          case rel => exact ⟨j + 1, H', by omega, by go_num, HD, hlk⟩
          case measure => simp [intOf]; omega
    · obtain rfl : j = 2 := by omega
      have HF : Hid ((accR most M 2).isSome = true) := by show _ = _; rw [hH.out]; rfl
      go_wp2
      go_ret
      exact ⟨by rw [HF.out]; rfl, hk.out.bel⟩
end Go.Proofs.Ythejehbhjkmeeaa
