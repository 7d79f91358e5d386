/- The document's texts of addresses, and that they are read back. No condition. -/
import Derived.Test.YtajjffjnnjklnaaDoorMC
import Derived.ProofKit
import Derived.ShutString
import Derived.ChangeOld
import Derived.SizedLaws
import Derived.Deep.RegionHeld3
import Derived.Deep.DrawnRows
namespace Go.Proofs.YtajjffjnnjklnaaDoor
open Go.RowKit
set_option linter.unusedSimpArgs false
set_option maxRecDepth 20000
def hx (k : Int) : Int := if k < 10 then 48 + k else 87 + k
theorem hx_bd (k : Int) (h0 : 0 ≤ k) (h1 : k ≤ 15) : 0 ≤ hx k ∧ hx k ≤ 255 := by unfold hx; split <;> omega

theorem bs_pair (w : World) (x y : Int) (B : Nat) (hB : B = w.heap.size) (hx : 0 ≤ x ∧ x ≤ 255) (hy : 0 ≤ y ∧ y ≤ 255) :
    BS (w.alloc (.cells #[.int .u8 x, .int .u8 y] 5)) (some ⟨B, 0, none⟩) 2 [x, y] := by
  refine bs_new 5 w _ [x, y] 2 B hB rfl rfl ?_ (by omega)
  simp [hx, hy]

def pairOf (b : Int) : List Int := [hx (b / 16), hx (b % 16)]
/-- The parts of an address's text behind the first. -/
def macTail (mac : Int) : Nat → List Int
  | 0 => []
  | k + 1 => 58 :: (pairOf (mac / 2 ^ (8 * k) % 256) ++ macTail mac k)
def macText (mac : Int) : List Int := pairOf (mac / 1099511627776 % 256) ++ macTail mac 5

theorem pair_bd (b : Int) (h : 0 ≤ b ∧ b ≤ 255) : ∀ i, 0 ≤ (pairOf b).getD i 0 ∧ (pairOf b).getD i 0 ≤ 255 := fits_two (hx_bd _ (by omega) (by omega)) (hx_bd _ (by omega) (by omega))
theorem tail_bd (mac : Int) (k : Nat) : ∀ i, 0 ≤ (macTail mac k).getD i 0 ∧ (macTail mac k).getD i 0 ≤ 255 := by
  induction k with
  | zero => intro i; simp [macTail]
  | succ k ih =>
    intro i
    match i with
    | 0 => simp [macTail]
    | i + 1 => simpa [macTail] using fits_append (pair_bd (mac / 2 ^ (8 * k) % 256) (by omega)) ih i
theorem tail_len (mac : Int) (k : Nat) : (macTail mac k).length = 3 * k := by
  induction k with
  | zero => rfl
  | succ k ih => simp [macTail, pairOf, ih]; omega
theorem text_bd (mac : Int) : ∀ i, 0 ≤ (macText mac).getD i 0 ∧ (macText mac).getD i 0 ≤ 255 := fits_append (pair_bd _ (by omega)) (tail_bd mac 5)
theorem text_len (mac : Int) : (macText mac).length = 17 := by simp [macText, pairOf, tail_len]

/-- The text behind j rounds. -/
def macPre (mac : Int) : Nat → List Int
  | 0 => []
  | j + 1 => macPre mac j ++ pairOf (mac / 2 ^ (8 * (5 - j)) % 256) ++ (if j < 5 then [58] else [])
theorem macPre_all (mac : Int) : macPre mac 6 = macText mac := by
  simp [macPre, macText, macTail]
theorem str_app (a b : List Int) : strOfNums a ++ strOfNums b = strOfNums (a ++ b) := by
  apply ByteArray.ext
  simp [strOfNums, ByteArray.data_append]
theorem hex_dite (K : Int) (h0 : 0 ≤ K) (h1 : K ≤ 15) (w : World) (R : Result Value) :
    ((if _h : 0 ≤ K ∧ K < 16 then Result.ok (Value.int IntKind.u8 (({ data := #[48, 49, 50, 51, 52, 53, 54, 55, 56, 57, 97, 98, 99, 100, 101, 102] } : ByteArray)[K.toNat]'(by show K.toNat < 16; omega)).toNat) w else R).andThen fun a w' => Result.ok (Next.value a) w') = Result.ok (Next.value (Value.int IntKind.u8 (hx K))) w := by
  rcases (show K = 0 ∨ K = 1 ∨ K = 2 ∨ K = 3 ∨ K = 4 ∨ K = 5 ∨ K = 6 ∨ K = 7 ∨ K = 8 ∨ K = 9 ∨ K = 10 ∨ K = 11 ∨ K = 12 ∨ K = 13 ∨ K = 14 ∨ K = 15 from by omega) with rfl | rfl | rfl | rfl | rfl | rfl | rfl | rfl | rfl | rfl | rfl | rfl | rfl | rfl | rfl | rfl <;> rfl
set_option maxHeartbeats 1000000 in
theorem rmacText_any (mac : Int) (_hm : 0 ≤ mac ∧ mac ≤ 18446744073709551615) (w : World) :
    Calls Tryd.prog 18 #[.int .u64 mac] w fun e w' => e = .returned (.string (strOfNums (macText mac))) ∧ Below w.heap.size w w' := by
  go_enter Tryd.func18, Tryd.ntmps18
  go_wp2_with fail
  go_loopw [3, 4] (fun s i wr => ∃ j : Nat, j ≤ 6 ∧ i = .int .i64 (5 - (j : Int)) ∧ s = .string (strOfNums (macPre mac j)) ∧ Hid (Below w.heap.size w wr)) (fun _ i _ => (intOf i + 1).toNat)
  case atStart => exact ⟨0, by omega, rfl, rfl, Below.refl _ _⟩
  case round =>
    obtain ⟨j, hj, rfl, rfl, HB⟩ := hrel
    rcases (by omega : j = 0 ∨ j = 1 ∨ j = 2 ∨ j = 3 ∨ j = 4 ∨ j = 5 ∨ j = 6) with rfl | rfl | rfl | rfl | rfl | rfl | rfl
    · have hB : 0 ≤ mac / 2 ^ (8 * (5 - 0)) % 256 ∧ mac / 2 ^ (8 * (5 - 0)) % 256 ≤ 255 := by omega
      have hpow : mac / 2 ^ (8 * (5 - 0)) % 256 = mac / 1099511627776 % 256 := by simp
      go_wp2_with fail
      generalize mac / 1099511627776 % 256 = B at *
      have hq : IntKind.u8.wrap (B.tdiv 16) = B / 16 := by
        rw [Int.tdiv_eq_ediv_of_nonneg (by omega), IntKind.wrap_u8]; omega
      have hr : B.tmod 16 = B % 16 := Int.tmod_eq_emod_of_nonneg (by omega)
      refine wp_region_held_drew (S := (fun _ => True)) (by kernel_rfl) trivial (fun hHeld => ?_)
      refine wpAnyH_take (i := 0) (v := ?_) rfl (by kernel_rfl) (by kernel_rfl) (by kernel_rfl) (fun _ _ _ h => h) (Or.inl ⟨by rfl, ?_⟩) (by assumption) ?_
      rotate_left
      · (intro w hSw; (try dsimp only at hSw); go_simp; try with_reducible rfl)
      try simp only [List.getElem_toArray, List.getElem_cons_zero, List.getElem_cons_succ, Act.put, List.setIfInBounds_toArray, List.set_cons_zero, List.set_cons_succ]
      refine wpAnyH_take (i := 1) (v := ?_) rfl (by kernel_rfl) (by kernel_rfl) (by kernel_rfl) (fun _ _ _ h => h) (Or.inl ⟨by rfl, ?_⟩) (by assumption) ?_
      rotate_left
      · (intro w hSw; (try dsimp only at hSw); go_simp; try with_reducible rfl)
      try simp only [List.getElem_toArray, List.getElem_cons_zero, List.getElem_cons_succ, Act.put, List.setIfInBounds_toArray, List.set_cons_zero, List.set_cons_succ]
      refine wpAnyH_take (i := 2) (v := ?_) rfl (by kernel_rfl) (by kernel_rfl) (by kernel_rfl) (fun _ _ _ h => h) (Or.inl ⟨by rfl, ?_⟩) (by assumption) ?_
      rotate_left
      · (intro w hSw; (try dsimp only at hSw); go_simp; try with_reducible rfl)
      try simp only [List.getElem_toArray, List.getElem_cons_zero, List.getElem_cons_succ, Act.put, List.setIfInBounds_toArray, List.set_cons_zero, List.set_cons_succ]
      refine wpAnyH_take (i := 3) (v := .int .u8 (hx (B / 16))) rfl (by kernel_rfl) (by kernel_rfl) (by kernel_rfl) (fun _ _ _ h => h) (Or.inl ⟨by rfl, fun W _ => by go_simp; exact hex_dite (B / 16) (by omega) (by omega) _ _⟩) (by assumption) ?_
      try simp only [List.getElem_toArray, List.getElem_cons_zero, List.getElem_cons_succ, Act.put, List.setIfInBounds_toArray, List.set_cons_zero, List.set_cons_succ]
      refine wpAnyH_take (i := 4) (v := ?_) rfl (by kernel_rfl) (by kernel_rfl) (by kernel_rfl) (fun _ _ _ h => h) (Or.inl ⟨by rfl, ?_⟩) (by assumption) ?_
      rotate_left
      · (intro w hSw; (try dsimp only at hSw); go_simp; try with_reducible rfl)
      try simp only [List.getElem_toArray, List.getElem_cons_zero, List.getElem_cons_succ, Act.put, List.setIfInBounds_toArray, List.set_cons_zero, List.set_cons_succ]
      refine wpAnyH_take (i := 5) (v := ?_) rfl (by kernel_rfl) (by kernel_rfl) (by kernel_rfl) (fun _ _ _ h => h) (Or.inl ⟨by rfl, ?_⟩) (by assumption) ?_
      rotate_left
      · (intro w hSw; (try dsimp only at hSw); go_simp; try with_reducible rfl)
      try simp only [List.getElem_toArray, List.getElem_cons_zero, List.getElem_cons_succ, Act.put, List.setIfInBounds_toArray, List.set_cons_zero, List.set_cons_succ]
      refine wpAnyH_take (i := 6) (v := .int .u8 (hx (B % 16))) rfl (by kernel_rfl) (by kernel_rfl) (by kernel_rfl) (fun _ _ _ h => h) (Or.inl ⟨by rfl, fun W _ => by go_simp; exact hex_dite (B % 16) (by omega) (by omega) _ _⟩) (by assumption) ?_
      try simp only [List.getElem_toArray, List.getElem_cons_zero, List.getElem_cons_succ, Act.put, List.setIfInBounds_toArray, List.set_cons_zero, List.set_cons_succ]
      refine wpAnyH_ready (rs := [7]) (by kernel_rfl) (by simp) ?_
      refine AllReadyH.cons (o := _) rfl (fun K hK => ?_) AllReadyH.nil
      go_simp
      have b1 := hx_bd (B / 16) (by omega) (by omega)
      have b2 := hx_bd (B % 16) (by omega) (by omega)
      have hcv : Hid ((convert 47 9 (.slice (some ⟨wr.heap.size, 0, none⟩) 2 2)).run Tryd.prog (wr.alloc (.cells #[.int .u8 (hx (B / 16)), .int .u8 (hx (B % 16))] 5)).drew = .ok (.string (strOfNums [hx (B / 16), hx (B % 16)])) (wr.alloc (.cells #[.int .u8 (hx (B / 16)), .int .u8 (hx (B % 16))] 5)).drew) := run_conv_bs _ (bs_pair wr _ _ _ rfl b1 b2).drew 47 9 5 Tryd.underlying47 Tryd.underlying5 Tryd.underlying9
      refine hK _ _ trivial (fun hHeld2 => ?_)
      try simp only [List.getElem_toArray, List.getElem_cons_zero, List.getElem_cons_succ, Act.put, List.setIfInBounds_toArray, List.set_cons_zero, List.set_cons_succ]
      refine wpAnyH_ready (rs := [8]) (by kernel_rfl) (by simp) ?_
      refine AllReadyH.cons (o := _) rfl (fun K hK => ?_) AllReadyH.nil
      have hcv := hcv.out
      go_simp
      refine hK _ _ trivial (fun hHeld3 => ?_)
      try simp only [List.getElem_toArray, List.getElem_cons_zero, List.getElem_cons_succ, Act.put, List.setIfInBounds_toArray, List.set_cons_zero, List.set_cons_succ]
      refine wpAnyH_ready (rs := [9]) (by kernel_rfl) (by simp) ?_
      refine AllReadyH.cons (o := _) rfl (fun K hK => ?_) AllReadyH.nil
      go_simp
      refine hK _ _ trivial (fun hHeld4 => ?_)
      try simp only [List.getElem_toArray, List.getElem_cons_zero, List.getElem_cons_succ, Act.put, List.setIfInBounds_toArray, List.set_cons_zero, List.set_cons_succ]
      refine wpAnyH_ready (rs := [10]) (by kernel_rfl) (by simp) ?_
      refine AllReadyH.cons (o := _) rfl (fun K hK => ?_) AllReadyH.nil
      go_simp
      refine hK _ _ trivial (fun hHeld5 => ?_)
      refine wpAnyH_done (by kernel_rfl) ?_ _
      try simp only [List.getElem_toArray, List.getElem_cons_zero, List.getElem_cons_succ, Act.put, List.setIfInBounds_toArray, List.set_cons_zero, List.set_cons_succ]
      have HB2 : Hid (Below w.heap.size w (wr.alloc (.cells #[.int .u8 (hx (B / 16)), .int .u8 (hx (B % 16))] 5)).drew) := (HB.out.alloc HB.out.size _).drew
      generalize (wr.alloc (.cells #[.int .u8 (hx (B / 16)), .int .u8 (hx (B % 16))] 5)).drew = W2 at *
      clear hcv
      rw [str_app]
      go_wp2
      refine ⟨⟨1, by omega, rfl, ?_, HB2⟩, by decide⟩
      rw [show macPre mac 1 = macPre mac 0 ++ [hx (B / 16), hx (B % 16)] ++ [58] from by rw [← hpow]; rfl, ← str_app]
      rfl
    · have hB : 0 ≤ mac / 2 ^ (8 * (5 - 1)) % 256 ∧ mac / 2 ^ (8 * (5 - 1)) % 256 ≤ 255 := by omega
      have hpow : mac / 2 ^ (8 * (5 - 1)) % 256 = mac / 4294967296 % 256 := by simp
      go_wp2_with fail
      generalize mac / 4294967296 % 256 = B at *
      have hq : IntKind.u8.wrap (B.tdiv 16) = B / 16 := by
        rw [Int.tdiv_eq_ediv_of_nonneg (by omega), IntKind.wrap_u8]; omega
      have hr : B.tmod 16 = B % 16 := Int.tmod_eq_emod_of_nonneg (by omega)
      refine wp_region_held_drew (S := (fun _ => True)) (by kernel_rfl) trivial (fun hHeld => ?_)
      refine wpAnyH_take (i := 0) (v := ?_) rfl (by kernel_rfl) (by kernel_rfl) (by kernel_rfl) (fun _ _ _ h => h) (Or.inl ⟨by rfl, ?_⟩) (by assumption) ?_
      rotate_left
      · (intro w hSw; (try dsimp only at hSw); go_simp; try with_reducible rfl)
      try simp only [List.getElem_toArray, List.getElem_cons_zero, List.getElem_cons_succ, Act.put, List.setIfInBounds_toArray, List.set_cons_zero, List.set_cons_succ]
      refine wpAnyH_take (i := 1) (v := ?_) rfl (by kernel_rfl) (by kernel_rfl) (by kernel_rfl) (fun _ _ _ h => h) (Or.inl ⟨by rfl, ?_⟩) (by assumption) ?_
      rotate_left
      · (intro w hSw; (try dsimp only at hSw); go_simp; try with_reducible rfl)
      try simp only [List.getElem_toArray, List.getElem_cons_zero, List.getElem_cons_succ, Act.put, List.setIfInBounds_toArray, List.set_cons_zero, List.set_cons_succ]
      refine wpAnyH_take (i := 2) (v := ?_) rfl (by kernel_rfl) (by kernel_rfl) (by kernel_rfl) (fun _ _ _ h => h) (Or.inl ⟨by rfl, ?_⟩) (by assumption) ?_
      rotate_left
      · (intro w hSw; (try dsimp only at hSw); go_simp; try with_reducible rfl)
      try simp only [List.getElem_toArray, List.getElem_cons_zero, List.getElem_cons_succ, Act.put, List.setIfInBounds_toArray, List.set_cons_zero, List.set_cons_succ]
      refine wpAnyH_take (i := 3) (v := .int .u8 (hx (B / 16))) rfl (by kernel_rfl) (by kernel_rfl) (by kernel_rfl) (fun _ _ _ h => h) (Or.inl ⟨by rfl, fun W _ => by go_simp; exact hex_dite (B / 16) (by omega) (by omega) _ _⟩) (by assumption) ?_
      try simp only [List.getElem_toArray, List.getElem_cons_zero, List.getElem_cons_succ, Act.put, List.setIfInBounds_toArray, List.set_cons_zero, List.set_cons_succ]
      refine wpAnyH_take (i := 4) (v := ?_) rfl (by kernel_rfl) (by kernel_rfl) (by kernel_rfl) (fun _ _ _ h => h) (Or.inl ⟨by rfl, ?_⟩) (by assumption) ?_
      rotate_left
      · (intro w hSw; (try dsimp only at hSw); go_simp; try with_reducible rfl)
      try simp only [List.getElem_toArray, List.getElem_cons_zero, List.getElem_cons_succ, Act.put, List.setIfInBounds_toArray, List.set_cons_zero, List.set_cons_succ]
      refine wpAnyH_take (i := 5) (v := ?_) rfl (by kernel_rfl) (by kernel_rfl) (by kernel_rfl) (fun _ _ _ h => h) (Or.inl ⟨by rfl, ?_⟩) (by assumption) ?_
      rotate_left
      · (intro w hSw; (try dsimp only at hSw); go_simp; try with_reducible rfl)
      try simp only [List.getElem_toArray, List.getElem_cons_zero, List.getElem_cons_succ, Act.put, List.setIfInBounds_toArray, List.set_cons_zero, List.set_cons_succ]
      refine wpAnyH_take (i := 6) (v := .int .u8 (hx (B % 16))) rfl (by kernel_rfl) (by kernel_rfl) (by kernel_rfl) (fun _ _ _ h => h) (Or.inl ⟨by rfl, fun W _ => by go_simp; exact hex_dite (B % 16) (by omega) (by omega) _ _⟩) (by assumption) ?_
      try simp only [List.getElem_toArray, List.getElem_cons_zero, List.getElem_cons_succ, Act.put, List.setIfInBounds_toArray, List.set_cons_zero, List.set_cons_succ]
      refine wpAnyH_ready (rs := [7]) (by kernel_rfl) (by simp) ?_
      refine AllReadyH.cons (o := _) rfl (fun K hK => ?_) AllReadyH.nil
      go_simp
      have b1 := hx_bd (B / 16) (by omega) (by omega)
      have b2 := hx_bd (B % 16) (by omega) (by omega)
      have hcv : Hid ((convert 47 9 (.slice (some ⟨wr.heap.size, 0, none⟩) 2 2)).run Tryd.prog (wr.alloc (.cells #[.int .u8 (hx (B / 16)), .int .u8 (hx (B % 16))] 5)).drew = .ok (.string (strOfNums [hx (B / 16), hx (B % 16)])) (wr.alloc (.cells #[.int .u8 (hx (B / 16)), .int .u8 (hx (B % 16))] 5)).drew) := run_conv_bs _ (bs_pair wr _ _ _ rfl b1 b2).drew 47 9 5 Tryd.underlying47 Tryd.underlying5 Tryd.underlying9
      refine hK _ _ trivial (fun hHeld2 => ?_)
      try simp only [List.getElem_toArray, List.getElem_cons_zero, List.getElem_cons_succ, Act.put, List.setIfInBounds_toArray, List.set_cons_zero, List.set_cons_succ]
      refine wpAnyH_ready (rs := [8]) (by kernel_rfl) (by simp) ?_
      refine AllReadyH.cons (o := _) rfl (fun K hK => ?_) AllReadyH.nil
      have hcv := hcv.out
      go_simp
      refine hK _ _ trivial (fun hHeld3 => ?_)
      try simp only [List.getElem_toArray, List.getElem_cons_zero, List.getElem_cons_succ, Act.put, List.setIfInBounds_toArray, List.set_cons_zero, List.set_cons_succ]
      refine wpAnyH_ready (rs := [9]) (by kernel_rfl) (by simp) ?_
      refine AllReadyH.cons (o := _) rfl (fun K hK => ?_) AllReadyH.nil
      go_simp
      refine hK _ _ trivial (fun hHeld4 => ?_)
      try simp only [List.getElem_toArray, List.getElem_cons_zero, List.getElem_cons_succ, Act.put, List.setIfInBounds_toArray, List.set_cons_zero, List.set_cons_succ]
      refine wpAnyH_ready (rs := [10]) (by kernel_rfl) (by simp) ?_
      refine AllReadyH.cons (o := _) rfl (fun K hK => ?_) AllReadyH.nil
      go_simp
      refine hK _ _ trivial (fun hHeld5 => ?_)
      refine wpAnyH_done (by kernel_rfl) ?_ _
      try simp only [List.getElem_toArray, List.getElem_cons_zero, List.getElem_cons_succ, Act.put, List.setIfInBounds_toArray, List.set_cons_zero, List.set_cons_succ]
      have HB2 : Hid (Below w.heap.size w (wr.alloc (.cells #[.int .u8 (hx (B / 16)), .int .u8 (hx (B % 16))] 5)).drew) := (HB.out.alloc HB.out.size _).drew
      generalize (wr.alloc (.cells #[.int .u8 (hx (B / 16)), .int .u8 (hx (B % 16))] 5)).drew = W2 at *
      clear hcv
      rw [str_app]
      go_wp2
      refine ⟨⟨2, by omega, rfl, ?_, HB2⟩, by decide⟩
      rw [show macPre mac 2 = macPre mac 1 ++ [hx (B / 16), hx (B % 16)] ++ [58] from by rw [← hpow]; rfl, ← str_app]
      rfl
    · have hB : 0 ≤ mac / 2 ^ (8 * (5 - 2)) % 256 ∧ mac / 2 ^ (8 * (5 - 2)) % 256 ≤ 255 := by omega
      have hpow : mac / 2 ^ (8 * (5 - 2)) % 256 = mac / 16777216 % 256 := by simp
      go_wp2_with fail
      generalize mac / 16777216 % 256 = B at *
      have hq : IntKind.u8.wrap (B.tdiv 16) = B / 16 := by
        rw [Int.tdiv_eq_ediv_of_nonneg (by omega), IntKind.wrap_u8]; omega
      have hr : B.tmod 16 = B % 16 := Int.tmod_eq_emod_of_nonneg (by omega)
      refine wp_region_held_drew (S := (fun _ => True)) (by kernel_rfl) trivial (fun hHeld => ?_)
      refine wpAnyH_take (i := 0) (v := ?_) rfl (by kernel_rfl) (by kernel_rfl) (by kernel_rfl) (fun _ _ _ h => h) (Or.inl ⟨by rfl, ?_⟩) (by assumption) ?_
      rotate_left
      · (intro w hSw; (try dsimp only at hSw); go_simp; try with_reducible rfl)
      try simp only [List.getElem_toArray, List.getElem_cons_zero, List.getElem_cons_succ, Act.put, List.setIfInBounds_toArray, List.set_cons_zero, List.set_cons_succ]
      refine wpAnyH_take (i := 1) (v := ?_) rfl (by kernel_rfl) (by kernel_rfl) (by kernel_rfl) (fun _ _ _ h => h) (Or.inl ⟨by rfl, ?_⟩) (by assumption) ?_
      rotate_left
      · (intro w hSw; (try dsimp only at hSw); go_simp; try with_reducible rfl)
      try simp only [List.getElem_toArray, List.getElem_cons_zero, List.getElem_cons_succ, Act.put, List.setIfInBounds_toArray, List.set_cons_zero, List.set_cons_succ]
      refine wpAnyH_take (i := 2) (v := ?_) rfl (by kernel_rfl) (by kernel_rfl) (by kernel_rfl) (fun _ _ _ h => h) (Or.inl ⟨by rfl, ?_⟩) (by assumption) ?_
      rotate_left
      · (intro w hSw; (try dsimp only at hSw); go_simp; try with_reducible rfl)
      try simp only [List.getElem_toArray, List.getElem_cons_zero, List.getElem_cons_succ, Act.put, List.setIfInBounds_toArray, List.set_cons_zero, List.set_cons_succ]
      refine wpAnyH_take (i := 3) (v := .int .u8 (hx (B / 16))) rfl (by kernel_rfl) (by kernel_rfl) (by kernel_rfl) (fun _ _ _ h => h) (Or.inl ⟨by rfl, fun W _ => by go_simp; exact hex_dite (B / 16) (by omega) (by omega) _ _⟩) (by assumption) ?_
      try simp only [List.getElem_toArray, List.getElem_cons_zero, List.getElem_cons_succ, Act.put, List.setIfInBounds_toArray, List.set_cons_zero, List.set_cons_succ]
      refine wpAnyH_take (i := 4) (v := ?_) rfl (by kernel_rfl) (by kernel_rfl) (by kernel_rfl) (fun _ _ _ h => h) (Or.inl ⟨by rfl, ?_⟩) (by assumption) ?_
      rotate_left
      · (intro w hSw; (try dsimp only at hSw); go_simp; try with_reducible rfl)
      try simp only [List.getElem_toArray, List.getElem_cons_zero, List.getElem_cons_succ, Act.put, List.setIfInBounds_toArray, List.set_cons_zero, List.set_cons_succ]
      refine wpAnyH_take (i := 5) (v := ?_) rfl (by kernel_rfl) (by kernel_rfl) (by kernel_rfl) (fun _ _ _ h => h) (Or.inl ⟨by rfl, ?_⟩) (by assumption) ?_
      rotate_left
      · (intro w hSw; (try dsimp only at hSw); go_simp; try with_reducible rfl)
      try simp only [List.getElem_toArray, List.getElem_cons_zero, List.getElem_cons_succ, Act.put, List.setIfInBounds_toArray, List.set_cons_zero, List.set_cons_succ]
      refine wpAnyH_take (i := 6) (v := .int .u8 (hx (B % 16))) rfl (by kernel_rfl) (by kernel_rfl) (by kernel_rfl) (fun _ _ _ h => h) (Or.inl ⟨by rfl, fun W _ => by go_simp; exact hex_dite (B % 16) (by omega) (by omega) _ _⟩) (by assumption) ?_
      try simp only [List.getElem_toArray, List.getElem_cons_zero, List.getElem_cons_succ, Act.put, List.setIfInBounds_toArray, List.set_cons_zero, List.set_cons_succ]
      refine wpAnyH_ready (rs := [7]) (by kernel_rfl) (by simp) ?_
      refine AllReadyH.cons (o := _) rfl (fun K hK => ?_) AllReadyH.nil
      go_simp
      have b1 := hx_bd (B / 16) (by omega) (by omega)
      have b2 := hx_bd (B % 16) (by omega) (by omega)
      have hcv : Hid ((convert 47 9 (.slice (some ⟨wr.heap.size, 0, none⟩) 2 2)).run Tryd.prog (wr.alloc (.cells #[.int .u8 (hx (B / 16)), .int .u8 (hx (B % 16))] 5)).drew = .ok (.string (strOfNums [hx (B / 16), hx (B % 16)])) (wr.alloc (.cells #[.int .u8 (hx (B / 16)), .int .u8 (hx (B % 16))] 5)).drew) := run_conv_bs _ (bs_pair wr _ _ _ rfl b1 b2).drew 47 9 5 Tryd.underlying47 Tryd.underlying5 Tryd.underlying9
      refine hK _ _ trivial (fun hHeld2 => ?_)
      try simp only [List.getElem_toArray, List.getElem_cons_zero, List.getElem_cons_succ, Act.put, List.setIfInBounds_toArray, List.set_cons_zero, List.set_cons_succ]
      refine wpAnyH_ready (rs := [8]) (by kernel_rfl) (by simp) ?_
      refine AllReadyH.cons (o := _) rfl (fun K hK => ?_) AllReadyH.nil
      have hcv := hcv.out
      go_simp
      refine hK _ _ trivial (fun hHeld3 => ?_)
      try simp only [List.getElem_toArray, List.getElem_cons_zero, List.getElem_cons_succ, Act.put, List.setIfInBounds_toArray, List.set_cons_zero, List.set_cons_succ]
      refine wpAnyH_ready (rs := [9]) (by kernel_rfl) (by simp) ?_
      refine AllReadyH.cons (o := _) rfl (fun K hK => ?_) AllReadyH.nil
      go_simp
      refine hK _ _ trivial (fun hHeld4 => ?_)
      try simp only [List.getElem_toArray, List.getElem_cons_zero, List.getElem_cons_succ, Act.put, List.setIfInBounds_toArray, List.set_cons_zero, List.set_cons_succ]
      refine wpAnyH_ready (rs := [10]) (by kernel_rfl) (by simp) ?_
      refine AllReadyH.cons (o := _) rfl (fun K hK => ?_) AllReadyH.nil
      go_simp
      refine hK _ _ trivial (fun hHeld5 => ?_)
      refine wpAnyH_done (by kernel_rfl) ?_ _
      try simp only [List.getElem_toArray, List.getElem_cons_zero, List.getElem_cons_succ, Act.put, List.setIfInBounds_toArray, List.set_cons_zero, List.set_cons_succ]
      have HB2 : Hid (Below w.heap.size w (wr.alloc (.cells #[.int .u8 (hx (B / 16)), .int .u8 (hx (B % 16))] 5)).drew) := (HB.out.alloc HB.out.size _).drew
      generalize (wr.alloc (.cells #[.int .u8 (hx (B / 16)), .int .u8 (hx (B % 16))] 5)).drew = W2 at *
      clear hcv
      rw [str_app]
      go_wp2
      refine ⟨⟨3, by omega, rfl, ?_, HB2⟩, by decide⟩
      rw [show macPre mac 3 = macPre mac 2 ++ [hx (B / 16), hx (B % 16)] ++ [58] from by rw [← hpow]; rfl, ← str_app]
      rfl
    · have hB : 0 ≤ mac / 2 ^ (8 * (5 - 3)) % 256 ∧ mac / 2 ^ (8 * (5 - 3)) % 256 ≤ 255 := by omega
      have hpow : mac / 2 ^ (8 * (5 - 3)) % 256 = mac / 65536 % 256 := by simp
      go_wp2_with fail
      generalize mac / 65536 % 256 = B at *
      have hq : IntKind.u8.wrap (B.tdiv 16) = B / 16 := by
        rw [Int.tdiv_eq_ediv_of_nonneg (by omega), IntKind.wrap_u8]; omega
      have hr : B.tmod 16 = B % 16 := Int.tmod_eq_emod_of_nonneg (by omega)
      refine wp_region_held_drew (S := (fun _ => True)) (by kernel_rfl) trivial (fun hHeld => ?_)
      refine wpAnyH_take (i := 0) (v := ?_) rfl (by kernel_rfl) (by kernel_rfl) (by kernel_rfl) (fun _ _ _ h => h) (Or.inl ⟨by rfl, ?_⟩) (by assumption) ?_
      rotate_left
      · (intro w hSw; (try dsimp only at hSw); go_simp; try with_reducible rfl)
      try simp only [List.getElem_toArray, List.getElem_cons_zero, List.getElem_cons_succ, Act.put, List.setIfInBounds_toArray, List.set_cons_zero, List.set_cons_succ]
      refine wpAnyH_take (i := 1) (v := ?_) rfl (by kernel_rfl) (by kernel_rfl) (by kernel_rfl) (fun _ _ _ h => h) (Or.inl ⟨by rfl, ?_⟩) (by assumption) ?_
      rotate_left
      · (intro w hSw; (try dsimp only at hSw); go_simp; try with_reducible rfl)
      try simp only [List.getElem_toArray, List.getElem_cons_zero, List.getElem_cons_succ, Act.put, List.setIfInBounds_toArray, List.set_cons_zero, List.set_cons_succ]
      refine wpAnyH_take (i := 2) (v := ?_) rfl (by kernel_rfl) (by kernel_rfl) (by kernel_rfl) (fun _ _ _ h => h) (Or.inl ⟨by rfl, ?_⟩) (by assumption) ?_
      rotate_left
      · (intro w hSw; (try dsimp only at hSw); go_simp; try with_reducible rfl)
      try simp only [List.getElem_toArray, List.getElem_cons_zero, List.getElem_cons_succ, Act.put, List.setIfInBounds_toArray, List.set_cons_zero, List.set_cons_succ]
      refine wpAnyH_take (i := 3) (v := .int .u8 (hx (B / 16))) rfl (by kernel_rfl) (by kernel_rfl) (by kernel_rfl) (fun _ _ _ h => h) (Or.inl ⟨by rfl, fun W _ => by go_simp; exact hex_dite (B / 16) (by omega) (by omega) _ _⟩) (by assumption) ?_
      try simp only [List.getElem_toArray, List.getElem_cons_zero, List.getElem_cons_succ, Act.put, List.setIfInBounds_toArray, List.set_cons_zero, List.set_cons_succ]
      refine wpAnyH_take (i := 4) (v := ?_) rfl (by kernel_rfl) (by kernel_rfl) (by kernel_rfl) (fun _ _ _ h => h) (Or.inl ⟨by rfl, ?_⟩) (by assumption) ?_
      rotate_left
      · (intro w hSw; (try dsimp only at hSw); go_simp; try with_reducible rfl)
      try simp only [List.getElem_toArray, List.getElem_cons_zero, List.getElem_cons_succ, Act.put, List.setIfInBounds_toArray, List.set_cons_zero, List.set_cons_succ]
      refine wpAnyH_take (i := 5) (v := ?_) rfl (by kernel_rfl) (by kernel_rfl) (by kernel_rfl) (fun _ _ _ h => h) (Or.inl ⟨by rfl, ?_⟩) (by assumption) ?_
      rotate_left
      · (intro w hSw; (try dsimp only at hSw); go_simp; try with_reducible rfl)
      try simp only [List.getElem_toArray, List.getElem_cons_zero, List.getElem_cons_succ, Act.put, List.setIfInBounds_toArray, List.set_cons_zero, List.set_cons_succ]
      refine wpAnyH_take (i := 6) (v := .int .u8 (hx (B % 16))) rfl (by kernel_rfl) (by kernel_rfl) (by kernel_rfl) (fun _ _ _ h => h) (Or.inl ⟨by rfl, fun W _ => by go_simp; exact hex_dite (B % 16) (by omega) (by omega) _ _⟩) (by assumption) ?_
      try simp only [List.getElem_toArray, List.getElem_cons_zero, List.getElem_cons_succ, Act.put, List.setIfInBounds_toArray, List.set_cons_zero, List.set_cons_succ]
      refine wpAnyH_ready (rs := [7]) (by kernel_rfl) (by simp) ?_
      refine AllReadyH.cons (o := _) rfl (fun K hK => ?_) AllReadyH.nil
      go_simp
      have b1 := hx_bd (B / 16) (by omega) (by omega)
      have b2 := hx_bd (B % 16) (by omega) (by omega)
      have hcv : Hid ((convert 47 9 (.slice (some ⟨wr.heap.size, 0, none⟩) 2 2)).run Tryd.prog (wr.alloc (.cells #[.int .u8 (hx (B / 16)), .int .u8 (hx (B % 16))] 5)).drew = .ok (.string (strOfNums [hx (B / 16), hx (B % 16)])) (wr.alloc (.cells #[.int .u8 (hx (B / 16)), .int .u8 (hx (B % 16))] 5)).drew) := run_conv_bs _ (bs_pair wr _ _ _ rfl b1 b2).drew 47 9 5 Tryd.underlying47 Tryd.underlying5 Tryd.underlying9
      refine hK _ _ trivial (fun hHeld2 => ?_)
      try simp only [List.getElem_toArray, List.getElem_cons_zero, List.getElem_cons_succ, Act.put, List.setIfInBounds_toArray, List.set_cons_zero, List.set_cons_succ]
      refine wpAnyH_ready (rs := [8]) (by kernel_rfl) (by simp) ?_
      refine AllReadyH.cons (o := _) rfl (fun K hK => ?_) AllReadyH.nil
      have hcv := hcv.out
      go_simp
      refine hK _ _ trivial (fun hHeld3 => ?_)
      try simp only [List.getElem_toArray, List.getElem_cons_zero, List.getElem_cons_succ, Act.put, List.setIfInBounds_toArray, List.set_cons_zero, List.set_cons_succ]
      refine wpAnyH_ready (rs := [9]) (by kernel_rfl) (by simp) ?_
      refine AllReadyH.cons (o := _) rfl (fun K hK => ?_) AllReadyH.nil
      go_simp
      refine hK _ _ trivial (fun hHeld4 => ?_)
      try simp only [List.getElem_toArray, List.getElem_cons_zero, List.getElem_cons_succ, Act.put, List.setIfInBounds_toArray, List.set_cons_zero, List.set_cons_succ]
      refine wpAnyH_ready (rs := [10]) (by kernel_rfl) (by simp) ?_
      refine AllReadyH.cons (o := _) rfl (fun K hK => ?_) AllReadyH.nil
      go_simp
      refine hK _ _ trivial (fun hHeld5 => ?_)
      refine wpAnyH_done (by kernel_rfl) ?_ _
      try simp only [List.getElem_toArray, List.getElem_cons_zero, List.getElem_cons_succ, Act.put, List.setIfInBounds_toArray, List.set_cons_zero, List.set_cons_succ]
      have HB2 : Hid (Below w.heap.size w (wr.alloc (.cells #[.int .u8 (hx (B / 16)), .int .u8 (hx (B % 16))] 5)).drew) := (HB.out.alloc HB.out.size _).drew
      generalize (wr.alloc (.cells #[.int .u8 (hx (B / 16)), .int .u8 (hx (B % 16))] 5)).drew = W2 at *
      clear hcv
      rw [str_app]
      go_wp2
      refine ⟨⟨4, by omega, rfl, ?_, HB2⟩, by decide⟩
      rw [show macPre mac 4 = macPre mac 3 ++ [hx (B / 16), hx (B % 16)] ++ [58] from by rw [← hpow]; rfl, ← str_app]
      rfl
    · have hB : 0 ≤ mac / 2 ^ (8 * (5 - 4)) % 256 ∧ mac / 2 ^ (8 * (5 - 4)) % 256 ≤ 255 := by omega
      have hpow : mac / 2 ^ (8 * (5 - 4)) % 256 = mac / 256 % 256 := by simp
      go_wp2_with fail
      generalize mac / 256 % 256 = B at *
      have hq : IntKind.u8.wrap (B.tdiv 16) = B / 16 := by
        rw [Int.tdiv_eq_ediv_of_nonneg (by omega), IntKind.wrap_u8]; omega
      have hr : B.tmod 16 = B % 16 := Int.tmod_eq_emod_of_nonneg (by omega)
      refine wp_region_held_drew (S := (fun _ => True)) (by kernel_rfl) trivial (fun hHeld => ?_)
      refine wpAnyH_take (i := 0) (v := ?_) rfl (by kernel_rfl) (by kernel_rfl) (by kernel_rfl) (fun _ _ _ h => h) (Or.inl ⟨by rfl, ?_⟩) (by assumption) ?_
      rotate_left
      · (intro w hSw; (try dsimp only at hSw); go_simp; try with_reducible rfl)
      try simp only [List.getElem_toArray, List.getElem_cons_zero, List.getElem_cons_succ, Act.put, List.setIfInBounds_toArray, List.set_cons_zero, List.set_cons_succ]
      refine wpAnyH_take (i := 1) (v := ?_) rfl (by kernel_rfl) (by kernel_rfl) (by kernel_rfl) (fun _ _ _ h => h) (Or.inl ⟨by rfl, ?_⟩) (by assumption) ?_
      rotate_left
      · (intro w hSw; (try dsimp only at hSw); go_simp; try with_reducible rfl)
      try simp only [List.getElem_toArray, List.getElem_cons_zero, List.getElem_cons_succ, Act.put, List.setIfInBounds_toArray, List.set_cons_zero, List.set_cons_succ]
      refine wpAnyH_take (i := 2) (v := ?_) rfl (by kernel_rfl) (by kernel_rfl) (by kernel_rfl) (fun _ _ _ h => h) (Or.inl ⟨by rfl, ?_⟩) (by assumption) ?_
      rotate_left
      · (intro w hSw; (try dsimp only at hSw); go_simp; try with_reducible rfl)
      try simp only [List.getElem_toArray, List.getElem_cons_zero, List.getElem_cons_succ, Act.put, List.setIfInBounds_toArray, List.set_cons_zero, List.set_cons_succ]
      refine wpAnyH_take (i := 3) (v := .int .u8 (hx (B / 16))) rfl (by kernel_rfl) (by kernel_rfl) (by kernel_rfl) (fun _ _ _ h => h) (Or.inl ⟨by rfl, fun W _ => by go_simp; exact hex_dite (B / 16) (by omega) (by omega) _ _⟩) (by assumption) ?_
      try simp only [List.getElem_toArray, List.getElem_cons_zero, List.getElem_cons_succ, Act.put, List.setIfInBounds_toArray, List.set_cons_zero, List.set_cons_succ]
      refine wpAnyH_take (i := 4) (v := ?_) rfl (by kernel_rfl) (by kernel_rfl) (by kernel_rfl) (fun _ _ _ h => h) (Or.inl ⟨by rfl, ?_⟩) (by assumption) ?_
      rotate_left
      · (intro w hSw; (try dsimp only at hSw); go_simp; try with_reducible rfl)
      try simp only [List.getElem_toArray, List.getElem_cons_zero, List.getElem_cons_succ, Act.put, List.setIfInBounds_toArray, List.set_cons_zero, List.set_cons_succ]
      refine wpAnyH_take (i := 5) (v := ?_) rfl (by kernel_rfl) (by kernel_rfl) (by kernel_rfl) (fun _ _ _ h => h) (Or.inl ⟨by rfl, ?_⟩) (by assumption) ?_
      rotate_left
      · (intro w hSw; (try dsimp only at hSw); go_simp; try with_reducible rfl)
      try simp only [List.getElem_toArray, List.getElem_cons_zero, List.getElem_cons_succ, Act.put, List.setIfInBounds_toArray, List.set_cons_zero, List.set_cons_succ]
      refine wpAnyH_take (i := 6) (v := .int .u8 (hx (B % 16))) rfl (by kernel_rfl) (by kernel_rfl) (by kernel_rfl) (fun _ _ _ h => h) (Or.inl ⟨by rfl, fun W _ => by go_simp; exact hex_dite (B % 16) (by omega) (by omega) _ _⟩) (by assumption) ?_
      try simp only [List.getElem_toArray, List.getElem_cons_zero, List.getElem_cons_succ, Act.put, List.setIfInBounds_toArray, List.set_cons_zero, List.set_cons_succ]
      refine wpAnyH_ready (rs := [7]) (by kernel_rfl) (by simp) ?_
      refine AllReadyH.cons (o := _) rfl (fun K hK => ?_) AllReadyH.nil
      go_simp
      have b1 := hx_bd (B / 16) (by omega) (by omega)
      have b2 := hx_bd (B % 16) (by omega) (by omega)
      have hcv : Hid ((convert 47 9 (.slice (some ⟨wr.heap.size, 0, none⟩) 2 2)).run Tryd.prog (wr.alloc (.cells #[.int .u8 (hx (B / 16)), .int .u8 (hx (B % 16))] 5)).drew = .ok (.string (strOfNums [hx (B / 16), hx (B % 16)])) (wr.alloc (.cells #[.int .u8 (hx (B / 16)), .int .u8 (hx (B % 16))] 5)).drew) := run_conv_bs _ (bs_pair wr _ _ _ rfl b1 b2).drew 47 9 5 Tryd.underlying47 Tryd.underlying5 Tryd.underlying9
      refine hK _ _ trivial (fun hHeld2 => ?_)
      try simp only [List.getElem_toArray, List.getElem_cons_zero, List.getElem_cons_succ, Act.put, List.setIfInBounds_toArray, List.set_cons_zero, List.set_cons_succ]
      refine wpAnyH_ready (rs := [8]) (by kernel_rfl) (by simp) ?_
      refine AllReadyH.cons (o := _) rfl (fun K hK => ?_) AllReadyH.nil
      have hcv := hcv.out
      go_simp
      refine hK _ _ trivial (fun hHeld3 => ?_)
      try simp only [List.getElem_toArray, List.getElem_cons_zero, List.getElem_cons_succ, Act.put, List.setIfInBounds_toArray, List.set_cons_zero, List.set_cons_succ]
      refine wpAnyH_ready (rs := [9]) (by kernel_rfl) (by simp) ?_
      refine AllReadyH.cons (o := _) rfl (fun K hK => ?_) AllReadyH.nil
      go_simp
      refine hK _ _ trivial (fun hHeld4 => ?_)
      try simp only [List.getElem_toArray, List.getElem_cons_zero, List.getElem_cons_succ, Act.put, List.setIfInBounds_toArray, List.set_cons_zero, List.set_cons_succ]
      refine wpAnyH_ready (rs := [10]) (by kernel_rfl) (by simp) ?_
      refine AllReadyH.cons (o := _) rfl (fun K hK => ?_) AllReadyH.nil
      go_simp
      refine hK _ _ trivial (fun hHeld5 => ?_)
      refine wpAnyH_done (by kernel_rfl) ?_ _
      try simp only [List.getElem_toArray, List.getElem_cons_zero, List.getElem_cons_succ, Act.put, List.setIfInBounds_toArray, List.set_cons_zero, List.set_cons_succ]
      have HB2 : Hid (Below w.heap.size w (wr.alloc (.cells #[.int .u8 (hx (B / 16)), .int .u8 (hx (B % 16))] 5)).drew) := (HB.out.alloc HB.out.size _).drew
      generalize (wr.alloc (.cells #[.int .u8 (hx (B / 16)), .int .u8 (hx (B % 16))] 5)).drew = W2 at *
      clear hcv
      rw [str_app]
      go_wp2
      refine ⟨⟨5, by omega, rfl, ?_, HB2⟩, by decide⟩
      rw [show macPre mac 5 = macPre mac 4 ++ [hx (B / 16), hx (B % 16)] ++ [58] from by rw [← hpow]; rfl, ← str_app]
      rfl
    · have hB : 0 ≤ mac / 2 ^ (8 * (5 - 5)) % 256 ∧ mac / 2 ^ (8 * (5 - 5)) % 256 ≤ 255 := by omega
      have hpow : mac / 2 ^ (8 * (5 - 5)) % 256 = mac % 256 := by simp
      go_wp2_with fail
      generalize mac % 256 = B at *
      have hq : IntKind.u8.wrap (B.tdiv 16) = B / 16 := by
        rw [Int.tdiv_eq_ediv_of_nonneg (by omega), IntKind.wrap_u8]; omega
      have hr : B.tmod 16 = B % 16 := Int.tmod_eq_emod_of_nonneg (by omega)
      refine wp_region_held_drew (S := (fun _ => True)) (by kernel_rfl) trivial (fun hHeld => ?_)
      refine wpAnyH_take (i := 0) (v := ?_) rfl (by kernel_rfl) (by kernel_rfl) (by kernel_rfl) (fun _ _ _ h => h) (Or.inl ⟨by rfl, ?_⟩) (by assumption) ?_
      rotate_left
      · (intro w hSw; (try dsimp only at hSw); go_simp; try with_reducible rfl)
      try simp only [List.getElem_toArray, List.getElem_cons_zero, List.getElem_cons_succ, Act.put, List.setIfInBounds_toArray, List.set_cons_zero, List.set_cons_succ]
      refine wpAnyH_take (i := 1) (v := ?_) rfl (by kernel_rfl) (by kernel_rfl) (by kernel_rfl) (fun _ _ _ h => h) (Or.inl ⟨by rfl, ?_⟩) (by assumption) ?_
      rotate_left
      · (intro w hSw; (try dsimp only at hSw); go_simp; try with_reducible rfl)
      try simp only [List.getElem_toArray, List.getElem_cons_zero, List.getElem_cons_succ, Act.put, List.setIfInBounds_toArray, List.set_cons_zero, List.set_cons_succ]
      refine wpAnyH_take (i := 2) (v := ?_) rfl (by kernel_rfl) (by kernel_rfl) (by kernel_rfl) (fun _ _ _ h => h) (Or.inl ⟨by rfl, ?_⟩) (by assumption) ?_
      rotate_left
      · (intro w hSw; (try dsimp only at hSw); go_simp; try with_reducible rfl)
      try simp only [List.getElem_toArray, List.getElem_cons_zero, List.getElem_cons_succ, Act.put, List.setIfInBounds_toArray, List.set_cons_zero, List.set_cons_succ]
      refine wpAnyH_take (i := 3) (v := .int .u8 (hx (B / 16))) rfl (by kernel_rfl) (by kernel_rfl) (by kernel_rfl) (fun _ _ _ h => h) (Or.inl ⟨by rfl, fun W _ => by go_simp; exact hex_dite (B / 16) (by omega) (by omega) _ _⟩) (by assumption) ?_
      try simp only [List.getElem_toArray, List.getElem_cons_zero, List.getElem_cons_succ, Act.put, List.setIfInBounds_toArray, List.set_cons_zero, List.set_cons_succ]
      refine wpAnyH_take (i := 4) (v := ?_) rfl (by kernel_rfl) (by kernel_rfl) (by kernel_rfl) (fun _ _ _ h => h) (Or.inl ⟨by rfl, ?_⟩) (by assumption) ?_
      rotate_left
      · (intro w hSw; (try dsimp only at hSw); go_simp; try with_reducible rfl)
      try simp only [List.getElem_toArray, List.getElem_cons_zero, List.getElem_cons_succ, Act.put, List.setIfInBounds_toArray, List.set_cons_zero, List.set_cons_succ]
      refine wpAnyH_take (i := 5) (v := ?_) rfl (by kernel_rfl) (by kernel_rfl) (by kernel_rfl) (fun _ _ _ h => h) (Or.inl ⟨by rfl, ?_⟩) (by assumption) ?_
      rotate_left
      · (intro w hSw; (try dsimp only at hSw); go_simp; try with_reducible rfl)
      try simp only [List.getElem_toArray, List.getElem_cons_zero, List.getElem_cons_succ, Act.put, List.setIfInBounds_toArray, List.set_cons_zero, List.set_cons_succ]
      refine wpAnyH_take (i := 6) (v := .int .u8 (hx (B % 16))) rfl (by kernel_rfl) (by kernel_rfl) (by kernel_rfl) (fun _ _ _ h => h) (Or.inl ⟨by rfl, fun W _ => by go_simp; exact hex_dite (B % 16) (by omega) (by omega) _ _⟩) (by assumption) ?_
      try simp only [List.getElem_toArray, List.getElem_cons_zero, List.getElem_cons_succ, Act.put, List.setIfInBounds_toArray, List.set_cons_zero, List.set_cons_succ]
      refine wpAnyH_ready (rs := [7]) (by kernel_rfl) (by simp) ?_
      refine AllReadyH.cons (o := _) rfl (fun K hK => ?_) AllReadyH.nil
      go_simp
      have b1 := hx_bd (B / 16) (by omega) (by omega)
      have b2 := hx_bd (B % 16) (by omega) (by omega)
      have hcv : Hid ((convert 47 9 (.slice (some ⟨wr.heap.size, 0, none⟩) 2 2)).run Tryd.prog (wr.alloc (.cells #[.int .u8 (hx (B / 16)), .int .u8 (hx (B % 16))] 5)).drew = .ok (.string (strOfNums [hx (B / 16), hx (B % 16)])) (wr.alloc (.cells #[.int .u8 (hx (B / 16)), .int .u8 (hx (B % 16))] 5)).drew) := run_conv_bs _ (bs_pair wr _ _ _ rfl b1 b2).drew 47 9 5 Tryd.underlying47 Tryd.underlying5 Tryd.underlying9
      refine hK _ _ trivial (fun hHeld2 => ?_)
      try simp only [List.getElem_toArray, List.getElem_cons_zero, List.getElem_cons_succ, Act.put, List.setIfInBounds_toArray, List.set_cons_zero, List.set_cons_succ]
      refine wpAnyH_ready (rs := [8]) (by kernel_rfl) (by simp) ?_
      refine AllReadyH.cons (o := _) rfl (fun K hK => ?_) AllReadyH.nil
      have hcv := hcv.out
      go_simp
      refine hK _ _ trivial (fun hHeld3 => ?_)
      try simp only [List.getElem_toArray, List.getElem_cons_zero, List.getElem_cons_succ, Act.put, List.setIfInBounds_toArray, List.set_cons_zero, List.set_cons_succ]
      refine wpAnyH_ready (rs := [9]) (by kernel_rfl) (by simp) ?_
      refine AllReadyH.cons (o := _) rfl (fun K hK => ?_) AllReadyH.nil
      go_simp
      refine hK _ _ trivial (fun hHeld4 => ?_)
      try simp only [List.getElem_toArray, List.getElem_cons_zero, List.getElem_cons_succ, Act.put, List.setIfInBounds_toArray, List.set_cons_zero, List.set_cons_succ]
      refine wpAnyH_ready (rs := [10]) (by kernel_rfl) (by simp) ?_
      refine AllReadyH.cons (o := _) rfl (fun K hK => ?_) AllReadyH.nil
      go_simp
      refine hK _ _ trivial (fun hHeld5 => ?_)
      refine wpAnyH_done (by kernel_rfl) ?_ _
      try simp only [List.getElem_toArray, List.getElem_cons_zero, List.getElem_cons_succ, Act.put, List.setIfInBounds_toArray, List.set_cons_zero, List.set_cons_succ]
      have HB2 : Hid (Below w.heap.size w (wr.alloc (.cells #[.int .u8 (hx (B / 16)), .int .u8 (hx (B % 16))] 5)).drew) := (HB.out.alloc HB.out.size _).drew
      generalize (wr.alloc (.cells #[.int .u8 (hx (B / 16)), .int .u8 (hx (B % 16))] 5)).drew = W2 at *
      clear hcv
      rw [str_app]
      go_wp2
      refine ⟨⟨6, by omega, rfl, ?_, HB2⟩, by decide⟩
      rw [show macPre mac 6 = macPre mac 5 ++ [hx (B / 16), hx (B % 16)] from by rw [← hpow]; simp [macPre, pairOf]]
    · have HE : Hid _ := macPre_all mac
      go_wp2
      go_ret
      exact ⟨by rw [← HE.out]; rfl, HB.out⟩
/-- The decimal digits of a number below 1000. -/
def decs (n : Int) : List Int := if n ≤ 9 then [48 + n] else if n ≤ 99 then [48 + n / 10, 48 + n % 10] else [48 + n / 100, 48 + n / 10 % 10, 48 + n % 10]
/-- The text of an address. -/
def addrText (ip : Int) : List Int := decs (ip / 16777216 % 256) ++ [46] ++ decs (ip / 65536 % 256) ++ [46] ++ decs (ip / 256 % 256) ++ [46] ++ decs (ip / 1 % 256)
theorem str_size (l : List Int) : (strOfNums l).size = l.length := by
  show (strOfNums l).data.size = _
  simp [strOfNums]
theorem decs_len (n : Int) : (decs n).length ≤ 3 := by
  unfold decs
  split
  · simp
  · split <;> simp
theorem decs_size (n : Int) : (strOfNums (decs n)).size ≤ 3 := by rw [str_size]; exact decs_len n
theorem bs_single (w : World) (x : Int) (B : Nat) (hB : B = w.heap.size) (hx : 0 ≤ x ∧ x ≤ 255) :
    BS (w.alloc (.cells #[.int .u8 x] 5)) (some ⟨B, 0, none⟩) 1 [x] := by
  refine bs_new 5 w _ [x] 1 B hB rfl rfl ?_ (by omega)
  simp [hx]
theorem decs_step (n : Int) (h0 : 10 ≤ n) (h1 : n ≤ 255) : decs (n / 10) ++ [48 + n % 10] = decs n := by
  unfold decs
  rcases (by omega : n ≤ 99 ∨ 100 ≤ n) with h | h
  · rw [if_pos (by omega), if_neg (by omega), if_pos h]; rfl
  · rw [if_neg (by omega), if_pos (by omega), if_neg (by omega), if_neg (by omega)]
    simp; omega
theorem conv_one (w : World) (x : Int) (hx : 0 ≤ x ∧ x ≤ 255) : (convert 47 9 (.slice (some ⟨w.heap.size, 0, none⟩) 1 1)).run Tryd.prog (w.alloc (.cells #[.int .u8 x] 5)) = .ok (.string (strOfNums [x])) (w.alloc (.cells #[.int .u8 x] 5)) :=
  run_conv_bs _ (bs_single w x _ rfl hx) 47 9 5 Tryd.underlying47 Tryd.underlying5 Tryd.underlying9
set_option maxHeartbeats 1000000 in
theorem digits_any (n : Int) (h0 : 0 ≤ n) (h1 : n ≤ 255) (w : World) :
    Calls Tryd.prog 29 #[.int .i64 n] w fun e w' => e = .returned (.string (strOfNums (decs n))) ∧ Below w.heap.size w w' := by
  go_enter Tryd.func29, Tryd.ntmps29
  go_wp2_with fail
  go_loopw [0, 3] (fun a s wr => ∃ (k : Int) (l : List Int), 0 ≤ k ∧ k ≤ 255 ∧ l.length ≤ 3 ∧ Hid (decs k ++ l = decs n) ∧ a = .int .i64 k ∧ s = .string (strOfNums l) ∧ Hid (Below w.heap.size w wr)) (fun a _ _ => (intOf a).toNat)
  case atStart => exact ⟨n, [], h0, h1, by simp, List.append_nil _, rfl, rfl, Below.refl _ _⟩
  case round =>
    obtain ⟨k, l, k0, k1, hl, hd, rfl, rfl, HB⟩ := hrel
    have hz : (strOfNums l).size ≤ 3 := by rw [str_size]; exact hl
    rcases (by omega : k ≤ 9 ∨ 10 ≤ k) with hk | hk
    · have e1 : IntKind.u8.wrap (48 + k) = 48 + k := by rw [IntKind.wrap_u8]; omega
      have e2 : wrap64 (48 + k) = 48 + k := by unfold wrap64; omega
      have hcv := conv_one wr (48 + k) (by omega)
      have z1 : (strOfNums [48 + k]).size = 1 := rfl
      go_wp2
      go_ret
      refine ⟨?_, HB.out.alloc HB.out.size _⟩
      rw [str_app, ← hd.out]
      show _ = Ending.returned (Value.string (strOfNums (decs k ++ l)))
      rw [show decs k = [48 + k] from if_pos hk]
      rfl
    · have e0 : k.tmod 10 = k % 10 := Int.tmod_eq_emod_of_nonneg k0
      have e3 : k.tdiv 10 = k / 10 := Int.tdiv_eq_ediv_of_nonneg k0
      have e1 : IntKind.u8.wrap (48 + k % 10) = 48 + k % 10 := by rw [IntKind.wrap_u8]; omega
      have e2 : wrap64 (48 + k % 10) = 48 + k % 10 := by unfold wrap64; omega
      have hcv := conv_one wr (48 + k % 10) (by omega)
      have z1 : (strOfNums [48 + k % 10]).size = 1 := rfl
      have hd2 : Hid (decs (k / 10) ++ ([48 + k % 10] ++ l) = decs n) := by
        have := hd.out
        rw [← decs_step k hk k1] at this
        exact (by simpa using this : decs (k / 10) ++ ([48 + k % 10] ++ l) = decs n)
      have hl2 : ([48 + k % 10] ++ l).length ≤ 3 := by
        have h1 := decs_len n
        rw [← hd2.out, List.length_append] at h1
        omega
      go_wp2
      refine ⟨⟨k / 10, [48 + k % 10] ++ l, by omega, by omega, hl2, hd2, rfl, by rw [str_app], HB.out.alloc HB.out.size _⟩, ?_⟩
      show (k / 10).toNat < k.toNat
      omega
set_option maxHeartbeats 1000000 in
theorem raddrText_any (ip : Int) (hip : 0 ≤ ip ∧ ip ≤ 4294967295) (w : World) :
    Calls Tryd.prog 17 #[.int .u32 ip] w fun e w' => e = .returned (.string (strOfNums (addrText ip))) ∧ Below w.heap.size w w' := by
  have z1 := decs_size (ip / 16777216 % 256)
  have z2 := decs_size (ip / 65536 % 256)
  have z3 := decs_size (ip / 256 % 256)
  have z4 := decs_size (ip % 256)
  have q1 : ip / 16777216 % 256 = ip / 16777216 := by omega
  have e1 : ip.tdiv 16777216 = ip / 16777216 := Int.tdiv_eq_ediv_of_nonneg hip.1
  have e2 : ip.tdiv 65536 = ip / 65536 := Int.tdiv_eq_ediv_of_nonneg hip.1
  have e3 : ip.tdiv 256 = ip / 256 := Int.tdiv_eq_ediv_of_nonneg hip.1
  have e4 : (ip / 65536).tmod 256 = ip / 65536 % 256 := Int.tmod_eq_emod_of_nonneg (by omega)
  have e5 : (ip / 256).tmod 256 = ip / 256 % 256 := Int.tmod_eq_emod_of_nonneg (by omega)
  have e6 : ip.tmod 256 = ip % 256 := Int.tmod_eq_emod_of_nonneg (by omega)
  rw [q1] at z1
  go_enter Tryd.func17, Tryd.ntmps17
  go_wp2_with fail
  refine (digits_any (ip / 16777216) (by omega) (by omega) _).mono ?_
  rintro e w1 ⟨rfl, b1⟩
  have B1 : Hid (Below w.heap.size w w1) := b1
  clear b1
  go_wp2_with fail
  refine (digits_any (ip / 65536 % 256) (by omega) (by omega) _).mono ?_
  rintro e w2 ⟨rfl, b2⟩
  have B2 : Hid (Below w.heap.size w w2) := B1.out.trans (b2.mono (by have := B1.out.size; omega))
  clear b2
  go_wp2_with fail
  refine (digits_any (ip / 256 % 256) (by omega) (by omega) _).mono ?_
  rintro e w3 ⟨rfl, b3⟩
  have B3 : Hid (Below w.heap.size w w3) := B2.out.trans (b3.mono (by have := B2.out.size; omega))
  clear b3
  go_wp2_with fail
  refine (digits_any (ip % 256) (by omega) (by omega) _).mono ?_
  rintro e w4 ⟨rfl, b4⟩
  have B4 : Hid (Below w.heap.size w w4) := B3.out.trans (b4.mono (by have := B3.out.size; omega))
  clear b4
  go_wp2
  go_ret
  refine ⟨?_, B4.out⟩
  have h46 : (⟨#[46]⟩ : ByteArray) = strOfNums [46] := rfl
  rw [h46]
  unfold addrText
  simp only [str_app, Int.ediv_one, q1]
  rfl
theorem byt_str (l : List Int) (i : Nat) (h : 0 ≤ l.getD i 0 ∧ l.getD i 0 ≤ 255) : byt (strOfNums l) i = l.getD i 0 := by
  unfold byt strOfNums
  rw [Array.getD_eq_getD_getElem?, List.getElem?_toArray, List.getElem?_map]
  rw [List.getD_eq_getElem?_getD] at *
  cases e : l[i]? with
  | none => rfl
  | some x =>
    rw [e] at h
    simp only [Option.getD_some, Option.map_some] at h ⊢
    rw [UInt8.toNat_ofNat']
    omega
theorem hexB_hx (k : Int) (h0 : 0 ≤ k) (h1 : k ≤ 15) : hexB (hx k) = true := by
  unfold hexB digB hx
  split
  · simp; omega
  · simp; omega
theorem hexV_hx (k : Int) (h0 : 0 ≤ k) (h1 : k ≤ 15) : hexV (hx k) = k := by
  unfold hexV hx
  split
  · rw [if_pos (by omega)]; omega
  · rw [if_neg (by omega)]; omega
theorem hexG (s : ByteArray) (k n : Nat) (acc x : Int) (hk : k % 3 ≠ 2) (h0 : 0 ≤ x) (h1 : x ≤ 15) (hb : byt s k = hx x) : macFrom s k (n + 1) acc = macFrom s (k + 1) n (acc * 16 + x) := by
  rw [macFrom, if_neg hk, hb, if_pos (hexB_hx x h0 h1), hexV_hx x h0 h1]
theorem colG (s : ByteArray) (k n : Nat) (acc : Int) (hk : k % 3 = 2) (hb : byt s k = 58) : macFrom s k (n + 1) acc = macFrom s (k + 1) n acc := by
  rw [macFrom, if_pos hk, if_pos hb]
theorem mac_back (mac : Int) : macSpec (strOfNums (macText mac)) = some (mac % 281474976710656) := by
  have hlen : (strOfNums (macText mac)).size = 17 := by rw [str_size, text_len]
  have hb : ∀ i, byt (strOfNums (macText mac)) i = (macText mac).getD i 0 := fun i => byt_str _ _ (text_bd mac i)
  unfold macSpec
  rw [if_pos hlen]
  rw [hexG _ 0 16 _ ((mac / 1099511627776 % 256) / 16) (by decide) (by omega) (by omega) ((hb 0).trans rfl)]
  rw [hexG _ 1 15 _ ((mac / 1099511627776 % 256) % 16) (by decide) (by omega) (by omega) ((hb 1).trans rfl)]
  rw [colG _ 2 14 _ (by decide) ((hb 2).trans rfl)]
  rw [hexG _ 3 13 _ ((mac / 2 ^ (8 * 4) % 256) / 16) (by decide) (by omega) (by omega) ((hb 3).trans rfl)]
  rw [hexG _ 4 12 _ ((mac / 2 ^ (8 * 4) % 256) % 16) (by decide) (by omega) (by omega) ((hb 4).trans rfl)]
  rw [colG _ 5 11 _ (by decide) ((hb 5).trans rfl)]
  rw [hexG _ 6 10 _ ((mac / 2 ^ (8 * 3) % 256) / 16) (by decide) (by omega) (by omega) ((hb 6).trans rfl)]
  rw [hexG _ 7 9 _ ((mac / 2 ^ (8 * 3) % 256) % 16) (by decide) (by omega) (by omega) ((hb 7).trans rfl)]
  rw [colG _ 8 8 _ (by decide) ((hb 8).trans rfl)]
  rw [hexG _ 9 7 _ ((mac / 2 ^ (8 * 2) % 256) / 16) (by decide) (by omega) (by omega) ((hb 9).trans rfl)]
  rw [hexG _ 10 6 _ ((mac / 2 ^ (8 * 2) % 256) % 16) (by decide) (by omega) (by omega) ((hb 10).trans rfl)]
  rw [colG _ 11 5 _ (by decide) ((hb 11).trans rfl)]
  rw [hexG _ 12 4 _ ((mac / 2 ^ (8 * 1) % 256) / 16) (by decide) (by omega) (by omega) ((hb 12).trans rfl)]
  rw [hexG _ 13 3 _ ((mac / 2 ^ (8 * 1) % 256) % 16) (by decide) (by omega) (by omega) ((hb 13).trans rfl)]
  rw [colG _ 14 2 _ (by decide) ((hb 14).trans rfl)]
  rw [hexG _ 15 1 _ ((mac / 2 ^ (8 * 0) % 256) / 16) (by decide) (by omega) (by omega) ((hb 15).trans rfl)]
  rw [hexG _ 16 0 _ ((mac / 2 ^ (8 * 0) % 256) % 16) (by decide) (by omega) (by omega) ((hb 16).trans rfl)]
  rw [macFrom]
  congr 1
  omega
theorem digB_d (x : Int) (h0 : 0 ≤ x) (h1 : x ≤ 9) : digB (48 + x) = true := by unfold digB; simp; omega
theorem octStep (s : ByteArray) (k n : Nat) (v x : Int) (hk : k < s.size) (h0 : 0 ≤ x) (h1 : x ≤ 9) (hb : byt s k = 48 + x) : octFrom s k (n + 1) v = octFrom s (k + 1) n (v * 10 + x) := by
  rw [octFrom, if_pos ⟨hk, by rw [hb]; exact digB_d x h0 h1⟩, hb]
  congr 1; omega
theorem octStop (s : ByteArray) (k n : Nat) (v : Int) (h : ¬ k < s.size ∨ byt s k = 46) : octFrom s k (n + 1) v = (v, k) := by
  rw [octFrom, if_neg]
  rintro ⟨h1, h2⟩
  rcases h with h | h
  · exact h h1
  · rw [h] at h2; revert h2; decide
theorem rest_at (l r : List Int) (hr : r = [] ∨ ∃ t, r = 46 :: t) : ¬ l.length < (strOfNums (l ++ r)).size ∨ byt (strOfNums (l ++ r)) l.length = 46 := by
  rcases hr with rfl | ⟨t, rfl⟩
  · left; rw [str_size]; simp
  · right
    have e : (l ++ 46 :: t).getD l.length 0 = 46 := by simp
    rw [byt_str _ _ (by rw [e]; omega), e]
theorem octS_decs (v : Int) (h0 : 0 ≤ v) (h1 : v ≤ 255) (r : List Int) (hr : r = [] ∨ ∃ t, r = 46 :: t) : octS (strOfNums (decs v ++ r)) = (v, (decs v).length) := by
  have hstop := rest_at (decs v) r hr
  have hsz : (decs v).length ≤ (strOfNums (decs v ++ r)).size := by rw [str_size]; simp
  rcases (by omega : v ≤ 9 ∨ (10 ≤ v ∧ v ≤ 99) ∨ 100 ≤ v) with h | h | h
  · have hd : decs v = [48 + v] := if_pos h
    rw [hd] at hstop hsz ⊢
    replace hsz : 1 ≤ (strOfNums ([48 + v] ++ r)).size := hsz
    replace hstop : ¬ 1 < (strOfNums ([48 + v] ++ r)).size ∨ byt (strOfNums ([48 + v] ++ r)) 1 = 46 := hstop
    have b0 : byt (strOfNums ([48 + v] ++ r)) 0 = 48 + v := by rw [byt_str _ _ (by simp; omega)]; simp
    have e : octFrom (strOfNums ([48 + v] ++ r)) 0 3 0 = (v, 1) := by
      rw [octStep _ 0 2 0 v (by omega) h0 h b0, octStop _ 1 1 _ hstop]; simp
    unfold octS
    rw [e, if_neg (by unfold octBad; simp; omega)]
    rfl
  · have hd : decs v = [48 + v / 10, 48 + v % 10] := by unfold decs; rw [if_neg (by omega), if_pos (by omega)]
    rw [hd] at hstop hsz ⊢
    replace hsz : 2 ≤ (strOfNums ([48 + v / 10, 48 + v % 10] ++ r)).size := hsz
    replace hstop : ¬ 2 < (strOfNums ([48 + v / 10, 48 + v % 10] ++ r)).size ∨ byt (strOfNums ([48 + v / 10, 48 + v % 10] ++ r)) 2 = 46 := hstop
    have b0 : byt (strOfNums ([48 + v / 10, 48 + v % 10] ++ r)) 0 = 48 + v / 10 := by rw [byt_str _ _ (by simp; omega)]; simp
    have b1 : byt (strOfNums ([48 + v / 10, 48 + v % 10] ++ r)) 1 = 48 + v % 10 := by rw [byt_str _ _ (by simp; omega)]; simp
    have e : octFrom (strOfNums ([48 + v / 10, 48 + v % 10] ++ r)) 0 3 0 = (v, 2) := by
      rw [octStep _ 0 2 0 (v / 10) (by omega) (by omega) (by omega) b0, octStep _ 1 1 _ (v % 10) (by omega) (by omega) (by omega) b1, octStop _ 2 0 _ hstop]
      congr 1; omega
    unfold octS
    rw [e, if_neg (by unfold octBad; rw [b0]; simp; omega)]
    rfl
  · have hd : decs v = [48 + v / 100, 48 + v / 10 % 10, 48 + v % 10] := by unfold decs; rw [if_neg (by omega), if_neg (by omega)]
    rw [hd] at hsz ⊢
    clear hstop
    replace hsz : 3 ≤ (strOfNums ([48 + v / 100, 48 + v / 10 % 10, 48 + v % 10] ++ r)).size := hsz
    have b0 : byt (strOfNums ([48 + v / 100, 48 + v / 10 % 10, 48 + v % 10] ++ r)) 0 = 48 + v / 100 := by rw [byt_str _ _ (by simp; omega)]; simp
    have b1 : byt (strOfNums ([48 + v / 100, 48 + v / 10 % 10, 48 + v % 10] ++ r)) 1 = 48 + v / 10 % 10 := by rw [byt_str _ _ (by simp; omega)]; simp
    have b2 : byt (strOfNums ([48 + v / 100, 48 + v / 10 % 10, 48 + v % 10] ++ r)) 2 = 48 + v % 10 := by rw [byt_str _ _ (by simp; omega)]; simp
    have e : octFrom (strOfNums ([48 + v / 100, 48 + v / 10 % 10, 48 + v % 10] ++ r)) 0 3 0 = (v, 3) := by
      rw [octStep _ 0 2 0 (v / 100) (by omega) (by omega) (by omega) b0, octStep _ 1 1 _ (v / 10 % 10) (by omega) (by omega) (by omega) b1, octStep _ 2 0 _ (v % 10) (by omega) (by omega) (by omega) b2, octFrom]
      congr 1; omega
    unfold octS
    rw [e, if_neg (by unfold octBad; rw [b0]; simp; omega)]
    rfl
theorem str_extract (l m : List Int) : (strOfNums (l ++ m)).extract l.length (strOfNums (l ++ m)).size = strOfNums m := by
  apply ByteArray.ext
  rw [str_size]
  simp [strOfNums, ByteArray.data_extract]
  exact List.take_of_length_le (by simp)
theorem decs_pos (v : Int) : 0 < (decs v).length := by
  unfold decs; split
  · simp
  · split <;> simp
theorem addr_step (p : List Int) (v : Int) (h0 : 0 ≤ v) (h1 : v ≤ 255) (t : List Int) (n : Nat) (ip : Int) :
    addrFrom (strOfNums (p ++ (decs v ++ 46 :: t))) p.length (n + 2) ip = addrFrom (strOfNums (p ++ (decs v ++ 46 :: t))) (p.length + (decs v).length + 1) (n + 1) (ip * 256 + v) := by
  have hp := decs_pos v
  have hz : (strOfNums (p ++ (decs v ++ 46 :: t))).size = p.length + ((decs v).length + (t.length + 1)) := by rw [str_size]; simp
  have e : (p ++ (decs v ++ 46 :: t)).getD (p.length + (decs v).length) 0 = 46 := by
    rw [← List.append_assoc, ← List.length_append]; simp
  rw [addrFrom, str_extract, octS_decs v h0 h1 _ (Or.inr ⟨t, rfl⟩)]
  simp only []
  rw [if_neg (by omega), if_neg (by omega), if_neg (by omega), byt_str _ _ (by rw [e]; omega), e, if_pos rfl]
theorem addr_last (p : List Int) (v : Int) (h0 : 0 ≤ v) (h1 : v ≤ 255) (ip : Int) :
    addrFrom (strOfNums (p ++ (decs v ++ []))) p.length 1 ip = some (ip * 256 + v) := by
  have hp := decs_pos v
  have hz : (strOfNums (p ++ (decs v ++ []))).size = p.length + (decs v).length := by rw [str_size]; simp
  rw [addrFrom, str_extract, octS_decs v h0 h1 _ (Or.inl rfl)]
  simp only []
  rw [if_neg (by omega), if_pos trivial, if_pos (by omega)]
theorem addr_back (ip : Int) (hip : 0 ≤ ip ∧ ip ≤ 4294967295) : addrSpec (strOfNums (addrText ip)) = some ip := by
  obtain ⟨a, ha⟩ : ∃ a, ip / 16777216 % 256 = a := ⟨_, rfl⟩
  obtain ⟨b, hb⟩ : ∃ b, ip / 65536 % 256 = b := ⟨_, rfl⟩
  obtain ⟨c, hc⟩ : ∃ c, ip / 256 % 256 = c := ⟨_, rfl⟩
  obtain ⟨d, hd⟩ : ∃ d, ip / 1 % 256 = d := ⟨_, rfl⟩
  have hk : (((0 * 256 + a) * 256 + b) * 256 + c) * 256 + d = ip := by omega
  have e0 : addrText ip = [] ++ (decs a ++ 46 :: (decs b ++ 46 :: (decs c ++ 46 :: (decs d ++ [])))) := by
    unfold addrText; rw [ha, hb, hc, hd]; simp
  have e1 : [] ++ (decs a ++ 46 :: (decs b ++ 46 :: (decs c ++ 46 :: (decs d ++ [])))) = (decs a ++ [46]) ++ (decs b ++ 46 :: (decs c ++ 46 :: (decs d ++ []))) := by simp
  have e2 : (decs a ++ [46]) ++ (decs b ++ 46 :: (decs c ++ 46 :: (decs d ++ []))) = (decs a ++ [46] ++ decs b ++ [46]) ++ (decs c ++ 46 :: (decs d ++ [])) := by simp
  have e3 : (decs a ++ [46] ++ decs b ++ [46]) ++ (decs c ++ 46 :: (decs d ++ [])) = (decs a ++ [46] ++ decs b ++ [46] ++ decs c ++ [46]) ++ (decs d ++ []) := by simp
  unfold addrSpec
  rw [e0]
  have s1 := addr_step [] a (by omega) (by omega) (decs b ++ 46 :: (decs c ++ 46 :: (decs d ++ []))) 2 0
  have s2 := addr_step (decs a ++ [46]) b (by omega) (by omega) (decs c ++ 46 :: (decs d ++ [])) 1 (0 * 256 + a)
  have s3 := addr_step (decs a ++ [46] ++ decs b ++ [46]) c (by omega) (by omega) (decs d ++ []) 0 ((0 * 256 + a) * 256 + b)
  have s4 := addr_last (decs a ++ [46] ++ decs b ++ [46] ++ decs c ++ [46]) d (by omega) (by omega) (((0 * 256 + a) * 256 + b) * 256 + c)
  refine s1.trans ?_
  rw [e1]
  have n1 : ([] : List Int).length + (decs a).length + 1 = (decs a ++ [46]).length := by simp
  rw [n1]
  refine s2.trans ?_
  rw [e2]
  have n2 : (decs a ++ [46]).length + (decs b).length + 1 = (decs a ++ [46] ++ decs b ++ [46]).length := by simp; omega
  rw [n2]
  refine s3.trans ?_
  rw [e3]
  have n3 : (decs a ++ [46] ++ decs b ++ [46]).length + (decs c).length + 1 = (decs a ++ [46] ++ decs b ++ [46] ++ decs c ++ [46]).length := by simp; omega
  rw [n3]
  refine s4.trans ?_
  rw [hk]
end Go.Proofs.YtajjffjnnjklnaaDoor
