/- What MacText of package eth answers: the text of an address. Condition: a number of 64 bits. -/
import Derived.Test.YtkianiglibkbhaaDoorPair

namespace Go.Proofs.YtkianiglibkbhaaDoor
open Go.RowKit

def pairOf (b : Int) : List Int := [hx (b / 16), hx (b % 16)]
/-- The parts of an address's text behind the first. -/
def macTail (mac : Int) : Nat → List Int
  | 0 => []
  | k + 1 => 58 :: (pairOf (mac / 2 ^ (8 * k) % 256) ++ macTail mac k)
def macText (mac : Int) : List Int := pairOf (mac / 1099511627776 % 256) ++ macTail mac 5

theorem pair_bd (b : Int) (h : 0 ≤ b ∧ b ≤ 255) : ∀ i, 0 ≤ (pairOf b).getD i 0 ∧ (pairOf b).getD i 0 ≤ 255 := fits_two (hx_bd _ (by omega) (by omega)) (hx_bd _ (by omega) (by omega))
theorem tail_bd (mac : Int) (k : Nat) : ∀ i, 0 ≤ (macTail mac k).getD i 0 ∧ (macTail mac k).getD i 0 ≤ 255 := by
  induction k with
  | zero => intro i; simp [macTail]
  | succ k ih =>
    intro i
    match i with
    | 0 => simp [macTail]
    | i + 1 => simpa [macTail] using fits_append (pair_bd (mac / 2 ^ (8 * k) % 256) (by omega)) ih i
theorem tail_len (mac : Int) (k : Nat) : (macTail mac k).length = 3 * k := by
  induction k with
  | zero => rfl
  | succ k ih => simp [macTail, pairOf, ih]; omega
theorem text_bd (mac : Int) : ∀ i, 0 ≤ (macText mac).getD i 0 ∧ (macText mac).getD i 0 ≤ 255 := fits_append (pair_bd _ (by omega)) (tail_bd mac 5)
theorem text_len (mac : Int) : (macText mac).length = 17 := by simp [macText, pairOf, tail_len]

theorem Enc.bs {w0 W : World} {p : Nat} {xs : List Int} (h : Enc w0 W p xs) (hf : ∀ i, 0 ≤ xs.getD i 0 ∧ xs.getD i 0 ≤ 255) (hr : xs.length ≤ 140737488355328) : ∃ a cap, W.cell? ⟨p, 0, none⟩ = some (.slice a xs.length cap) ∧ BS W a xs.length xs := by
  obtain ⟨a, cap, hc, ho⟩ := h.row
  exact ⟨a, cap, cell_of_one hc, own_bs ho hf hr⟩

set_option maxHeartbeats 2000000 in
theorem macText_any (mac : Int) (_hm : 0 ≤ mac ∧ mac ≤ 18446744073709551615) (w : World) :
    Calls Tryd.prog 11 #[.int .u64 mac] w fun e w' => e = .returned (.string (strOfNums (macText mac))) ∧ Below w.heap.size w w' := by
  have hmk : ∀ w, (Instr.makeSlice 42 (.int .i64 0) (.int .i64 17)).run Tryd.prog w = .ok (.slice (some ⟨w.heap.size, 0, none⟩) 0 17) (w.alloc (.cells #[.int .u8 0, .int .u8 0, .int .u8 0, .int .u8 0, .int .u8 0, .int .u8 0, .int .u8 0, .int .u8 0, .int .u8 0, .int .u8 0, .int .u8 0, .int .u8 0, .int .u8 0, .int .u8 0, .int .u8 0, .int .u8 0, .int .u8 0] 5)) := fun _ => by kernel_rfl
  obtain ⟨i0, hi, hz0, hz1, hz2⟩ := info_parts info5
  go_enter Tryd.func11, Tryd.ntmps11
  go_wp2_with fail
  have he := enc_start w #[.int .u8 0, .int .u8 0, .int .u8 0, .int .u8 0, .int .u8 0, .int .u8 0, .int .u8 0, .int .u8 0, .int .u8 0, .int .u8 0, .int .u8 0, .int .u8 0, .int .u8 0, .int .u8 0, .int .u8 0, .int .u8 0, .int .u8 0] 17 (w.heap.size + 1) w.heap.size rfl rfl rfl (by omega)
  refine (putPair_any w _ _ _ he (by simp) (mac / 1099511627776 % 256) (by omega)).mono ?_
  clear he hmk
  rintro e W1 ⟨rfl, h1⟩
  have E1 : Hid (Enc w W1 (w.heap.size + 1) (pairOf (mac / 1099511627776 % 256))) := h1
  clear h1
  go_wp2
  go_loopw [5] (fun i wr => ∃ (k : Nat) (xs : List Int), k ≤ 5 ∧ ((k = 0 ∧ i = .int .i64 (-8)) ∨ ∃ r : Nat, k = r + 1 ∧ i = .int .i64 (8 * (r : Int))) ∧ Hid (xs ++ macTail mac k = macText mac) ∧ Hid (Enc w wr (w.heap.size + 1) xs)) (fun i _ => (intOf i + 8).toNat)
  case atStart => exact ⟨5, pairOf (mac / 1099511627776 % 256), by omega, .inr ⟨4, rfl, rfl⟩, rfl, E1.out⟩
  case round =>
    obtain ⟨k, xs, hk, hcase, hxs, he⟩ := hrel
    rcases hcase with ⟨rfl, rfl⟩ | ⟨r, rfl, rfl⟩
    · have hx' : xs = macText mac := by have := hxs.out; simpa [macTail] using this
      subst hx'
      obtain ⟨a, cap, hc, hb⟩ := he.out.bs (text_bd mac) (by rw [text_len]; omega)
      have hcv : (convert 42 9 (.slice a (macText mac).length cap)).run Tryd.prog wr = .ok (.string (strOfNums (macText mac))) wr := run_conv_bs _ hb 42 9 5 Tryd.underlying42 Tryd.underlying5 Tryd.underlying9
      clear hb
      go_wp2
      go_ret
      exact ⟨rfl, he.out.bel⟩
    · have hlen : Hid (xs.length ≤ 17) := by
        have := congrArg List.length hxs.out
        rw [List.length_append, text_len] at this
        show _ ≤ _; omega
      obtain ⟨a, cap, hc, ho⟩ := he.out.row
      have hc0 := cell_of_one hc
      have hf0 := free_of_one hc
      have HC : Hid _ := hc
      have HO : Hid (wr.ownsRow w.heap.size 5 1 (.slice a xs.length cap) xs.length (xs.map (Value.int .u8))) := ho
      have HB : Hid _ := he.out.bel
      have hr4 : (r : Int) ≤ 4 := by omega
      have hlt : Hid (w.heap.size + 1 < wr.heap.size) := lt_of_block hc
      clear hc ho he
      go_wp2_with (at_builtin; refine wpList_append_bs ?_ (.tmp 17) (.tmp 18) 42 ?_ w.heap.size 5 i0 Tryd.underlying42 hi hz0 hz1 hz2 (.slice a xs.length cap) xs.length xs ?_ (HO.out.alloc _) (some ⟨wr.heap.size, 0, none⟩) 1 1 [58] ?_ (bs_one wr 58 _ rfl (by omega)) ?_ ?_ ?_; rfl; rfl; rfl; rfl; (have := hlen.out; omega); (have := HB.out.size; simp; omega); intro a3 c3 W3 o3 g3; have hc3 : W3.heap[w.heap.size + 1]? = some (.cells #[.slice a xs.length cap] 42 (0, 0)) := (g3.block _ (by have := hlt.out; simp; omega) (fun e => row_apart HO.out HC.out e.symm)).trans ((Below.heap_alloc wr _ _ hlt.out).trans HC.out); have hc3' := cell_of_one hc3; have hf3 := free_of_one hc3)
      have o3' : W3.ownsRow w.heap.size 5 1 (.slice a3 (xs ++ [58]).length c3) (xs ++ [58]).length ((xs ++ [58]).map (Value.int .u8)) := by simpa using o3
      have E3 : Hid (Enc w (W3.setCell ⟨w.heap.size + 1, 0, none⟩ (.slice a3 (xs.length + 1) c3)) (w.heap.size + 1) (xs ++ [58])) := by
        refine ⟨?_, by omega, a3, c3, ?_, ?_⟩
        · exact ((HB.out.alloc HB.out.size _).grown g3 (by have := HB.out.size; simp; omega) (fun k hk => (World.ownsRow.lt HO.out k hk).1)).setCell (by simp) _
        · rw [one_setCell hc3]; simp
        · exact ownsRow_setCell_other o3' (row_apart o3' hc3) _
      clear o3 o3' g3 hc3 hc3' hf3 hc0 hf0 HC HO HB hi hz0 hz1 hz2
      refine (putPair_any w _ _ _ E3.out (by have := hlen.out; simp; omega) (mac / 2 ^ (8 * r) % 256) (by omega)).mono ?_
      clear E3
      rintro e W4 ⟨rfl, h4⟩
      have E4 : Hid _ := h4
      clear h4
      go_wp2
      go_roundw
      case rel =>
        refine ⟨r, xs ++ [58] ++ pairOf (mac / 2 ^ (8 * r) % 256), by omega, ?_, ?_, E4.out⟩
        · by_cases hr0 : r = 0
          · subst hr0; exact .inl ⟨rfl, rfl⟩
          · exact .inr ⟨r - 1, by omega, by congr 1; omega⟩
        · show _ = _
          rw [← hxs.out]; simp [macTail]
      case measure => simp [intOf]; omega
end Go.Proofs.YtkianiglibkbhaaDoor
