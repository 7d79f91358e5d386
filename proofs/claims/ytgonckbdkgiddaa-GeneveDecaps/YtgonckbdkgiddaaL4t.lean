/- What read of package l4 answers of TCP. Condition: a slice of at most 2^47 bytes. -/
import Derived.Test.YtgonckbdkgiddaaL4i
namespace Go.Proofs.Ytgonckbdkgiddaa
open Go.RowKit
theorem and4095 (n : Int) : bits .and .i64 n 4095 = n % 4096 := by
  have h : (BitVec.ofInt 64 4095).toNat = 2 ^ 12 - 1 := by decide
  have key : (BitVec.ofInt 64 n &&& BitVec.ofInt 64 4095).toNat = (n % ((2 ^ 64 : Nat) : Int)).toNat % 2 ^ 12 := by
    rw [BitVec.toNat_and, BitVec.toNat_ofInt, h, Nat.and_two_pow_sub_one_eq_mod]
  show IntKind.i64.wrap ((BitVec.ofInt 64 n &&& BitVec.ofInt 64 4095).toNat : Nat) = n % 4096
  rw [key, IntKind.wrap_i64]
  omega
set_option maxHeartbeats 4000000 in
theorem read_tcp (w : World) (b off n cap U : Nat) (zs : List Int) (h : BS w (some ⟨b, off, none⟩) n zs) (hcap : n ≤ cap) (h20 : 20 ≤ U) (hUn : U ≤ n) (hU60 : U ≤ 60) (hU : num ((zs.drop 12).take 2) / 4096 * 4 = (U : Int)) :
    Calls Try.prog 60 #[.int .i64 3, .slice (some ⟨b, off, none⟩) n cap] w fun e w' => e = .returned (.agg #[.int .i64 3, .int .i64 0, .int .i64 0, .int .u32 0, .int .i64 (num ((zs.drop 0).take 2)), .int .i64 (num ((zs.drop 2).take 2)), .bool false, .int .u32 (num ((zs.drop 4).take 4)), .int .u32 (num ((zs.drop 8).take 4)), .int .i64 ((num ((zs.drop 12).take 2)) % 4096), .int .i64 (num ((zs.drop 14).take 2)), .int .i64 (num ((zs.drop 18).take 2)), .string (strOfNums ((zs.drop 20).take (U - 20))), .string (strOfNums (zs.drop U))]) ∧ ∃ A B C D, w' = (((w.alloc A).alloc B).alloc C).alloc D := by
  have hl := h.len
  have h0 : 0 < n := by omega
  have hn8 : (20 : Int) ≤ U := by omega
  have hUI : (U : Int) ≤ n := by omega
  have hU6 : (U : Int) ≤ 60 := by omega
  have hnc : (n : Int) ≤ cap := by omega
  have hr0 := num_bd4 ((h.drop h0 4 (by omega)).take 4 (by omega)) (by omega)
  have hr1 := num_bd4 ((h.drop h0 8 (by omega)).take 4 (by omega)) (by omega)
  have hb0 := num_bd2 ((h.drop h0 12 (by omega)).take 2 (by omega))
  have hand := and4095 (num ((zs.drop 12).take 2))
  have H : Hid (BS ((w.alloc (.cells #[.slice (some ⟨b, off, none⟩) n cap] 26)).alloc (.cells #[.int .i64 0, .int .i64 0, .int .i64 0, .int .u32 0, .int .i64 0, .int .i64 0, .bool false, .int .u32 0, .int .u32 0, .int .i64 0, .int .i64 0, .int .i64 0, .string ⟨#[]⟩, .string ⟨#[]⟩] 48)) (some ⟨b, off, none⟩) n zs) := h.below (below2 w _ _)
  clear h
  rcases (by omega : (¬ cap = 20 ∧ ¬ cap = U) ∨ (¬ cap = 20 ∧ cap = U) ∨ (cap = 20 ∧ cap = U)) with ⟨c1, c2⟩ | ⟨c1, c2⟩ | ⟨c1, c2⟩
  · have cvo : ∀ (hh : Array Value) (t : Int), (convert 26 9 (.slice (some ⟨b, off + 20, none⟩) (U - 20) (cap - 20))).run Try.prog ((((w.alloc (.cells #[.slice (some ⟨b, off, none⟩) n cap] 26)).alloc (.cells #[.int .i64 0, .int .i64 0, .int .i64 0, .int .u32 0, .int .i64 0, .int .i64 0, .bool false, .int .u32 0, .int .u32 0, .int .i64 0, .int .i64 0, .int .i64 0, .string ⟨#[]⟩, .string ⟨#[]⟩] 48)).alloc (.cells hh 48)).alloc (.cells #[.int .i64 t] 3)) = .ok (.string (strOfNums ((zs.drop 20).take (U - 20)))) ((((w.alloc (.cells #[.slice (some ⟨b, off, none⟩) n cap] 26)).alloc (.cells #[.int .i64 0, .int .i64 0, .int .i64 0, .int .u32 0, .int .i64 0, .int .i64 0, .bool false, .int .u32 0, .int .u32 0, .int .i64 0, .int .i64 0, .int .i64 0, .string ⟨#[]⟩, .string ⟨#[]⟩] 48)).alloc (.cells hh 48)).alloc (.cells #[.int .i64 t] 3)) := fun hh t =>
      run_conv_bs _ (((H.out.drop (by omega) 20 (by omega)).take (U - 20) (by omega)).below (below2 _ _ _)) 26 9 5 Try.underlying26 Try.underlying5 Try.underlying9
    have cvd : ∀ (hh : Array Value) (t : Int), (convert 26 9 (.slice (some ⟨b, off + U, none⟩) (n - U) (cap - U))).run Try.prog ((((w.alloc (.cells #[.slice (some ⟨b, off, none⟩) n cap] 26)).alloc (.cells #[.int .i64 0, .int .i64 0, .int .i64 0, .int .u32 0, .int .i64 0, .int .i64 0, .bool false, .int .u32 0, .int .u32 0, .int .i64 0, .int .i64 0, .int .i64 0, .string ⟨#[]⟩, .string ⟨#[]⟩] 48)).alloc (.cells hh 48)).alloc (.cells #[.int .i64 t] 3)) = .ok (.string (strOfNums (zs.drop U))) ((((w.alloc (.cells #[.slice (some ⟨b, off, none⟩) n cap] 26)).alloc (.cells #[.int .i64 0, .int .i64 0, .int .i64 0, .int .u32 0, .int .i64 0, .int .i64 0, .bool false, .int .u32 0, .int .u32 0, .int .i64 0, .int .i64 0, .int .i64 0, .string ⟨#[]⟩, .string ⟨#[]⟩] 48)).alloc (.cells hh 48)).alloc (.cells #[.int .i64 t] 3)) := fun hh t =>
      run_conv_bs _ ((H.out.drop (by omega) U (by omega)).below (below2 _ _ _)) 26 9 5 Try.underlying26 Try.underlying5 Try.underlying9
    go_enter Try.func60, Try.ntmps60
    go_wp2_with (go_at_call 72; refine (take_dec _ _ w.heap.size b off n cap zs H.out (by simp; omega) (by simp [go_sem]) hcap _ _ (by omega) (by omega) (by omega) (by omega) _ (by simp)).mono ?_; rintro e w1 ⟨rfl, rfl⟩)
    refine bodyPost_ret (v := .agg #[.int .i64 3, .int .i64 0, .int .i64 0, .int .u32 0, .int .i64 (num ((zs.drop 0).take 2)), .int .i64 (num ((zs.drop 2).take 2)), .bool false, .int .u32 (num ((zs.drop 4).take 4)), .int .u32 (num ((zs.drop 8).take 4)), .int .i64 ((num ((zs.drop 12).take 2)) % 4096), .int .i64 (num ((zs.drop 14).take 2)), .int .i64 (num ((zs.drop 18).take 2)), .string (strOfNums ((zs.drop 20).take (U - 20))), .string (strOfNums (zs.drop U))]) ?_ rfl ⟨rfl, ?_⟩
    · simp [results, Try.results60, go_sem]
    · exact ⟨_, _, _, _, rfl⟩
  · obtain rfl : n = U := by omega
    subst c2
    have hz : zs.drop cap = [] := List.drop_eq_nil_of_le (by omega)
    rw [hz]
    have cvo : ∀ (hh : Array Value) (t : Int), (convert 26 9 (.slice (some ⟨b, off + 20, none⟩) (cap - 20) (cap - 20))).run Try.prog ((((w.alloc (.cells #[.slice (some ⟨b, off, none⟩) cap cap] 26)).alloc (.cells #[.int .i64 0, .int .i64 0, .int .i64 0, .int .u32 0, .int .i64 0, .int .i64 0, .bool false, .int .u32 0, .int .u32 0, .int .i64 0, .int .i64 0, .int .i64 0, .string ⟨#[]⟩, .string ⟨#[]⟩] 48)).alloc (.cells hh 48)).alloc (.cells #[.int .i64 t] 3)) = .ok (.string (strOfNums ((zs.drop 20).take (cap - 20)))) ((((w.alloc (.cells #[.slice (some ⟨b, off, none⟩) cap cap] 26)).alloc (.cells #[.int .i64 0, .int .i64 0, .int .i64 0, .int .u32 0, .int .i64 0, .int .i64 0, .bool false, .int .u32 0, .int .u32 0, .int .i64 0, .int .i64 0, .int .i64 0, .string ⟨#[]⟩, .string ⟨#[]⟩] 48)).alloc (.cells hh 48)).alloc (.cells #[.int .i64 t] 3)) := fun hh t =>
      run_conv_bs _ (((H.out.drop (by omega) 20 (by omega)).take (cap - 20) (by omega)).below (below2 _ _ _)) 26 9 5 Try.underlying26 Try.underlying5 Try.underlying9
    have cvd : ∀ (hh : Array Value) (t : Int), (convert 26 9 (.slice (some ⟨b, off, none⟩) 0 0)).run Try.prog ((((w.alloc (.cells #[.slice (some ⟨b, off, none⟩) cap cap] 26)).alloc (.cells #[.int .i64 0, .int .i64 0, .int .i64 0, .int .u32 0, .int .i64 0, .int .i64 0, .bool false, .int .u32 0, .int .u32 0, .int .i64 0, .int .i64 0, .int .i64 0, .string ⟨#[]⟩, .string ⟨#[]⟩] 48)).alloc (.cells hh 48)).alloc (.cells #[.int .i64 t] 3)) = .ok (.string (strOfNums [])) ((((w.alloc (.cells #[.slice (some ⟨b, off, none⟩) cap cap] 26)).alloc (.cells #[.int .i64 0, .int .i64 0, .int .i64 0, .int .u32 0, .int .i64 0, .int .i64 0, .bool false, .int .u32 0, .int .u32 0, .int .i64 0, .int .i64 0, .int .i64 0, .string ⟨#[]⟩, .string ⟨#[]⟩] 48)).alloc (.cells hh 48)).alloc (.cells #[.int .i64 t] 3)) := fun hh t =>
      run_conv_bs _ (BS.empty _) 26 9 5 Try.underlying26 Try.underlying5 Try.underlying9
    go_enter Try.func60, Try.ntmps60
    go_wp2_with (go_at_call 72; refine (take_dec _ _ w.heap.size b off cap cap zs H.out (by simp; omega) (by simp [go_sem]) (Nat.le_refl _) _ _ (by omega) (by omega) (by omega) (by omega) _ (by simp)).mono ?_; rintro e w1 ⟨rfl, rfl⟩)
    refine bodyPost_ret (v := .agg #[.int .i64 3, .int .i64 0, .int .i64 0, .int .u32 0, .int .i64 (num ((zs.drop 0).take 2)), .int .i64 (num ((zs.drop 2).take 2)), .bool false, .int .u32 (num ((zs.drop 4).take 4)), .int .u32 (num ((zs.drop 8).take 4)), .int .i64 ((num ((zs.drop 12).take 2)) % 4096), .int .i64 (num ((zs.drop 14).take 2)), .int .i64 (num ((zs.drop 18).take 2)), .string (strOfNums ((zs.drop 20).take (cap - 20))), .string (strOfNums [])]) ?_ rfl ⟨rfl, ?_⟩
    · simp [results, Try.results60, go_sem]
    · exact ⟨_, _, _, _, rfl⟩
  · obtain rfl : n = 20 := by omega
    obtain rfl : U = 20 := by omega
    subst c1
    have hz : zs.drop 20 = [] := List.drop_eq_nil_of_le (by omega)
    rw [hz]
    simp only [List.take_nil]
    have cvo : ∀ (hh : Array Value) (t : Int), (convert 26 9 (.slice (some ⟨b, off, none⟩) 0 0)).run Try.prog ((((w.alloc (.cells #[.slice (some ⟨b, off, none⟩) 20 20] 26)).alloc (.cells #[.int .i64 0, .int .i64 0, .int .i64 0, .int .u32 0, .int .i64 0, .int .i64 0, .bool false, .int .u32 0, .int .u32 0, .int .i64 0, .int .i64 0, .int .i64 0, .string ⟨#[]⟩, .string ⟨#[]⟩] 48)).alloc (.cells hh 48)).alloc (.cells #[.int .i64 t] 3)) = .ok (.string (strOfNums [])) ((((w.alloc (.cells #[.slice (some ⟨b, off, none⟩) 20 20] 26)).alloc (.cells #[.int .i64 0, .int .i64 0, .int .i64 0, .int .u32 0, .int .i64 0, .int .i64 0, .bool false, .int .u32 0, .int .u32 0, .int .i64 0, .int .i64 0, .int .i64 0, .string ⟨#[]⟩, .string ⟨#[]⟩] 48)).alloc (.cells hh 48)).alloc (.cells #[.int .i64 t] 3)) := fun hh t =>
      run_conv_bs _ (BS.empty _) 26 9 5 Try.underlying26 Try.underlying5 Try.underlying9
    have cvd : ∀ (hh : Array Value) (t : Int), (convert 26 9 (.slice (some ⟨b, off, none⟩) 0 0)).run Try.prog ((((w.alloc (.cells #[.slice (some ⟨b, off, none⟩) 20 20] 26)).alloc (.cells #[.int .i64 0, .int .i64 0, .int .i64 0, .int .u32 0, .int .i64 0, .int .i64 0, .bool false, .int .u32 0, .int .u32 0, .int .i64 0, .int .i64 0, .int .i64 0, .string ⟨#[]⟩, .string ⟨#[]⟩] 48)).alloc (.cells hh 48)).alloc (.cells #[.int .i64 t] 3)) = .ok (.string (strOfNums [])) ((((w.alloc (.cells #[.slice (some ⟨b, off, none⟩) 20 20] 26)).alloc (.cells #[.int .i64 0, .int .i64 0, .int .i64 0, .int .u32 0, .int .i64 0, .int .i64 0, .bool false, .int .u32 0, .int .u32 0, .int .i64 0, .int .i64 0, .int .i64 0, .string ⟨#[]⟩, .string ⟨#[]⟩] 48)).alloc (.cells hh 48)).alloc (.cells #[.int .i64 t] 3)) := fun hh t =>
      run_conv_bs _ (BS.empty _) 26 9 5 Try.underlying26 Try.underlying5 Try.underlying9
    go_enter Try.func60, Try.ntmps60
    go_wp2_with (go_at_call 72; refine (take_dec _ _ w.heap.size b off 20 20 zs H.out (by simp; omega) (by simp [go_sem]) (Nat.le_refl _) _ _ (by omega) (by omega) (by omega) (by omega) _ (by simp)).mono ?_; rintro e w1 ⟨rfl, rfl⟩)
    refine bodyPost_ret (v := .agg #[.int .i64 3, .int .i64 0, .int .i64 0, .int .u32 0, .int .i64 (num ((zs.drop 0).take 2)), .int .i64 (num ((zs.drop 2).take 2)), .bool false, .int .u32 (num ((zs.drop 4).take 4)), .int .u32 (num ((zs.drop 8).take 4)), .int .i64 ((num ((zs.drop 12).take 2)) % 4096), .int .i64 (num ((zs.drop 14).take 2)), .int .i64 (num ((zs.drop 18).take 2)), .string (strOfNums []), .string (strOfNums [])]) ?_ rfl ⟨rfl, ?_⟩
    · simp [results, Try.results60, go_sem]
    · exact ⟨_, _, _, _, rfl⟩
end Go.Proofs.Ytgonckbdkgiddaa
