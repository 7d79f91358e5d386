/- What Decode of package ip answers on the bytes of a head. Condition: a slice of at most 2^47 bytes. -/
import Derived.Test.YtgonckbdkgiddaaID
namespace Go.Proofs.Ytgonckbdkgiddaa.Ip
open Go.RowKit

set_option maxHeartbeats 2000000 in
theorem decode_ok (w : World) (b off n cap : Nat) (zs : List Int) (h : BS w (some ⟨b, off, none⟩) n zs) (hcap : n ≤ cap) (m : Nat) (hm : MOk zs n m) (hc : cap ≠ 20) :
    Calls Try.prog 24 #[.slice (some ⟨b, off, none⟩) n cap] w fun e w' => e = .returned (.tuple #[ipF zs m, .int .i64 m, .int .i64 (zs.getD 2 0 * 256 + zs.getD 3 0), .int .i64 0]) ∧ Below w.heap.size w w' := by
  have hl := h.len
  have h1 := hm.len
  have h2 := hm.twenty
  have h3 := hm.four.2.2
  have hms := msr_yes hm
  clear hm
  generalize zs.getD 2 0 * 256 + zs.getD 3 0 = T at *
  have hn20 : (20 : Int) ≤ n := by omega
  have hm20 : (20 : Int) ≤ m := by omega
  have hmc : (m : Int) ≤ cap := by omega
  have b1 := num_bd4 ((h.drop (by omega) 12 (by omega)).take 4 (by omega)) (by omega)
  have b2 := num_bd4 ((h.drop (by omega) 16 (by omega)).take 4 (by omega)) (by omega)
  have hc20 : ¬ cap = 20 := hc
  go_enter Try.func24, Try.ntmps24
  go_wp2_with fail
  refine (measure_two w _ _ _ n cap zs n h hcap).mono ?_
  rintro e w1 ⟨rfl, w0, rfl, hs, h', hB⟩
  rw [hms, hs]
  unfold msrV
  clear hms h
  have H : Hid (BS ((w0.alloc (.cells #[.slice (some ⟨b, off, none⟩) n cap] 26)).alloc (.cells #[.int .i64 0, .int .i64 0, .int .i64 0, .int .i64 0, .int .i64 0, .int .u32 0, .int .u32 0, .string ⟨#[]⟩] 51)) (some ⟨b, off, none⟩) n zs) := h'.below (below2 w0 _ _)
  have cv : ∀ (hh : Array Value) (t : Int), (convert 26 9 (.slice (some ⟨b, off + 20, none⟩) (m - 20) (cap - 20))).run Try.prog ((((w0.alloc (.cells #[.slice (some ⟨b, off, none⟩) n cap] 26)).alloc (.cells #[.int .i64 0, .int .i64 0, .int .i64 0, .int .i64 0, .int .i64 0, .int .u32 0, .int .u32 0, .string ⟨#[]⟩] 51)).alloc (.cells hh 51)).alloc (.cells #[.int .i64 t] 3)) = .ok (.string (strOfNums ((zs.drop 20).take (m - 20)))) ((((w0.alloc (.cells #[.slice (some ⟨b, off, none⟩) n cap] 26)).alloc (.cells #[.int .i64 0, .int .i64 0, .int .i64 0, .int .i64 0, .int .i64 0, .int .u32 0, .int .u32 0, .string ⟨#[]⟩] 51)).alloc (.cells hh 51)).alloc (.cells #[.int .i64 t] 3)) := fun hh t =>
    run_conv_bs _ (((H.out.drop (by omega) 20 (by omega)).take (m - 20) (by omega)).below (below2 _ _ _)) 26 9 5 Try.underlying26 Try.underlying5 Try.underlying9
  clear h' h1 h2 h3 hl
  go_wp2_with (go_at_call 56; refine (take_dec _ _ w0.heap.size b off n cap zs H.out (by simp; omega) (by simp [go_sem]) hcap _ _ (by omega) (by omega) (by omega) (by omega) _ (by simp)).mono ?_; rintro e w1 ⟨rfl, rfl⟩)
  refine bodyPost_ret (v := .tuple #[ipF zs m, .int .i64 m, .int .i64 T, .int .i64 0]) ?_ rfl ⟨rfl, ?_⟩
  · simp [results, Try.results24, go_sem, ipF]
  · rw [hs]; exact (((hB.alloc (Nat.le_refl _) _).alloc (by simp) _).alloc (by simp; omega) _).alloc (by simp; omega) _

end Go.Proofs.Ytgonckbdkgiddaa.Ip
