/- What Decode of package ip answers on any bytes. Condition: a slice of at most 2^47 bytes. -/
import Derived.Test.YtgonckbdkgiddaaIE
namespace Go.Proofs.Ytgonckbdkgiddaa.Ip
open Go.RowKit

set_option maxHeartbeats 2000000 in
theorem decode_tight (w : World) (b off n cap : Nat) (zs : List Int) (h : BS w (some ⟨b, off, none⟩) n zs) (hcap : n ≤ cap) (m : Nat) (hm : MOk zs n m) (hc : cap = 20) :
    Calls Try.prog 24 #[.slice (some ⟨b, off, none⟩) n cap] w fun e w' => e = .returned (.tuple #[ipF zs m, .int .i64 m, .int .i64 (zs.getD 2 0 * 256 + zs.getD 3 0), .int .i64 0]) ∧ Below w.heap.size w w' := by
  have hl := h.len
  have h1 := hm.len
  have h2 := hm.twenty
  have h3 := hm.four.2.2
  have hms := msr_yes hm
  clear hm
  generalize zs.getD 2 0 * 256 + zs.getD 3 0 = T at *
  have hn20 : (20 : Int) ≤ n := by omega
  have hm20 : (20 : Int) ≤ m := by omega
  have hmc : (m : Int) ≤ cap := by omega
  have b1 := num_bd4 ((h.drop (by omega) 12 (by omega)).take 4 (by omega)) (by omega)
  have b2 := num_bd4 ((h.drop (by omega) 16 (by omega)).take 4 (by omega)) (by omega)
  obtain rfl : n = 20 := by omega
  obtain rfl : m = 20 := by omega
  subst hc
  clear hn20 hm20 hmc
  go_enter Try.func24, Try.ntmps24
  go_wp2_with fail
  refine (measure_two w _ _ _ 20 20 zs 20 h hcap).mono ?_
  rintro e w1 ⟨rfl, w0, rfl, hs, h', hB⟩
  rw [show msr zs 20 = ((20 : Int), T, 0) from hms, hs]
  unfold msrV
  clear hms h
  have H : Hid (BS ((w0.alloc (.cells #[.slice (some ⟨b, off, none⟩) 20 20] 26)).alloc (.cells #[.int .i64 0, .int .i64 0, .int .i64 0, .int .i64 0, .int .i64 0, .int .u32 0, .int .u32 0, .string ⟨#[]⟩] 51)) (some ⟨b, off, none⟩) 20 zs) := h'.below (below2 w0 _ _)
  have cv : ∀ W : World, (convert 26 9 (.slice (some ⟨b, off, none⟩) 0 0)).run Try.prog W = .ok (.string ⟨#[]⟩) W := fun W =>
    run_conv_bs 0 (BS.empty (w := W) (some ⟨b, off, none⟩)) 26 9 5 Try.underlying26 Try.underlying5 Try.underlying9
  clear h' h1 h2 h3
  go_wp2_with (go_at_call 56; refine (take_dec _ _ w0.heap.size b off 20 20 zs H.out (by simp; omega) (by simp [go_sem]) hcap _ _ (by omega) (by omega) (by omega) (by omega) _ (by simp)).mono ?_; rintro e w1 ⟨rfl, rfl⟩)
  refine bodyPost_ret (v := .tuple #[ipF zs 20, .int .i64 20, .int .i64 T, .int .i64 0]) ?_ rfl ⟨rfl, ?_⟩
  · simp [results, Try.results24, go_sem, ipF, strOfNums]
  · rw [hs]; exact (((hB.alloc (Nat.le_refl _) _).alloc (by simp) _).alloc (by simp; omega) _).alloc (by simp; omega) _


theorem decode_any (w : World) (a : Option Addr) (n cap : Nat) (zs : List Int) (h : BS w a n zs) (hcap : n ≤ cap) :
    (∀ f, (f = 20 ∨ f = 21 ∨ f = 30) → msr zs n = (0, 0, f) → Calls Try.prog 24 #[.slice a n cap] w fun e w' => e = .returned (.tuple #[ip0, .int .i64 0, .int .i64 0, .int .i64 f]) ∧ Below w.heap.size w w') ∧
    (∀ m, MOk zs n m → Calls Try.prog 24 #[.slice a n cap] w fun e w' => e = .returned (.tuple #[ipF zs m, .int .i64 m, .int .i64 (zs.getD 2 0 * 256 + zs.getD 3 0), .int .i64 0]) ∧ Below w.heap.size w w') := by
  refine ⟨fun f hf hm => decode_no w a n cap zs h hcap f hf hm, fun m hm => ?_⟩
  have hl := h.len
  obtain ⟨b, off, rfl⟩ : ∃ b off, a = some ⟨b, off, none⟩ := by
    rcases h.cells with h0 | ⟨b, off, e, _⟩
    · have := hm.len; have := hm.twenty; omega
    · exact ⟨b, off, e⟩
  by_cases hc : cap = 20
  · exact decode_tight w b off n cap zs h hcap m hm hc
  · exact decode_ok w b off n cap zs h hcap m hm hc

end Go.Proofs.Ytgonckbdkgiddaa.Ip
