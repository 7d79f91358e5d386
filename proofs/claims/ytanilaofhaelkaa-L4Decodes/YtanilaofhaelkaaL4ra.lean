/- The document's num. Condition: a slice of at most 2^47 bytes. -/
import Derived.Test.YtanilaofhaelkaaL4w
import Derived.Deep.RegionHeld3
namespace Go.Proofs.Ytanilaofhaelkaa
open Go.RowKit
set_option maxHeartbeats 1000000 in
theorem rnumc (w : World) (b off n cap : Nat) (zs : List Int) (h : BS w (some ⟨b, off, none⟩) n zs) (hcap : n ≤ cap) (t s : Int) (t' s' : Nat) (ht : t = t') (hs : s = s') (hs0 : 0 < s') (hs4 : s' ≤ 4) (hts : t' + s' ≤ n) :
    Calls Try.prog 22 #[.slice (some ⟨b, off, none⟩) n cap, .int .i64 t, .int .i64 s] w fun e w' => e = .returned (.int .i64 (num ((zs.drop t').take s'))) ∧ w' = w := by
  subst ht hs
  have h1 := (h.drop (by omega) t' (by omega)).take s' (by omega)
  have hnb := num_bd4 h1 hs4
  have H : Hid _ := h1
  have hne : ¬ cap = t' := by omega
  have hle : (t' : Int) + s' ≤ cap := by omega
  have hr := h.room
  have ht9 : (t' : Int) ≤ 140737488355328 := by omega
  have hs9 : (s' : Int) ≤ 4 := by omega
  have hw : wrap64 (num ((zs.drop t').take s')) = num ((zs.drop t').take s') := by unfold wrap64; omega
  clear h h1 hr
  go_enter Try.func22, Try.ntmps22
  go_wp2_with fail
  refine (rnum_any _ H.out (by omega)).mono ?_
  rintro e w1 ⟨rfl, hw1⟩
  subst hw1
  go_wp2
  go_ret
  exact ⟨rfl, rfl⟩
end Go.Proofs.Ytanilaofhaelkaa
