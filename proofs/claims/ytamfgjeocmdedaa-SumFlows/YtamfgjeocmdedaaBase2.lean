/- What Check, Update and Pick of package sum and of the reference answer, and that lives answers true. No conditions beyond a slice of at most 2^47 bytes. -/
import Derived.Test.YtamfgjeocmdedaaBase
namespace Go.Proofs.Ytamfgjeocmdedaa
open Go.RowKit

theorem check_any {a : Option Addr} {n : Nat} {zs : List Int} {w : World} (cap : Nat) (h : BS w a n zs) :
    Calls Try.prog 12 #[.slice a n cap] w fun e w' => e = .returned (.int .u16 (65535 - fld (wsum zs))) ∧ ∃ nq, w' = w.drewN nq := by
  have hb := fld_bd (wsum zs) (wsum_bd h.fits)
  have hx := not16 _ hb.1 hb.2
  have hsg : IntKind.u16.signed = false := rfl
  have hmx : IntKind.u16.max = 65535 := rfl
  go_enter Try.func12, Try.ntmps12
  go_wp2_with (go_at_call 10; refine (sum_any _ h).mono ?_; rintro e w' ⟨rfl, nq, rfl⟩)
  go_ret
  exact ⟨rfl, _, rfl⟩

theorem rcheck_any {a : Option Addr} {n : Nat} {zs : List Int} {w : World} (cap : Nat) (h : BS w a n zs) :
    Calls Try.prog 13 #[.slice a n cap] w fun e w' => e = .returned (.int .u16 (65535 - fld (wsum zs))) ∧ w' = w := by
  have hb := fld_bd (wsum zs) (wsum_bd h.fits)
  go_enter Try.func13, Try.ntmps13
  go_wp2_with (go_at_call 11; refine (rsum_any _ h).mono ?_; rintro e w' ⟨rfl, rfl⟩)
  go_ret
  exact ⟨rfl, rfl⟩

theorem update_any (c o n : Int) (hc0 : 0 ≤ c) (hc1 : c ≤ 65535) (ho0 : 0 ≤ o) (ho1 : o ≤ 65535) (hn0 : 0 ≤ n) (hn1 : n ≤ 65535) (w : World) :
    Calls Try.prog 16 #[.int .u16 c, .int .u16 o, .int .u16 n] w fun e w' => e = .returned (.int .u16 (65535 - fld (fld (65535 - c + (65535 - o)) + n))) ∧ w' = w := by
  have hb := fld_bd (65535 - c + (65535 - o)) (by omega)
  have hb2 := fld_bd (fld (65535 - c + (65535 - o)) + n) (by omega)
  have hx1 := not16 c hc0 hc1
  have hx2 := not16 o ho0 ho1
  have hx := not16 _ hb2.1 hb2.2
  have hsg : IntKind.u16.signed = false := rfl
  have hmx : IntKind.u16.max = 65535 := rfl
  go_enter Try.func16, Try.ntmps16
  go_wp2_with (go_at_call 14; refine (add_any _ _ (by omega) (by omega) (by omega) (by omega) _).mono ?_; rintro e w' ⟨rfl, rfl⟩)
  go_ret
  exact ⟨rfl, rfl⟩

theorem rupdate_any (c o n : Int) (hc0 : 0 ≤ c) (hc1 : c ≤ 65535) (ho0 : 0 ≤ o) (ho1 : o ≤ 65535) (hn0 : 0 ≤ n) (hn1 : n ≤ 65535) (w : World) :
    Calls Try.prog 17 #[.int .u16 c, .int .u16 o, .int .u16 n] w fun e w' => e = .returned (.int .u16 (65535 - fld (fld (65535 - c + (65535 - o)) + n))) ∧ w' = w := by
  have hb := fld_bd (65535 - c + (65535 - o)) (by omega)
  have hb2 := fld_bd (fld (65535 - c + (65535 - o)) + n) (by omega)
  go_enter Try.func17, Try.ntmps17
  go_wp2_with (go_at_call 15; refine (radd_any _ _ (by omega) (by omega) (by omega) (by omega) _).mono ?_; rintro e w' ⟨rfl, rfl⟩)
  go_ret
  exact ⟨rfl, rfl⟩

def pck (h n : Int) : Int := if n < 1 then 0 else h % n

theorem pick_any (h n : Int) (hh0 : 0 ≤ h) (hh1 : h ≤ 4294967295) (hn1 : n ≤ 9223372036854775807) (w : World) :
    Calls Try.prog 19 #[.int .u32 h, .int .i64 n] w fun e w' => e = .returned (.int .i64 (pck h n)) ∧ w' = w := by
  by_cases h1 : n < 1
  · go_enter Try.func19, Try.ntmps19
    go_wp2
    go_ret
    exact ⟨ret_int (by unfold pck; rw [if_pos h1]), rfl⟩
  · go_enter Try.func19, Try.ntmps19
    have hm := Int.emod_nonneg h (show n ≠ 0 by omega)
    have hm2 := Int.emod_lt_of_pos h (show 0 < n by omega)
    have hw : Hid (h % n = pck h n) := by
      show h % n = pck h n
      unfold pck; rw [if_neg (by omega)]
    go_wp2
    go_ret
    exact ⟨ret_int hw.out, rfl⟩

theorem rpick_any (h n : Int) (hh0 : 0 ≤ h) (hh1 : h ≤ 4294967295) (hn1 : n ≤ 9223372036854775807) (w : World) :
    Calls Try.prog 23 #[.int .u32 h, .int .i64 n] w fun e w' => e = .returned (.int .i64 (pck h n)) ∧ w' = w := by
  by_cases h1 : n < 1
  · go_enter Try.func23, Try.ntmps23
    go_wp2
    go_ret
    exact ⟨ret_int (by unfold pck; rw [if_pos h1]), rfl⟩
  · go_enter Try.func23, Try.ntmps23
    have hm := Int.emod_nonneg h (show n ≠ 0 by omega)
    have hm2 := Int.emod_lt_of_pos h (show 0 < n by omega)
    have hw : Hid (h % n = pck h n) := by
      show h % n = pck h n
      unfold pck; rw [if_neg (by omega)]
    go_wp2
    go_ret
    exact ⟨ret_int hw.out, rfl⟩

theorem bs_new (w : World) (arr : Array Value) (zs : List Int) (n B : Nat) (hB : B = w.heap.size) (hn : zs.length = n) (e : arr.toList = zs.map (Value.int .u8)) (hz : zs.all (fun z => decide (0 ≤ z ∧ z ≤ 255)) = true) (hr : n ≤ 140737488355328) :
    BS (w.alloc (.cells arr 5)) (some ⟨B, 0, none⟩) n zs := by
  subst hB
  refine ⟨hn, fun i => ?_, hr, .inr ⟨w.heap.size, 0, rfl, fun i hi => ?_⟩⟩
  · by_cases hi : i < zs.length
    · have := (List.all_eq_true.1 hz) (zs.getD i 0) (by simp [List.getD_eq_getElem?_getD, hi])
      simpa using this
    · simp [List.getD_eq_getElem?_getD, List.getElem?_eq_none (Nat.le_of_not_lt hi)]
  · have e2 : arr = (zs.map (Value.int .u8)).toArray := by rw [← e]
    subst e2
    simp [World.cell?_alloc_at, hi]

theorem lives_any (w : World) : Calls Try.prog 9 #[] w fun e w' => e = .returned (.bool true) ∧ Below w.heap.size w w' := by
  have hs1 : Hid (65535 - fld (wsum [69, 0, 0, 28, 0, 0, 0, 0, 64, 1, 0, 0, 10, 0, 0, 1, 10, 0, 0, 2]) = 26335) := by show _ = _; decide +kernel
  have hs2 : Hid (fld (wsum [1]) = 256) := by show _ = _; decide +kernel
  have hs3 : Hid (pck 7 4 = 3) := by show _ = _; decide +kernel
  go_enter Try.func9, Try.ntmps9
  go_wp2_with fail
  refine (check_any _ (bs_new _ _ [69, 0, 0, 28, 0, 0, 0, 0, 64, 1, 0, 0, 10, 0, 0, 1, 10, 0, 0, 2] 20 _ rfl rfl rfl rfl (by omega))).mono ?_
  rintro e w1 ⟨rfl, nq, rfl⟩
  rw [hs1.out]
  go_wp2_with fail
  refine (sum_any _ (bs_new _ _ [1] 1 _ (by simp) rfl rfl rfl (by omega))).mono ?_
  rintro e w1 ⟨rfl, nr, rfl⟩
  rw [hs2.out]
  go_wp2_with fail
  refine (pick_any 7 4 (by omega) (by omega) (by omega) _).mono ?_
  rintro e w1 ⟨rfl, rfl⟩
  rw [hs3.out]
  go_wp2
  go_ret
  exact ⟨rfl, below_drewN ((below_drewN ((Below.refl _ _).alloc (Nat.le_refl _) _) _).alloc (by simp) _) _⟩
end Go.Proofs.Ytamfgjeocmdedaa
