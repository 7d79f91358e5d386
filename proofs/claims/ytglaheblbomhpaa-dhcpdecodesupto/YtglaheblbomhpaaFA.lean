/- What isMessage and readFixed of package dhcp answer. Conditions: the bytes can be read. -/
import Derived.Test.YtglaheblbomhpaaDK
namespace Go.Proofs.Ytglaheblbomhpaa
open Go.RowKit

/-- Has a row the bytes that all messages have? -/
def isMsgB (zs : List Int) : Bool := decide (240 ≤ zs.length) && ((zs.getD 0 0 == 1 || zs.getD 0 0 == 2) && (((strOfNums ((zs.drop 1).take 3)).toList == (⟨#[1, 6, 0]⟩ : ByteArray).toList) && ((strOfNums ((zs.drop 236).take 4)).toList == (⟨#[99, 130, 83, 99]⟩ : ByteArray).toList)))

set_option maxRecDepth 20000 in
set_option maxHeartbeats 1000000 in
theorem isMsg_any {a : Option Addr} {n : Nat} {zs : List Int} {w : World} (cap : Nat) (h : BS w a n zs) (hcap : n ≤ cap) :
    Calls Try.prog 18 #[.slice a n cap] w fun e w' => e = .returned (.bool (isMsgB zs)) ∧ w' = w := by
  have hl := h.len
  have hr := h.room
  unfold isMsgB
  by_cases hn : n < 240
  · rw [show decide (240 ≤ zs.length) = false from by simp; omega, Bool.false_and]
    have hnI : (n : Int) < 240 := by omega
    go_enter Try.func18, Try.ntmps18
    go_wp2
    go_ret
    exact ⟨rfl, rfl⟩
  · rw [show decide (240 ≤ zs.length) = true from by simp; omega, Bool.true_and]
    have hnI : (240 : Int) ≤ n := by omega
    obtain ⟨b, off, rfl, hc⟩ : ∃ b off, a = some ⟨b, off, none⟩ ∧ w.cell? ⟨b, off, none⟩ = some (.int .u8 (zs.getD 0 0)) := by
      rcases h.cells with h0 | ⟨b, off, e, hc⟩
      · omega
      · exact ⟨b, off, e, hc 0 (by omega)⟩
    have hz := h.fits 0
    have hc0 : (0 : Int) < n := by omega
    have hcp1 : (4 : Int) ≤ cap := by omega
    have hcp2 : (240 : Int) ≤ cap := by omega
    have hcp3 : (1 : Int) ≤ cap := by omega
    have hcp4 : (236 : Int) ≤ cap := by omega
    have q1 := run_conv_bs (P := Try.prog) (cap - 1) ((h.drop (by omega) 1 (by omega)).take 3 (by omega)) 22 9 5 Try.underlying22 Try.underlying5 Try.underlying9
    have q2 := run_conv_bs (P := Try.prog) (cap - 236) ((h.drop (by omega) 236 (by omega)).take 4 (by omega)) 22 9 5 Try.underlying22 Try.underlying5 Try.underlying9
    have hne1 : ¬ cap = 1 := by omega
    have hne2 : ¬ cap = 236 := by omega
    clear h
    generalize zs.getD 0 0 = z at *
    generalize strOfNums ((zs.drop 1).take 3) = s1 at *
    generalize strOfNums ((zs.drop 236).take 4) = s2 at *
    cases c0 : (z == 1 || z == 2)
    · simp only [Bool.false_and]
      go_enter Try.func18, Try.ntmps18
      go_wp2_with (go_at_call 33; refine (isOp_any _ _).mono ?_; rw [c0]; rintro e w' ⟨rfl, rfl⟩)
      go_ret
      exact ⟨rfl, rfl⟩
    simp only [Bool.true_and]
    cases c1 : (s1.toList == (⟨#[1, 6, 0]⟩ : ByteArray).toList)
    · simp only [Bool.false_and]
      have c1' : (s1.toList == [1, 6, 0]) = false := by rw [← ByteArray.toList_mk [1, 6, 0]]; exact c1
      go_enter Try.func18, Try.ntmps18
      go_wp2_with (go_at_call 33; refine (isOp_any _ _).mono ?_; rw [c0]; rintro e w' ⟨rfl, rfl⟩)
      go_ret
      exact ⟨rfl, rfl⟩
    · simp only [Bool.true_and]
      have c1' : (s1.toList == [1, 6, 0]) = true := by rw [← ByteArray.toList_mk [1, 6, 0]]; exact c1
      rw [show (⟨#[99, 130, 83, 99]⟩ : ByteArray).toList = [99, 130, 83, 99] from ByteArray.toList_mk [99, 130, 83, 99]]
      go_enter Try.func18, Try.ntmps18
      go_wp2_with (go_at_call 33; refine (isOp_any _ _).mono ?_; rw [c0]; rintro e w' ⟨rfl, rfl⟩)
      go_ret
      exact ⟨rfl, rfl⟩

set_option maxHeartbeats 1000000 in
theorem taken_any (w : World) (b off n cap pB pA t : Nat) (zs : List Int) (s : Nat) (h : BS w (some ⟨b, off, none⟩) n zs) (hcap : n ≤ cap) (ht : t + s ≤ n) (hs : s ≤ 6) (hs0 : 0 < s) (hB : w.cell? ⟨pB, 0, none⟩ = some (.slice (some ⟨b, off, none⟩) n cap)) (hA : w.cell? ⟨pA, 0, none⟩ = some (.int .i64 t)) (hfA : w.frozen? ⟨pA, 0, none⟩ = false) (hne : pA ≠ pB) (hneb : pA ≠ b) :
    Calls Try.prog 34 #[.int .i64 s, .pointer (some ⟨pA, 0, none⟩), .pointer (some ⟨pB, 0, none⟩)] w fun e w' => e = .returned (.int .u64 (num ((zs.drop t).take s))) ∧ w' = w.setCell ⟨pA, 0, none⟩ (.int .i64 ((t + s : Nat) : Int)) := by
  have hr := h.room
  have e1 : (t : Int) + s - s = t := by omega
  have hle : (t : Int) + s ≤ cap := by omega
  have hlt : ¬ cap = t := by omega
  have h1 : (t : Int) + s ≤ 140737488355328 := by omega
  have hbs := bs_far (u := .int .i64 ((t : Int) + s)) (k := 0) h hneb
  have H : Hid (BS (w.setCell ⟨pA, 0, none⟩ (.int .i64 ((t : Int) + s))) (some ⟨b, off + t, none⟩) s ((zs.drop t).take s)) := by
    have q := (hbs.drop (by omega) t (by omega)).take s (by omega)
    exact q
  clear h hbs
  go_enter Try.func34, Try.ntmps34
  go_wp2_with fail
  refine (number_any _ H.out hs).mono ?_
  rintro e w1 ⟨rfl, rfl⟩
  go_wp2
  go_ret
  exact ⟨rfl, by push_cast; rfl⟩
end Go.Proofs.Ytglaheblbomhpaa
