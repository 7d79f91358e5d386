/- Texts at a text's beginning (lex.readText). Conditions: none beyond a string's size. -/
import Derived.Test.YtajjffjnnjklnaaDoorLI
namespace Go.Proofs.YtajjffjnnjklnaaDoor
open Go.RowKit
def rdText (s : ByteArray) : Array Value × Int :=
  if byt s 0 = 34 ∧ (runS (s.extract 1 s.size) textB ≤ 64 ∧ 1 + runS (s.extract 1 s.size) textB < s.size ∧ byt s (1 + runS (s.extract 1 s.size) textB) = 34) then (tokC 6 (s.extract 1 (1 + runS (s.extract 1 s.size) textB)) 0 0, ((1 + runS (s.extract 1 s.size) textB + 1 : Nat) : Int)) else (tokC 0 ⟨#[]⟩ 0 0, 0)
set_option maxRecDepth 20000 in
set_option maxHeartbeats 4000000 in
theorem readText_any (s : ByteArray) (hs : s.size ≤ maxLen) (h0 : 0 < s.size) (w : World) :
    Calls Tryd.prog 24 #[.string s] w fun e w' => e = .returned (.tuple #[.agg (rdText s).1, .int .i64 (rdText s).2]) ∧ Below w.heap.size w w' := by
  have HRU : Hid (∀ W, Calls Tryd.prog 31 #[.string (s.extract 1 s.size), fnV 40] W fun e w' => e = .returned (.int .i64 (runS (s.extract 1 s.size) textB : Nat)) ∧ w' = W) := fun W => run_any _ (by simp; omega) textB 40 (fun args W => by simp [go_sem]) (fun c _ _ W => isInText_any c W) W
  have hrb := runS_b (s.extract 1 s.size) textB
  rw [show (s.extract 1 s.size).size = s.size - 1 by simp] at hrb
  unfold maxLen at hs
  have h0I : (0 : Int) < s.size := by omega
  have h1I : (1 : Int) ≤ s.size := by omega
  have hc := byt_eq s 0 h0
  have HR : Hid (rdText s = if byt s 0 = 34 ∧ (runS (s.extract 1 s.size) textB ≤ 64 ∧ 1 + runS (s.extract 1 s.size) textB < s.size ∧ byt s (1 + runS (s.extract 1 s.size) textB) = 34) then (tokC 6 (s.extract 1 (1 + runS (s.extract 1 s.size) textB)) 0 0, ((1 + runS (s.extract 1 s.size) textB + 1 : Nat) : Int)) else (tokC 0 ⟨#[]⟩ 0 0, 0)) := rfl
  obtain ⟨n, hn⟩ : ∃ n, runS (s.extract 1 s.size) textB = n := ⟨_, rfl⟩
  rw [hn] at HRU HR hrb
  obtain ⟨c, hcc⟩ : ∃ c, byt s 0 = c := ⟨_, rfl⟩
  rw [hcc] at hc HR
  have hnI : (n : Int) + 1 ≤ s.size := by omega
  clear hcc hn
  by_cases h34n : ¬ c = 34
  · have HZ : Hid (rdText s = (tokC 0 ⟨#[]⟩ 0 0, 0)) := by show _ = _; rw [HR.out, if_neg (fun h => h34n h.1)]
    have hq : (c != 34) = true := by simp [h34n]
    clear HR h34n HRU
    go_enter Tryd.func24, Tryd.ntmps24
    go_wp2
    refine bodyPost_ret (results_tok (p := 2) (u := 3) rfl _ _ w.heap.size _ rfl (heap_alloc_new _ _) rfl) rfl ⟨?_, (Below.refl _ _).alloc (Nat.le_refl _) _⟩
    rw [HZ.out]; rfl
  have h34 : c = 34 := by omega
  have hq : (c != 34) = false := by simp [h34]
  by_cases h64 : 64 < n
  · have hI : (64 : Int) < n := by omega
    have HZ : Hid (rdText s = (tokC 0 ⟨#[]⟩ 0 0, 0)) := by show _ = _; rw [HR.out, if_neg (fun h => by have := h.2.1; omega)]
    clear HR
    go_enter Tryd.func24, Tryd.ntmps24
    go_wp2_with fail
    refine (HRU.out _).mono ?_
    rintro e W ⟨rfl, hw⟩
    rw [hw]
    clear hw
    go_wp2
    refine bodyPost_ret (results_tok (p := 2) (u := 3) rfl _ _ w.heap.size _ rfl (heap_alloc_new _ _) rfl) rfl ⟨?_, (Below.refl _ _).alloc (Nat.le_refl _) _⟩
    rw [HZ.out]; rfl
  have hI : ¬ (64 : Int) < n := by omega
  by_cases hsz : 1 + n = s.size
  · have hz1 : ((1 : Int) + n == s.size) = true := by simp; omega
    have HZ : Hid (rdText s = (tokC 0 ⟨#[]⟩ 0 0, 0)) := by show _ = _; rw [HR.out, if_neg (fun h => by have := h.2.2.1; omega)]
    clear HR
    go_enter Tryd.func24, Tryd.ntmps24
    go_wp2_with fail
    refine (HRU.out _).mono ?_
    rintro e W ⟨rfl, hw⟩
    rw [hw]
    clear hw
    go_wp2
    refine bodyPost_ret (results_tok (p := 2) (u := 3) rfl _ _ w.heap.size _ rfl (heap_alloc_new _ _) rfl) rfl ⟨?_, (Below.refl _ _).alloc (Nat.le_refl _) _⟩
    rw [HZ.out]; rfl
  have hz1 : ((1 : Int) + n == s.size) = false := by simp; omega
  have hlt : 1 + n < s.size := by omega
  have hltI : (1 : Int) + n < s.size := by omega
  have hc2 := byt_eq s (1 + n) hlt
  obtain ⟨d, hdd⟩ : ∃ d, byt s (1 + n) = d := ⟨_, rfl⟩
  rw [hdd] at hc2 HR
  have htn : ((1 : Int) + n).toNat = 1 + n := by omega
  clear hdd
  by_cases hd : d = 34
  · have HZ : Hid (rdText s = (tokC 6 (s.extract 1 (1 + n)) 0 0, ((1 + n + 1 : Nat) : Int))) := by show _ = _; rw [HR.out, if_pos ⟨h34, by omega, hlt, hd⟩]
    have hd2 : (d != 34) = false := by simp [hd]
    have hle : (1 : Int) + n ≤ s.size := by omega
    have hl1 : (1 : Int) ≤ (1 : Int) + n := by omega
    have hl0 : (0 : Int) ≤ (1 : Int) + n := by omega
    have hw2 : IntKind.i64.wrap ((1 : Int) + n) = (1 : Int) + n := by simp [IntKind.wrap, IntKind.bits, IntKind.signed]; omega
    have hw3 : IntKind.i64.wrap ((1 : Int) + n + 1) = (1 : Int) + n + 1 := by simp [IntKind.wrap, IntKind.bits, IntKind.signed]; omega
    have hl2 : (1 : Nat) ≤ 1 + n := by omega
    clear HR hd
    go_enter Tryd.func24, Tryd.ntmps24
    go_wp2_with fail
    refine (HRU.out _).mono ?_
    rintro e W ⟨rfl, hw⟩
    rw [hw]
    clear hw
    go_wp2
    refine bodyPost_ret (results_tok (p := 2) (u := 3) rfl _ _ w.heap.size _ rfl (heap_alloc_new _ _) rfl) rfl ⟨?_, (Below.refl _ _).alloc (Nat.le_refl _) _⟩
    rw [HZ.out]
    show Ending.returned (.tuple #[.agg (tokC 6 (s.extract 1 (1 + n)) 0 0), .int .i64 ((1 : Int) + n + 1)]) = _
    rw [show (1 : Int) + n + 1 = ((1 + n + 1 : Nat) : Int) by omega]
  · have HZ : Hid (rdText s = (tokC 0 ⟨#[]⟩ 0 0, 0)) := by show _ = _; rw [HR.out, if_neg (fun h => hd h.2.2.2)]
    have hd2 : (d != 34) = true := by simp [hd]
    clear HR hd
    go_enter Tryd.func24, Tryd.ntmps24
    go_wp2_with fail
    refine (HRU.out _).mono ?_
    rintro e W ⟨rfl, hw⟩
    rw [hw]
    clear hw
    go_wp2
    refine bodyPost_ret (results_tok (p := 2) (u := 3) rfl _ _ w.heap.size _ rfl (heap_alloc_new _ _) rfl) rfl ⟨?_, (Below.refl _ _).alloc (Nat.le_refl _) _⟩
    rw [HZ.out]; rfl
end Go.Proofs.YtajjffjnnjklnaaDoor
