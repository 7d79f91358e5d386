/- The name token at a text's beginning (lex.readName). Conditions: the text is not empty. -/
import Derived.Test.YtajjffjnnjklnaaDoorLF
namespace Go.Proofs.YtajjffjnnjklnaaDoor
open Go.RowKit
theorem runFrom_b (s : ByteArray) (B : Int → Bool) : ∀ (n k : Nat), k ≤ runFrom s B k n ∧ runFrom s B k n ≤ k + n
  | 0, k => ⟨Nat.le_refl _, Nat.le_refl _⟩
  | n + 1, k => by
    unfold runFrom
    split
    · have := runFrom_b s B n (k + 1); omega
    · omega
theorem runS_b (s : ByteArray) (B : Int → Bool) : runS s B ≤ s.size := by
  have := (runFrom_b s B s.size 0).2
  unfold runS; omega
/-- What readName tells. -/
def rdName (s : ByteArray) : Array Value × Int := if digB (byt s 0) || byt s 0 == 46 then (tokC 0 ⟨#[]⟩ 0 0, 0) else (tokC 1 (s.extract 0 (runS s nameB)) 0 0, (runS s nameB : Nat))
set_option maxRecDepth 20000 in
set_option maxHeartbeats 1000000 in
theorem readName_any (s : ByteArray) (hs : s.size ≤ maxLen) (h0 : 0 < s.size) (w : World) :
    Calls Tryd.prog 19 #[.string s] w fun e w' => e = .returned (.tuple #[.agg (rdName s).1, .int .i64 (rdName s).2]) ∧ Below w.heap.size w w' := by
  have HRU : Hid (∀ W, Calls Tryd.prog 31 #[.string s, fnV 32] W fun e w' => e = .returned (.int .i64 (runS s nameB : Nat)) ∧ w' = W) := fun W => run_any s hs nameB 32 (fun args W => by simp [go_sem]) (fun c _ _ W => isInName_any c W) W
  have hrb := runS_b s nameB
  unfold maxLen at hs
  have h0I : (0 : Int) < s.size := by omega
  have hc := byt_eq s 0 h0
  have HD : Hid (∀ W, Calls Tryd.prog 30 #[.int .u8 (byt s 0)] W fun e w' => e = .returned (.bool (digB (byt s 0))) ∧ w' = W) := fun W => isDigit_any _ W
  have HR : Hid (rdName s = if digB (byt s 0) || byt s 0 == 46 then (tokC 0 ⟨#[]⟩ 0 0, 0) else (tokC 1 (s.extract 0 (runS s nameB)) 0 0, ((runS s nameB : Nat) : Int))) := rfl
  obtain ⟨c, hcc⟩ : ∃ c, byt s 0 = c := ⟨_, rfl⟩
  rw [hcc] at hc HD HR
  obtain ⟨n, hn⟩ : ∃ n, runS s nameB = n := ⟨_, rfl⟩
  rw [hn] at HRU HR hrb
  obtain ⟨d, hd⟩ : ∃ d, digB c = d := ⟨_, rfl⟩
  rw [hd] at HD HR
  have hrbI : (n : Int) ≤ s.size := by omega
  clear hcc hn hd
  cases d
  · cases h46 : (c == 46)
    · have HZ : Hid (rdName s = (tokC 1 (s.extract 0 n) 0 0, ((n : Nat) : Int))) := by show _ = _; rw [HR.out, h46]; rfl
      clear HR
      go_enter Tryd.func19, Tryd.ntmps19
      go_wp2_with fail
      refine (HD.out _).mono ?_
      rintro e W ⟨rfl, hw⟩
      rw [hw]
      clear hw
      go_wp2_with fail
      refine (HRU.out _).mono ?_
      rintro e W ⟨rfl, hw⟩
      rw [hw]
      clear hw
      go_wp2
      refine bodyPost_ret (results_tok (p := 2) (u := 3) rfl _ _ w.heap.size _ rfl (heap_alloc_new _ _) rfl) rfl ⟨?_, (Below.refl _ _).alloc (Nat.le_refl _) _⟩
      rw [HZ.out]; rfl
    · have HZ : Hid (rdName s = (tokC 0 ⟨#[]⟩ 0 0, 0)) := by show _ = _; rw [HR.out, h46]; rfl
      clear HR
      go_enter Tryd.func19, Tryd.ntmps19
      go_wp2_with fail
      refine (HD.out _).mono ?_
      rintro e W ⟨rfl, hw⟩
      rw [hw]
      clear hw
      go_wp2
      refine bodyPost_ret (results_tok (p := 2) (u := 3) rfl _ _ w.heap.size _ rfl (heap_alloc_new _ _) rfl) rfl ⟨?_, (Below.refl _ _).alloc (Nat.le_refl _) _⟩
      rw [HZ.out]; rfl
  · have HZ : Hid (rdName s = (tokC 0 ⟨#[]⟩ 0 0, 0)) := by show _ = _; rw [HR.out]; rfl
    clear HR
    go_enter Tryd.func19, Tryd.ntmps19
    go_wp2_with fail
    refine (HD.out _).mono ?_
    rintro e W ⟨rfl, hw⟩
    rw [hw]
    clear hw
    go_wp2
    refine bodyPost_ret (results_tok (p := 2) (u := 3) rfl _ _ w.heap.size _ rfl (heap_alloc_new _ _) rfl) rfl ⟨?_, (Below.refl _ _).alloc (Nat.le_refl _) _⟩
    rw [HZ.out]; rfl
end Go.Proofs.YtajjffjnnjklnaaDoor
