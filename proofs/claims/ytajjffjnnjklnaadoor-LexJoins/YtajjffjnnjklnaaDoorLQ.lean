/- What the laws ask of every program at two texts (lives). Conditions: the library's two errors lie where the program's text lays them. -/
import Derived.Test.YtajjffjnnjklnaaDoorLP
import Derived.KernelRfl
namespace Go.Proofs.YtajjffjnnjklnaaDoor
open Go.Shelf Go.RowKit
def txt1 : ByteArray := ⟨#[105, 112, 52, 46, 115, 114, 99, 61, 61, 49, 48, 46, 48, 46, 48, 46, 48, 47, 56]⟩
def txt2 : ByteArray := ⟨#[97, 32, 48, 49]⟩
def toks1 : List Tk := [⟨1, ⟨#[105, 112, 52, 46, 115, 114, 99]⟩, 0, 0⟩, ⟨5, ⟨#[61, 61]⟩, 0, 7⟩, ⟨4, ⟨#[49, 48, 46, 48, 46, 48, 46, 48]⟩, 167772160, 9⟩, ⟨5, ⟨#[47]⟩, 0, 17⟩, ⟨2, ⟨#[56]⟩, 8, 18⟩, ⟨7, ⟨#[]⟩, 0, 19⟩]
theorem tokS_1 : tokS txt1 = (some toks1, 0) := by kernel_rfl
theorem tokS_2 : tokS txt2 = (none, 2) := by kernel_rfl
set_option maxRecDepth 20000 in
set_option maxHeartbeats 4000000 in
theorem lives_any (w : World) (E : Errs w) :
    Calls Tryd.prog 8 #[] w fun e w' => e = .returned (.bool true) ∧ Below w.heap.size w w' := by
  have H1 : Hid (∀ W, Errs W → Calls Tryd.prog 7 #[.string ⟨#[105, 112, 52, 46, 115, 114, 99, 61, 61, 49, 48, 46, 48, 46, 48, 46, 48, 47, 56]⟩] W fun e w' => TokAns W w' (some toks1, 0) e ∧ Below W.heap.size W w') := by
    show ∀ W, _
    intro W E
    have h := tokens_any txt1 (by decide) W E
    rw [tokS_1] at h
    exact h
  have H2 : Hid (∀ W, Errs W → Calls Tryd.prog 7 #[.string ⟨#[97, 32, 48, 49]⟩] W fun e w' => TokAns W w' (none, 2) e ∧ Below W.heap.size W w') := by
    show ∀ W, _
    intro W E
    have h := tokens_any txt2 (by decide) W E
    rw [tokS_2] at h
    exact h
  have HE : Hid (Errs w) := E
  clear E
  go_enter Tryd.func8, Tryd.ntmps8
  go_wp2_with fail
  refine (H1.out _ HE.out).mono ?_
  rintro e W1 ⟨⟨v, rfl, hrow, _⟩, hb1⟩
  obtain ⟨a, cap, rfl, hcap, ht⟩ := own_tks hrow (by decide)
  have EW := Lib.hid (HE.out.below hb1)
  have HB1 := Lib.hid hb1
  have HT := Lib.hid ht
  clear hrow hb1 HE H1 ht
  have hcap : 6 ≤ cap := hcap
  have hl6 : toks1.length = 6 := rfl
  rw [hl6]
  go_wp2_with fail
  refine (H2.out _ EW.out).mono ?_
  rintro e W2 ⟨hte, hb2⟩
  have hte : e = .returned (.tuple #[.slice none 0 0, .int .i64 140, .int .i64 2]) := hte
  subst hte
  have HB2 := Lib.hid (HB1.out.trans (hb2.mono HB1.out.size))
  have ht2 := HT.out.below hb2
  obtain ⟨b, off, rfl, c0, c1, c2, c3, hbl⟩ := ht2.at (k := 2) (t := ⟨4, ⟨#[49, 48, 46, 48, 46, 48, 46, 48]⟩, 167772160, 9⟩) rfl
  obtain ⟨b', off', e', d0, d1, d2, d3, _⟩ := ht2.at (k := 5) (t := ⟨7, ⟨#[]⟩, 0, 19⟩) rfl
  cases e'
  clear hb2 ht2 HT EW H2 HB1
  simp only [Nat.reduceMul, Nat.add_assoc, Nat.reduceAdd] at c0 c1 c2 c3 d0 d1 d2 d3
  go_wp2
  go_ret
  refine ⟨rfl, HB2.out⟩
end Go.Proofs.YtajjffjnnjklnaaDoor
