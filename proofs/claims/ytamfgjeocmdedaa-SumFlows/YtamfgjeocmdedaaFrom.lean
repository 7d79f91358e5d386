/- The contracts of lives, Sum and Add, carried over a world that has only grown. No condition of their own. -/
import Derived.Test.YtamfgjeocmdedaaOpen
namespace Go.Proofs.Ytamfgjeocmdedaa
open Go.RowKit
theorem lives_from {w W : World} (h : Below w.heap.size w W) : Calls Try.prog 9 #[] W fun e w' => e = .returned (.bool true) ∧ Below w.heap.size w w' :=
  (lives_any W).mono fun _ _ ⟨he, hb⟩ => ⟨he, h.trans (hb.mono h.size)⟩
theorem sum_from {w W : World} {a : Option Addr} {n : Nat} {zs : List Int} (cap : Nat) (hb : BS w a n zs) (h : Below w.heap.size w W) :
    Calls Try.prog 10 #[.slice a n cap] W fun e w' => e = .returned (.int .u16 (fld (wsum zs))) ∧ Below w.heap.size w w' :=
  (sum_any cap (hb.below h)).mono fun _ _ ⟨he, nq, hq⟩ => ⟨he, hq ▸ below_drewN h nq⟩
theorem add_from {w W : World} (a b : Int) (ha0 : 0 ≤ a) (ha1 : a ≤ 65535) (hb0 : 0 ≤ b) (hb1 : b ≤ 65535) (h : Below w.heap.size w W) :
    Calls Try.prog 14 #[.int .u16 a, .int .u16 b] W fun e w' => e = .returned (.int .u16 (fld (a + b))) ∧ Below w.heap.size w w' :=
  (add_any a b ha0 ha1 hb0 hb1 W).mono fun _ _ ⟨he, hq⟩ => ⟨he, hq ▸ h⟩

end Go.Proofs.Ytamfgjeocmdedaa
