/- A head and an ARP packet, read and made again. No condition. -/
import Derived.Test.YthodjgaaojmihaaDoorXA
import Derived.Test.YthodjgaaojmihaaDoorXH
import Derived.OneCell
import Derived.Test.YthodjgaaojmihaaDoorXM
namespace Go.Proofs.YthodjgaaojmihaaDoor.Eth
open Go.RowKit
/-- What a frame's head is. -/
def headV (zs : List Int) : Value :=
  if 9018 < zs.length then ethV 0 0 false 0 0 0 3
  else if zs.length < 14 then ethV 0 0 false 0 0 0 20
  else if num ((zs.drop 12).take 2) ≠ 33024 then ethV (num (zs.take 6)) (num ((zs.drop 6).take 6)) false 0 (num ((zs.drop 12).take 2)) 14 0
  else if zs.length < 18 then ethV 0 0 false 0 0 0 20
  else if num ((zs.drop 16).take 2) = 33024 then ethV 0 0 false 0 0 0 21
  else ethV (num (zs.take 6)) (num ((zs.drop 6).take 6)) true (num ((zs.drop 14).take 2)) (num ((zs.drop 16).take 2)) 18 0

theorem head_any {w : World} {a : Option Addr} {n : Nat} (cap : Nat) {zs : List Int} (h : BS w a n zs) (hcap : n ≤ cap) (hm : cap ≤ 9223372036854775807) :
    Calls Tryd.prog 9 #[.slice a n cap] w fun e w' => e = .returned (headV zs) ∧ Below w.heap.size w w' := by
  have hl := h.len
  unfold headV
  rw [hl]
  by_cases h1 : 9018 < n
  · rw [if_pos h1]; exact head_long w a n cap h1
  rw [if_neg h1]
  by_cases h2 : n < 14
  · rw [if_pos h2]; exact head_short w a n cap h2
  rw [if_neg h2]
  obtain ⟨b, off, rfl, _⟩ := h.cells.resolve_left (by omega)
  by_cases h3 : num ((zs.drop 12).take 2) ≠ 33024
  · rw [if_pos h3]; exact head_plain w b off n cap zs h hcap hm (by omega) (by omega) h3
  rw [if_neg h3]
  have h3' : num ((zs.drop 12).take 2) = 33024 := Classical.not_not.1 h3
  by_cases h4 : n < 18
  · rw [if_pos h4]; exact head_short2 w b off n cap zs h hcap hm (by omega) (by omega) h3'
  rw [if_neg h4]
  by_cases h5 : num ((zs.drop 16).take 2) = 33024
  · rw [if_pos h5]; exact head_twice w b off n cap zs h hcap hm (by omega) (by omega) h3' h5
  · rw [if_neg h5]; exact head_tagged w b off n cap zs h hcap hm (by omega) (by omega) h3' h5

end Go.Proofs.YthodjgaaojmihaaDoor.Eth
