/- What Word, SetWord and Fits of package octets do. Conditions: the bytes can be read; 8, 12 or 16 bits. -/
import Derived.Test.YthodjgaaojmihaaDoorLNum
import Derived.Test.YthodjgaaojmihaaDoorLSum
namespace Go.Proofs.YthodjgaaojmihaaDoor
open Go.RowKit

theorem word_any (w : World) (b off n cap t : Nat) (zs : List Int) (h : BS w (some ⟨b, off, none⟩) n zs) (hts : t + 2 ≤ n) (hcap : n ≤ cap) :
    Calls Tryd.prog 65 #[.slice (some ⟨b, off, none⟩) n cap, .int .i64 t] w fun e w' => e = .returned (.int .u16 (num ((zs.drop t).take 2))) ∧ w' = w := by
  have hle : (t : Int) + 2 ≤ cap := by omega
  have hne : ¬ cap = t := by omega
  have ht' : (t : Int) ≤ 140737488355328 := by have := h.room; omega
  have H1 := (h.drop (by omega) t (by omega)).take 2 (by omega)
  have hb := num_bd2 H1
  have H : Hid (BS w (some ⟨b, off + t, none⟩) 2 ((zs.drop t).take 2)) := H1
  clear h H1
  go_enter Tryd.func65, Tryd.ntmps65
  go_wp2_with fail
  refine (number_any _ H.out (by omega)).mono ?_
  rintro e w1 ⟨rfl, rfl⟩
  go_wp2
  go_ret
  exact ⟨rfl, rfl⟩

end Go.Proofs.YthodjgaaojmihaaDoor
