/- AddrText of package eth. Condition: the library's table lies as laid. -/
import Derived.Test.YtkianiglibkbhaaDoorEE
namespace Go.Proofs.YtkianiglibkbhaaDoor
open Go.RowKit
/-- The text of an address. -/
def addrText (ip : Int) : List Int := decs (ip / 16777216 % 256) ++ [46] ++ decs (ip / 65536 % 256) ++ [46] ++ decs (ip / 256 % 256) ++ [46] ++ decs (ip / 1 % 256)
theorem str_size (l : List Int) : (strOfNums l).size = l.length := by
  show (strOfNums l).data.size = _
  simp [strOfNums]
theorem decs_len (n : Int) : (decs n).length ≤ 3 := by
  unfold decs
  split
  · simp
  · split <;> simp
theorem decs_size (n : Int) : (strOfNums (decs n)).size ≤ 3 := by rw [str_size]; exact decs_len n
set_option maxHeartbeats 1000000 in
theorem addrText_any (ip : Int) (hip : 0 ≤ ip ∧ ip ≤ 4294967295) (w : World) (ht : Tab10 w) :
    Calls Tryd.prog 12 #[.int .u32 ip] w fun e w' => e = .returned (.string (strOfNums (addrText ip))) ∧ Below w.heap.size w w' := by
  have hlt : Hid (w.heap.size < (w.alloc (.cells #[.int .u32 ip] 23)).heap.size) := by show w.heap.size < _; simp
  have c0 : (w.alloc (.cells #[.int .u32 ip] 23)).cell? ⟨w.heap.size, 0, none⟩ = some (.int .u32 ip) := by simp
  have b0 : Below w.heap.size w (w.alloc (.cells #[.int .u32 ip] 23)) := (Below.refl _ _).alloc (Nat.le_refl _) _
  have t0 : Tab10 (w.alloc (.cells #[.int .u32 ip] 23)) := ht.below b0
  have C0 : Hid _ := c0
  have B0 : Hid _ := b0
  have T0 : Hid _ := t0
  clear c0 b0 t0 ht
  have z1 := decs_size (ip / 16777216 % 256)
  have z2 := decs_size (ip / 65536 % 256)
  have z3 := decs_size (ip / 256 % 256)
  have z4 := decs_size (ip % 256)
  go_enter Tryd.func12, Tryd.ntmps12
  go_wp2_with fail
  refine (part_any ip hip w.heap.size 24 16777216 (by simp) _ C0.out T0.out).mono ?_
  rintro e w1 ⟨rfl, b1⟩
  have C1 : Hid (w1.cell? ⟨w.heap.size, 0, none⟩ = some (.int .u32 ip)) := (b1.cell hlt.out).trans C0.out
  have T1 : Hid (Tab10 w1) := Tab10.below (w := _) T0.out b1
  have B1 : Hid (Below w.heap.size w w1) := B0.out.trans (b1.mono (by have := B0.out.size; omega))
  replace hlt : Hid (w.heap.size < w1.heap.size) := Nat.lt_of_lt_of_le hlt.out b1.size
  clear b1
  go_wp2_with fail
  refine (part_any ip hip w.heap.size 16 65536 (by simp) _ C1.out T1.out).mono ?_
  rintro e w2 ⟨rfl, b2⟩
  have C2 : Hid (w2.cell? ⟨w.heap.size, 0, none⟩ = some (.int .u32 ip)) := (b2.cell hlt.out).trans C1.out
  have T2 : Hid (Tab10 w2) := Tab10.below (w := _) T1.out b2
  have B2 : Hid (Below w.heap.size w w2) := B1.out.trans (b2.mono (by have := B1.out.size; omega))
  replace hlt : Hid (w.heap.size < w2.heap.size) := Nat.lt_of_lt_of_le hlt.out b2.size
  clear b2
  go_wp2_with fail
  refine (part_any ip hip w.heap.size 8 256 (by simp) _ C2.out T2.out).mono ?_
  rintro e w3 ⟨rfl, b3⟩
  have C3 : Hid (w3.cell? ⟨w.heap.size, 0, none⟩ = some (.int .u32 ip)) := (b3.cell hlt.out).trans C2.out
  have T3 : Hid (Tab10 w3) := Tab10.below (w := _) T2.out b3
  have B3 : Hid (Below w.heap.size w w3) := B2.out.trans (b3.mono (by have := B2.out.size; omega))
  replace hlt : Hid (w.heap.size < w3.heap.size) := Nat.lt_of_lt_of_le hlt.out b3.size
  clear b3
  go_wp2_with fail
  refine (part_any ip hip w.heap.size 0 1 (by simp) _ C3.out T3.out).mono ?_
  rintro e w4 ⟨rfl, b4⟩
  have C4 : Hid (w4.cell? ⟨w.heap.size, 0, none⟩ = some (.int .u32 ip)) := (b4.cell hlt.out).trans C3.out
  have T4 : Hid (Tab10 w4) := Tab10.below (w := _) T3.out b4
  have B4 : Hid (Below w.heap.size w w4) := B3.out.trans (b4.mono (by have := B3.out.size; omega))
  replace hlt : Hid (w.heap.size < w4.heap.size) := Nat.lt_of_lt_of_le hlt.out b4.size
  clear b4
  go_wp2
  go_ret
  refine ⟨?_, B4.out⟩
  have h46 : (⟨#[46]⟩ : ByteArray) = strOfNums [46] := rfl
  rw [h46]
  unfold addrText
  simp only [str_app, Int.ediv_one]
  rfl
end Go.Proofs.YtkianiglibkbhaaDoor
