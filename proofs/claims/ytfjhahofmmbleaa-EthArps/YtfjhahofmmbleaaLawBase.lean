/- What the laws of heads share: blocks that are known, rows and their room, the bytes of any head. No condition. -/
import Derived.Test.YtfjhahofmmbleaaMath
namespace Go.Proofs.Ytfjhahofmmbleaa
open Go.ChangeShapes Go.WideShapes Go.ChangeAt Go.RowKit

theorem own_empty (w : World) (base : Nat) (hb : base ≤ w.heap.size) : (w.alloc (.cells #[] 5)).ownsRow base 5 1 (.slice (some ⟨w.heap.size, 0, none⟩) 0 0) 0 (([] : List Int).map (Value.int .u8)) :=
  World.ownsRow_made w #[] 0 hb (by unfold maxLen; omega) rfl

theorem own_caps {w : World} {base : Nat} {e : TypeId} {a : Option Addr} {n cap : Nat} {xs : List Value} (h : w.ownsRow base e 1 (.slice a n cap) n xs) : n ≤ cap ∧ cap ≤ 9223372036854775807 := by
  rcases h.2 with ⟨h0, rfl⟩ | ⟨g, cap', cur, e1, _, _, hnc, hm, _⟩
  · have : cap = 0 := by injection h0
    omega
  · have : cap = cap' := by injection e1
    unfold maxLen at hm
    omega

theorem encodeHead_yes (d s : Int) (tg : Bool) (tag ty : Int) (w : World) (hd : 0 ≤ d) (hs : 0 ≤ s) (h : fitsB d s tg tag ty = true) :
    Calls Try.prog 11 #[.agg #[.int .u64 d, .int .u64 s, .bool tg, .int .i64 tag, .int .i64 ty]] w fun e w' => ∃ a cap, e = .returned (.tuple #[.slice a (headBytes d s tg tag ty).length cap, .int .i64 0]) ∧ w'.ownsRow w.heap.size 5 1 (.slice a (headBytes d s tg tag ty).length cap) (headBytes d s tg tag ty).length ((headBytes d s tg tag ty).map (Value.int .u8)) ∧ Below w.heap.size w w' := by
  cases tg
  · exact encodeHead_plain d s tag ty w hd hs h
  · exact encodeHead_tagged d s tag ty w hd hs h

/-- A block of cells that are known. -/
def AtB (W : World) (b : Nat) (arr : Array Value) : Prop := b < W.heap.size ∧ ∀ i, W.cell? ⟨b, i, none⟩ = arr[i]?
theorem atB_new (w : World) (arr : Array Value) (t : TypeId) (b : Nat) (hb : b = w.heap.size) : AtB (w.alloc (.cells arr t)) b arr := by
  subst hb
  exact ⟨by simp, fun i => by simp [go_sem]⟩
theorem AtB.below {w w' : World} {b : Nat} {arr : Array Value} (h : AtB w b arr) (hb : Below w.heap.size w w') : AtB w' b arr :=
  ⟨Nat.lt_of_lt_of_le h.1 hb.size, fun i => (hb.cell h.1).trans (h.2 i)⟩
theorem AtB.five {W : World} {b : Nat} {x0 x1 x2 x3 x4 : Value} (h : AtB W b #[x0, x1, x2, x3, x4]) :
    W.cell? ⟨b, 0, none⟩ = some x0 ∧ W.cell? ⟨b, 1, none⟩ = some x1 ∧ W.cell? ⟨b, 2, none⟩ = some x2 ∧ W.cell? ⟨b, 3, none⟩ = some x3 ∧ W.cell? ⟨b, 4, none⟩ = some x4 :=
  ⟨h.2 0, h.2 1, h.2 2, h.2 3, h.2 4⟩

theorem headBytes_bd (d s : Int) (tg : Bool) (tag ty : Int) : ∀ i, 0 ≤ (headBytes d s tg tag ty).getD i 0 ∧ (headBytes d s tg tag ty).getD i 0 ≤ 255 := by
  unfold headBytes
  cases tg
  · exact fits_append (fits_append (fits_append (be_bd _ _) (be_bd _ _)) (fun i => by simp)) (be_bd _ _)
  · exact fits_append (fits_append (fits_append (be_bd _ _) (be_bd _ _)) (fits_append (be_bd _ _) (be_bd _ _))) (be_bd _ _)
theorem headBytes_len (d s : Int) (tg : Bool) (tag ty : Int) : (headBytes d s tg tag ty).length ≤ 18 := by
  cases tg <;> simp [headBytes, be_len]

end Go.Proofs.Ytfjhahofmmbleaa
