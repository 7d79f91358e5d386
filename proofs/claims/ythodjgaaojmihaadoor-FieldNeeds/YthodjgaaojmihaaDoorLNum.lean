/- Numbers of bytes, the highest first: read, appended, made; rows of the call itself. Conditions: at most six bytes are read, eight appended. -/
import Derived.Test.YthodjgaaojmihaaDoorLOpen
import Derived.Maps.AppendAt
import Derived.OneCell
import Derived.Deep.RegionHeld3
import Derived.Deep.RegionWith
import Derived.Deep.DrawnRows
import Derived.Deep.RegionLaw
namespace Go.Proofs.YthodjgaaojmihaaDoor
open Go.RowKit

/-- The number of some bytes, the highest first. -/
def num (zs : List Int) : Int := zs.foldl (fun x z => x * 256 + z) 0

theorem num_snoc (zs : List Int) (z : Int) : num (zs ++ [z]) = num zs * 256 + z := by simp [num]

theorem take_snoc (zs : List Int) (k : Nat) (h : k < zs.length) : zs.take (k + 1) = zs.take k ++ [zs.getD k 0] := by
  rw [List.take_succ_eq_append_getElem h]
  simp [List.getD_eq_getElem?_getD, h]

theorem num_take (zs : List Int) (k : Nat) (h : k < zs.length) : num (zs.take (k + 1)) = num (zs.take k) * 256 + zs.getD k 0 := by
  rw [take_snoc zs k h, num_snoc]

theorem num_bd (zs : List Int) (h : ∀ i, 0 ≤ zs.getD i 0 ∧ zs.getD i 0 ≤ 255) (k : Nat) : 0 ≤ num (zs.take k) ∧ num (zs.take k) < 256 ^ k := by
  induction k with
  | zero => simp [num]
  | succ k ih =>
    by_cases hk : k < zs.length
    · rw [num_take zs k hk, Int.pow_succ]
      have := h k
      omega
    · rw [List.take_of_length_le (by omega)]
      rw [List.take_of_length_le (by omega)] at ih
      rw [Int.pow_succ]
      omega

theorem num_bd5 (zs : List Int) (h : ∀ i, 0 ≤ zs.getD i 0 ∧ zs.getD i 0 ≤ 255) (k : Nat) (hk : k ≤ 5) : 0 ≤ num (zs.take k) ∧ num (zs.take k) < 1099511627776 := by
  have := num_bd zs h k
  have h2 : (256 : Int) ^ k ≤ 1099511627776 := by
    match k, hk with
    | 0, _ => decide
    | 1, _ => decide
    | 2, _ => decide
    | 3, _ => decide
    | 4, _ => decide
    | 5, _ => decide
  omega

theorem num_bd2 {w : World} {a : Option Addr} {zs : List Int} (h : BS w a 2 zs) : 0 ≤ num zs ∧ num zs ≤ 65535 := by
  have hl := h.len
  have := num_bd zs h.fits 2
  rw [List.take_of_length_le (by omega)] at this
  have h2 : (256 : Int) ^ 2 = 65536 := by decide
  omega

theorem or64 (x y : Int) (hx0 : 0 ≤ x) (hx1 : x < 1099511627776) (hy0 : 0 ≤ y) (hy1 : y ≤ 255) : bits .or .u64 (x * 256) y = x * 256 + y := by
  rw [u64_or _ _ (by omega) (by omega) (by omega) (by omega)]
  rw [nat_join 8 (x * 256).toNat y.toNat (by omega) (by omega)]
  omega

set_option maxHeartbeats 1000000 in
theorem number_some (b off cap : Nat) (zs : List Int) (w : World) (hm : zs.length ≤ 6) (hc : ∀ i, i < zs.length → w.cell? ⟨b, off + i, none⟩ = some (.int .u8 (zs.getD i 0))) (hf : ∀ i, 0 ≤ zs.getD i 0 ∧ zs.getD i 0 ≤ 255) :
    Calls Tryd.prog 23 #[.slice (some ⟨b, off, none⟩) zs.length cap] w fun e w' => e = .returned (.int .u64 (num zs)) ∧ w' = w := by
  go_enter Tryd.func23, Tryd.ntmps23
  go_wp2
  go_loop [3, 5, 8] (fun v _ i => ∃ k : Nat, k ≤ zs.length ∧ i = .int .i64 k ∧ v = .int .u64 (num (zs.take k))) (fun _ _ i => zs.length - (intOf i).toNat)
  case atStart => exact ⟨0, by omega, rfl, rfl⟩
  case round =>
    obtain ⟨k, hk, rfl, rfl⟩ := hrel
    by_cases hlt : k < zs.length
    · have hcj := hc k hlt
      have hfj := hf k
      have hb := num_bd5 zs hf k (by omega)
      have hs : Hid _ := num_take zs k hlt
      have ho := or64 _ _ hb.1 hb.2 hfj.1 hfj.2
      have hlt' : (k : Int) < (zs.length : Int) := by omega
      clear hc hf
      generalize num (zs.take k) = X at *
      generalize zs.getD k 0 = z at *
      go_wp2
      go_round
      case rel => exact ⟨k + 1, by omega, by go_num, by rw [hs.out]⟩
      case measure => simp [intOf]; omega
    · have hT : Hid (zs.take k = zs) := List.take_of_length_le (by omega)
      rw [hT.out]
      go_wp2
      go_ret
      exact ⟨rfl, rfl⟩

theorem number_empty (a : Option Addr) (cap : Nat) (w : World) :
    Calls Tryd.prog 23 #[.slice a 0 cap] w fun e w' => e = .returned (.int .u64 (num [])) ∧ w' = w := by
  go_enter Tryd.func23, Tryd.ntmps23
  go_wp2
  refine wp_loop_rounds 1 ?_
  rw [rounds_succ]
  go_wp2
  go_ret
  exact ⟨rfl, rfl⟩

theorem number_any {a : Option Addr} {n : Nat} {zs : List Int} {w : World} (cap : Nat) (h : BS w a n zs) (hn : n ≤ 6) :
    Calls Tryd.prog 23 #[.slice a n cap] w fun e w' => e = .returned (.int .u64 (num zs)) ∧ w' = w := by
  obtain ⟨rfl, hf, hm, hc⟩ := h
  rcases hc with h0 | ⟨b, off, rfl, hc⟩
  · have hz : zs = [] := List.length_eq_zero_iff.1 h0
    subst hz
    exact number_empty a cap w
  · exact number_some b off cap zs w hn hc hf

/-- A number's bytes, the highest first. -/
def be (v : Int) : Nat → List Int
  | 0 => []
  | s + 1 => (v / 2 ^ (8 * s) % 256) :: be v s

/-- What holds of a row of bytes that grows: where it lay when the call began, and where it lies. -/
structure Row (base : Nat) (W w' : World) (v0 v : Value) (n : Nat) (xs : List Int) : Prop where
  own : w'.ownsRow base 5 1 v n (xs.map (Value.int .u8))
  grown : W.grownBy w' v0.ownBlock
  where_ : v.ownBlock = v0.ownBlock ∨ ∀ k, v.ownBlock = some k → W.heap.size ≤ k

theorem Row.refl {base : Nat} {W : World} {v : Value} {n : Nat} {xs : List Int} (h : W.ownsRow base 5 1 v n (xs.map (Value.int .u8))) : Row base W W v v n xs := ⟨h, World.grownBy.refl _ _, .inl rfl⟩

theorem below1 (w : World) (a : Obj) : Below w.heap.size w (w.alloc a) := (Below.refl _ _).alloc (Nat.le_refl _) _

theorem below2 (w : World) (a b : Obj) : Below w.heap.size w ((w.alloc a).alloc b) := (below1 w a).alloc (by simp) _

theorem below3 (w : World) (a b c : Obj) : Below w.heap.size w (((w.alloc a).alloc b).alloc c) := (below2 w a b).alloc (by simp; omega) _

theorem below4 (w : World) (a b c d : Obj) : Below w.heap.size w ((((w.alloc a).alloc b).alloc c).alloc d) := (below3 w a b c).alloc (by simp; omega) _

/-- A row of bytes of the call's own, over a world that has only grown since w1. -/
structure RB (w1 W : World) (v : Value) (n : Nat) (xs : List Int) : Prop where
  own : W.ownsRow w1.heap.size 5 1 v n (xs.map (Value.int .u8))
  bel : Below w1.heap.size w1 W

theorem RB.drew {w1 W : World} {v : Value} {n : Nat} {xs : List Int} (h : RB w1 W v n xs) : RB w1 W.drew v n xs := ⟨h.own, h.bel.drew⟩

/-- A block of cells that are known. -/
def AtB (W : World) (b : Nat) (arr : Array Value) : Prop := b < W.heap.size ∧ ∀ i, W.cell? ⟨b, i, none⟩ = arr[i]?

theorem atB_new (w : World) (arr : Array Value) (t : TypeId) (b : Nat) (hb : b = w.heap.size) : AtB (w.alloc (.cells arr t)) b arr := by
  subst hb
  exact ⟨by simp, fun i => by simp [go_sem]⟩

theorem AtB.below {w w' : World} {b : Nat} {arr : Array Value} (h : AtB w b arr) (hb : Below w.heap.size w w') : AtB w' b arr :=
  ⟨Nat.lt_of_lt_of_le h.1 hb.size, fun i => (hb.cell h.1).trans (h.2 i)⟩

end Go.Proofs.YthodjgaaojmihaaDoor
