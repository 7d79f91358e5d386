/- Tokens held against tokens, but for their places (the law's own same). Conditions: the tokens can be read. -/
import Derived.Test.YtajjffjnnjklnaaDoorLS
import Derived.Deep.RegionHeld3
namespace Go.Proofs.YtajjffjnnjklnaaDoor
open Go.Shelf Go.RowKit
set_option linter.unusedSimpArgs false
/-- Two lists of tokens that differ in their places alone. -/
def Alike (L M : List Tk) : Prop := L.length = M.length ∧ ∀ (i : Nat) (x y : Tk), L[i]? = some x → M[i]? = some y → x.k = y.k ∧ x.t = y.t ∧ x.n = y.n
theorem below2w (w : World) (A B : Obj) : Below w.heap.size w ((w.alloc A).alloc B).drew := below_drewN (((Below.refl _ _).alloc (Nat.le_refl _) A).alloc (by simp) B) 1
theorem neq_tok (k n a : Int) (t : ByteArray) (W : World) : (binOp .neq 32 (.agg #[.int .i64 k, .string t, .int .u64 n, .int .i64 a]) (.agg #[.int .i64 k, .string t, .int .u64 n, .int .i64 a])).run Tryd.prog W = .ok (.bool false) W := by
  simp [binOp, Op.equal, Op.maxDepth, go_sem]
set_option maxRecDepth 20000 in
set_option maxHeartbeats 16000000 in
theorem same_any (a1 a2 : Option Addr) (n ca cb : Nat) (L M : List Tk) (w : World) (h1 : TKS w a1 n L) (h2 : TKS w a2 n M) (hc1 : n ≤ ca) (hc2 : n ≤ cb) (hA : Alike L M) :
    Calls Tryd.prog 11 #[.slice a1 n ca, .slice a2 n cb, .bool false] w fun e w' => e = .returned (.bool true) ∧ Below w.heap.size w w' := by
  have hl := h1.len
  have hl2 := h2.len
  have hr := h1.room
  have H1 : Hid _ := h1
  have H2 : Hid _ := h2
  have HA : Hid _ := hA
  have hnq := neq_tok
  clear h1 h2 hA
  go_enter Tryd.func11, Tryd.ntmps11
  go_wp2_with fail
  go_loopw [7] (fun i wr => ∃ k : Nat, k ≤ n ∧ i = .int .i64 k ∧ Below w.heap.size w wr) (fun i _ => n - (intOf i).toNat)
  case atStart => exact ⟨0, by omega, rfl, Below.refl _ _⟩
  case round =>
    obtain ⟨k, hk, rfl, hb⟩ := hrel
    have HB : Hid _ := hb
    by_cases hlt : k < n
    · have hkI : (k : Int) < n := by omega
      have hk0 : (0 : Int) ≤ k := by omega
      obtain ⟨x, hx⟩ := getK (os := L) (k := k) (by omega)
      obtain ⟨y, hy⟩ := getK (os := M) (k := k) (by omega)
      obtain ⟨e1, e2, e3⟩ := HA.out.2 k x y hx hy
      obtain ⟨b1, off1, rfl, c0, c1, c2, c3, hbl1⟩ := (H1.out.below hb).at hx
      obtain ⟨b2, off2, rfl, d0, d1, d2, d3, hbl2⟩ := (H2.out.below hb).at hy
      clear hx hy hb
      rw [← e1] at d0
      rw [← e2] at d1
      rw [← e3] at d2
      clear e1 e2 e3
      generalize x.k = xk at *
      generalize x.t = xt at *
      generalize x.n = xn at *
      generalize x.a = xa at *
      generalize y.a = ya at *
      go_wp2_with fail
      go_region
      · go_wp2
        go_roundw
        case rel => exact ⟨k + 1, by omega, by go_num, HB.out.trans ((below2w _ _ _).mono HB.out.size)⟩
        case measure => simp [intOf]; omega
      · go_wp2
        go_roundw
        case rel => exact ⟨k + 1, by omega, by go_num, HB.out.trans ((below2w _ _ _).mono HB.out.size)⟩
        case measure => simp [intOf]; omega
    · obtain rfl : k = n := by omega
      clear hb
      go_wp2
      go_ret
      exact ⟨rfl, HB.out⟩
end Go.Proofs.YtajjffjnnjklnaaDoor
