/- The document's table: right, find, Get. Conditions: as said. -/
import Derived.Test.YtlopnagajhjmmaaLS
namespace Go.Proofs.Ytlopnagajhjmmaa
open Go.RowKit Tr
/-- The routes of a row. -/
theorem roV_at2 (L : List Ro) (k : Nat) (x : Ro) (h : L[k]? = some x) : (roV L)[k * 3]? = some (.int .u32 x.1.toNat) ∧ (roV L)[k * 3 + 1]? = some (.int .i64 x.2.1) ∧ (roV L)[k * 3 + 2]? = some (.int .i64 x.2.2) := by
  induction L generalizing k with
  | nil => simp at h
  | cons y L ih =>
    cases k with
    | zero => simp at h; subst h; exact ⟨rfl, rfl, rfl⟩
    | succ k =>
      have e : roV (y :: L) = [.int .u32 y.1.toNat, .int .i64 y.2.1, .int .i64 y.2.2] ++ roV L := rfl
      simp only [List.getElem?_cons_succ] at h
      obtain ⟨h0, h1, h2⟩ := ih k h
      rw [e]
      refine ⟨?_, ?_, ?_⟩
      · rw [List.getElem?_append_right (by simp; omega)]; simp only [List.length_cons, List.length_nil]; rw [show (k + 1) * 3 - (0 + 1 + 1 + 1) = k * 3 by omega]; exact h0
      · rw [List.getElem?_append_right (by simp; omega)]; simp only [List.length_cons, List.length_nil]; rw [show (k + 1) * 3 + 1 - (0 + 1 + 1 + 1) = k * 3 + 1 by omega]; exact h1
      · rw [List.getElem?_append_right (by simp; omega)]; simp only [List.length_cons, List.length_nil]; rw [show (k + 1) * 3 + 2 - (0 + 1 + 1 + 1) = k * 3 + 2 by omega]; exact h2
structure RTab (w : World) (B xb : Nat) (L : List Ro) (qa : Option Addr) (qc : Nat) : Prop where
  blk : w.heap[xb]? = some (.cells #[.slice qa L.length qc] 28 (0, 0))
  own : OwnR w B (.slice qa L.length qc) L.length (roV L)
  lo : B ≤ xb
  len : L.length ≤ 274877906944
theorem RTab.at {w : World} {B xb : Nat} {L : List Ro} {qa : Option Addr} {qc : Nat} (h : RTab w B xb L qa qc) {k : Nat} {x : Ro} (hx : L[k]? = some x) : ∃ g, qa = some ⟨g, 0, none⟩ ∧ w.cell? ⟨g, k * 3, none⟩ = some (.int .u32 x.1.toNat) ∧ w.cell? ⟨g, k * 3 + 1, none⟩ = some (.int .i64 x.2.1) ∧ w.cell? ⟨g, k * 3 + 2, none⟩ = some (.int .i64 x.2.2) := by
  have hk : k < L.length := (List.getElem?_eq_some_iff.1 hx).1
  rcases h.own.h.2 with ⟨_, e⟩ | ⟨g, cap, cur, e, q1, q2, q3, q4, q5, q6⟩
  · omega
  · obtain ⟨h0, h1, h2⟩ := roV_at2 L k x hx
    rw [← q6] at h0 h1 h2
    rw [List.getElem?_take, if_pos (by omega), Array.getElem?_toList] at h0 h1 h2
    injection e with e1 e2 e3
    exact ⟨g, e1, (cell_row q2 _).trans h0, (cell_row q2 _).trans h1, (cell_row q2 _).trans h2⟩
set_option maxHeartbeats 1000000 in
theorem rright_any (p : BitVec 32) (n : Int) (h : I64 n) (w : World) : Calls Try.prog 26 #[.int .u32 p.toNat, .int .i64 n] w fun e w' => e = .returned (.bool (decide (chk p n = 0))) ∧ w' = w := by
  rcases (by omega : n < 0 ∨ (0 ≤ n ∧ n ≤ 32) ∨ 32 < n) with g | ⟨g0, g1⟩ | g
  · have E : Hid (decide (chk p n = 0) = false) := by
      show _ = _
      have : chk p n = 1 := if_neg (by omega)
      rw [this]; rfl
    go_enter Try.func26, Try.ntmps26
    go_wp2_with (first
      | (go_at_call 20; refine (rmask_any _ h.1 h.2 _).mono ?_; rintro e w' ⟨rfl, rfl⟩))
    go_ret
    exact ⟨by rw [E.out]; rfl, rfl⟩
  · have EB : Hid ((bits BinOp.andNot IntKind.u32 p.toNat (mskI n).toNat == 0) = rightB p n.toNat) := by
      show _ = _
      obtain ⟨m, rfl⟩ := Int.eq_ofNat_of_zero_le g0
      rw [bits_andNot, bv_nat, bv_nat, mskI_mid m (by omega), zero_eq]
      rfl
    have E : Hid (decide (chk p n = 0) = (bits BinOp.andNot IntKind.u32 p.toNat (mskI n).toNat == 0)) := by
      show _ = _
      rw [EB.out]
      unfold chk
      cases hb : rightB p n.toNat <;> simp [g0, g1]
    go_enter Try.func26, Try.ntmps26
    go_wp2_with (first
      | (go_at_call 20; refine (rmask_any _ h.1 h.2 _).mono ?_; rintro e w' ⟨rfl, rfl⟩))
    go_ret
    exact ⟨by rw [E.out]; first | rfl | simp, rfl⟩
  · have E : Hid (decide (chk p n = 0) = false) := by
      show _ = _
      have : chk p n = 1 := if_neg (by omega)
      rw [this]; rfl
    have g2 : 0 ≤ n := by omega
    go_enter Try.func26, Try.ntmps26
    go_wp2_with (first
      | (go_at_call 20; refine (rmask_any _ h.1 h.2 _).mono ?_; rintro e w' ⟨rfl, rfl⟩))
    go_ret
    exact ⟨by rw [E.out]; rfl, rfl⟩
/-- A route of that prefix and length. -/
def IsK (p : BitVec 32) (n : Int) (x : Ro) : Prop := x.1 = p ∧ (x.2.1 : Int) = n
/-- Where one is found, or that there is none. -/
def FoundAt (L : List Ro) (p : BitVec 32) (n r : Int) : Prop := (∃ (i : Nat) (x : Ro), r = i ∧ L[i]? = some x ∧ IsK p n x) ∨ (r = -1 ∧ ∀ x ∈ L, ¬ IsK p n x)
set_option maxRecDepth 20000 in
set_option maxHeartbeats 2000000 in
theorem rfind_any {w : World} {B xb : Nat} {L : List Ro} {qa : Option Addr} {qc : Nat} (h : RTab w B xb L qa qc) (p : BitVec 32) (n : Int) :
    Calls Try.prog 27 #[ptr xb, .int .u32 p.toNat, .int .i64 n] w fun e w' => ∃ r, e = .returned (.int .i64 r) ∧ FoundAt L p n r ∧ w' = w := by
  have cx : w.cell? ⟨xb, 0, none⟩ = some (.slice qa L.length qc) := cell_row h.blk 0
  have HL : Hid _ := h
  have hlen := h.len
  clear h
  go_enter Try.func27, Try.ntmps27
  go_wp2
  go_loop [7] (fun i => ∃ k : Nat, k ≤ L.length ∧ i = .int .i64 k ∧ Hid (∀ j x, j < k → L[j]? = some x → ¬ IsK p n x)) (fun i => L.length - (intOf i).toNat)
  case atStart => exact ⟨0, Nat.zero_le _, rfl, fun j x hj => by omega⟩
  case round =>
    obtain ⟨k, hk, rfl, hno⟩ := hrel
    by_cases hlt : k < L.length
    · obtain ⟨x, hx⟩ : ∃ x, L[k]? = some x := ⟨L[k], List.getElem?_eq_getElem hlt⟩
      obtain ⟨g, rfl, c0, c1, c2⟩ := HL.out.at hx
      have hI : (k : Int) < (L.length : Int) := by omega
      have HX : Hid _ := hx
      clear hx c2
      by_cases e0 : x.1 = p
      · by_cases e1 : (x.2.1 : Int) = n
        · have d0 : ((x.1.toNat : Int) == (p.toNat : Int)) = true := by rw [e0]; simp
          have d1 : ((x.2.1 : Int) == n) = true := by simpa using e1
          have EK : Hid (IsK p n x) := ⟨e0, e1⟩
          clear e0 e1
          go_wp2
          go_ret
          exact ⟨k, rfl, .inl ⟨k, x, rfl, HX.out, EK.out⟩, rfl⟩
        · have d0 : ((x.1.toNat : Int) == (p.toNat : Int)) = true := by rw [e0]; simp
          have d1 : ((x.2.1 : Int) == n) = false := by simpa using e1
          have EK : Hid (¬ IsK p n x) := fun hh => e1 hh.2
          clear e0 e1
          go_wp2
          go_round
          case rel =>
            refine ⟨k + 1, by omega, by go_num, fun j y hj hy => ?_⟩
            by_cases hjk : j = k
            · subst hjk; rw [HX.out] at hy; injection hy with hy; subst hy; exact EK.out
            · exact hno.out j y (by omega) hy
          case measure => simp [intOf]; omega
      · have d0 : ((x.1.toNat : Int) == (p.toNat : Int)) = false := by
          cases hh : ((x.1.toNat : Int) == (p.toNat : Int)) with
          | false => rfl
          | true => exact absurd (BitVec.eq_of_toNat_eq (by have := eq_of_beq hh; omega)) e0
        have EK : Hid (¬ IsK p n x) := fun hh => e0 hh.1
        clear e0
        go_wp2
        go_round
        case rel =>
          refine ⟨k + 1, by omega, by go_num, fun j y hj hy => ?_⟩
          by_cases hjk : j = k
          · subst hjk; rw [HX.out] at hy; injection hy with hy; subst hy; exact EK.out
          · exact hno.out j y (by omega) hy
        case measure => simp [intOf]; omega
    · have hnl : ¬ (k : Int) < (L.length : Int) := by omega
      go_wp2
      go_ret
      refine ⟨-1, rfl, .inr ⟨rfl, fun x hx => ?_⟩, rfl⟩
      obtain ⟨j, hj⟩ := List.mem_iff_getElem?.1 hx
      exact hno.out j x (by have := (List.getElem?_eq_some_iff.1 hj).1; omega) hj
end Go.Proofs.Ytlopnagajhjmmaa
