/- CtBack: what is held against what. Plain laws; conditions as said. -/
import Derived.Test.YtjjehncnjcepkaaDD
namespace Go.Proofs.Ytjjehncnjcepkaa
open Go.RowKit
set_option maxRecDepth 20000 in
set_option maxHeartbeats 4000000 in
theorem neq_packet {ps : Array Value} (h : PSt ps) (W : World) : (binOp .neq 41 (.agg ps) (.agg ps)).run Try.prog W = .ok (.bool false) W := by
  obtain ⟨c0v, c1v, c2v, c3v, c4v, c5v, c6v, c7v, c8v, c9v, c10v, c11v, c12v, c13v, c14v, c15v, c16v, c17v, c18v, c19v, c20v, c21v, c22v, c23v, c24v, c25v, c26v, c27v, c28v, c29v, c30v, c31v, c32v, c33v, c34v, c35v, rfl⟩ := thirtysix h.size
  obtain ⟨x0, hx0, _⟩ := h.u64 0 (by decide)
  obtain ⟨x1, hx1, _⟩ := h.u64 1 (by decide)
  obtain ⟨x2, hx2⟩ := h.bool 2 (by decide)
  obtain ⟨x3, hx3, _⟩ := h.i64 3 (by decide)
  obtain ⟨x4, hx4, _⟩ := h.i64 4 (by decide)
  obtain ⟨x5, hx5⟩ := h.bool 5 (by decide)
  obtain ⟨x6, hx6, _⟩ := h.i64 6 (by decide)
  obtain ⟨x7, hx7, _⟩ := h.u64 7 (by decide)
  obtain ⟨x8, hx8, _⟩ := h.u32 8 (by decide)
  obtain ⟨x9, hx9, _⟩ := h.u64 9 (by decide)
  obtain ⟨x10, hx10, _⟩ := h.u32 10 (by decide)
  obtain ⟨x11, hx11⟩ := h.bool 11 (by decide)
  obtain ⟨x12, hx12, _⟩ := h.i64 12 (by decide)
  obtain ⟨x13, hx13, _⟩ := h.i64 13 (by decide)
  obtain ⟨x14, hx14, _⟩ := h.i64 14 (by decide)
  obtain ⟨x15, hx15, _⟩ := h.i64 15 (by decide)
  obtain ⟨x16, hx16, _⟩ := h.i64 16 (by decide)
  obtain ⟨x17, hx17, _⟩ := h.u32 17 (by decide)
  obtain ⟨x18, hx18, _⟩ := h.u32 18 (by decide)
  obtain ⟨x19, hx19⟩ := h.str 19 (by decide)
  obtain ⟨x20, hx20, _⟩ := h.i64 20 (by decide)
  obtain ⟨x21, hx21, _⟩ := h.i64 21 (by decide)
  obtain ⟨x22, hx22, _⟩ := h.i64 22 (by decide)
  obtain ⟨x23, hx23, _⟩ := h.u32 23 (by decide)
  obtain ⟨x24, hx24, _⟩ := h.i64 24 (by decide)
  obtain ⟨x25, hx25, _⟩ := h.i64 25 (by decide)
  obtain ⟨x26, hx26⟩ := h.bool 26 (by decide)
  obtain ⟨x27, hx27, _⟩ := h.u32 27 (by decide)
  obtain ⟨x28, hx28, _⟩ := h.u32 28 (by decide)
  obtain ⟨x29, hx29, _⟩ := h.i64 29 (by decide)
  obtain ⟨x30, hx30, _⟩ := h.i64 30 (by decide)
  obtain ⟨x31, hx31, _⟩ := h.i64 31 (by decide)
  obtain ⟨x32, hx32⟩ := h.str 32 (by decide)
  obtain ⟨x33, hx33⟩ := h.str 33 (by decide)
  obtain ⟨x34, hx34⟩ := h.str 34 (by decide)
  obtain ⟨x35, hx35⟩ := h.str 35 (by decide)
  simp only [List.getElem?_toArray, List.getElem?_cons_zero, List.getElem?_cons_succ, Option.some.injEq] at hx0 hx1 hx2 hx3 hx4 hx5 hx6 hx7 hx8 hx9 hx10 hx11 hx12 hx13 hx14 hx15 hx16 hx17 hx18 hx19 hx20 hx21 hx22 hx23 hx24 hx25 hx26 hx27 hx28 hx29 hx30 hx31 hx32 hx33 hx34 hx35
  subst hx0 hx1 hx2 hx3 hx4 hx5 hx6 hx7 hx8 hx9 hx10 hx11 hx12 hx13 hx14 hx15 hx16 hx17 hx18 hx19 hx20 hx21 hx22 hx23 hx24 hx25 hx26 hx27 hx28 hx29 hx30 hx31 hx32 hx33 hx34 hx35
  clear h
  simp [go_sem]
/-- A State whose packet goes to another destination. -/
def mC (L : Array Value) (k dst port : Int) : Array Value := if k = 1 then L.setIfInBounds 18 (.int .u32 dst) else (L.setIfInBounds 18 (.int .u32 dst)).setIfInBounds 25 (.int .i64 port)
theorem mC_size {L : Array Value} (h : L.size = 49) (k dst port : Int) : (mC L k dst port).size = 49 := by unfold mC; split <;> simp [h]
theorem mC_st {L : Array Value} (h : St L) (k dst port : Int) (hd : 0 ≤ dst ∧ dst ≤ 4294967295) (hp : 0 ≤ port ∧ port ≤ 65535) : St (mC L k dst port) := by
  have h1 : St (L.setIfInBounds 18 (.int .u32 dst)) := st_put h 18 _ (by decide) rfl (fun hx => absurd hx (by decide)) (fun hx => absurd hx (by decide)) (fun _ => ⟨dst, rfl, hd⟩) (fun hx => absurd hx (by decide)) (fun hx => absurd hx (by decide))
  unfold mC; split
  · exact h1
  · exact st_put h1 25 _ (by decide) rfl (fun hx => absurd hx (by decide)) (fun _ => ⟨port, rfl, by omega, by omega⟩) (fun hx => absurd hx (by decide)) (fun hx => absurd hx (by decide)) (fun hx => absurd hx (by decide))
theorem mC_ps {L ps : Array Value} (h : L.size = 49) (hps : L.extract 0 (0 + 36) = ps) (k dst port : Int) : (mC L k dst port).extract 0 (0 + 36) = toC ps k dst port := by
  have hs : ps.size = 36 := by rw [← hps]; simp [h]
  have hg : ∀ i, i < 36 → ps[i]? = L[i]? := fun i hi => by rw [← hps, ext_get (by omega) hi, Nat.zero_add]
  apply Array.ext_getElem?
  intro i
  by_cases hi : i < 36
  · rw [ext_get (by rw [mC_size h]; decide) hi, Nat.zero_add]
    unfold mC toC
    have s1 : (ps.setIfInBounds 18 (.int .u32 dst)).size = 36 := by simpa using hs
    have s2 : (L.setIfInBounds 18 (.int .u32 dst)).size = 49 := by simpa using h
    split
    · rw [set_get hs 18 (by decide), get_set h 18 i _ (by decide), hg i hi]
    · rw [set_get s1 25 (by decide), get_set s2 25 i _ (by decide), set_get hs 18 (by decide), get_set h 18 i _ (by decide), hg i hi]
  · rw [Array.getElem?_eq_none (by simp [mC_size h]; omega), Array.getElem?_eq_none (by unfold toC; split <;> (simp; omega))]
theorem mC_orig {L : Array Value} (h : L.size = 49) (k dst port : Int) : (mC L k dst port).extract 44 (44 + 5) = L.extract 44 (44 + 5) := by
  have s2 : (L.setIfInBounds 18 (.int .u32 dst)).size = 49 := by simpa using h
  apply Array.ext_getElem?
  intro i
  by_cases hi : i < 5
  · rw [ext_get (by rw [mC_size h]; decide) hi, ext_get (by rw [h]; decide) hi]
    unfold mC; split
    · rw [get_set h 18 _ _ (by decide), if_neg (by omega)]
    · rw [get_set s2 25 _ _ (by decide), if_neg (by omega), get_set h 18 _ _ (by decide), if_neg (by omega)]
  · rw [Array.getElem?_eq_none (by simp [mC_size h]; omega), Array.getElem?_eq_none (by simp [h]; omega)]
theorem found_size {cs ps : Array Value} (h : cs.size = 49) (t : Tup) (k : Int) (bk nat : Bool) (o r : Tup) : (foundC cs ps t k bk nat o r).size = 49 := by
  unfold foundC; split
  · rw [putC_size]; exact look_size h _ _
  · exact look_size h _ _
theorem found_one {cs ps : Array Value} (h : cs.all (·.oneCell') = true) (hp : ps.all (·.oneCell') = true) (t : Tup) (k : Int) (bk nat : Bool) (o r : Tup) : (foundC cs ps t k bk nat o r).all (·.oneCell') = true := by
  unfold foundC; split
  · exact putC_one9 (look_one h _ _) (chg_one hp k bk o r) 0
  · exact look_one h _ _
theorem found_36 {cs ps : Array Value} (h : cs.size = 49) (hp : ps.size = 36) (t : Tup) (k : Int) (bk nat : Bool) (o r : Tup) : (foundC cs ps t k bk nat o r)[36]? = some (.int .i64 (ctOf bk nat)) := by
  unfold foundC; split
  · rw [putC_get _ _ _ _ (by rw [Array.length_toList, chg_size hp, look_size h]; decide), if_neg (by omega), if_neg (by rw [Array.length_toList, chg_size hp]; omega)]
    exact look_36 h _ _
  · exact look_36 h _ _
theorem found_ps {cs ps : Array Value} (h : cs.size = 49) (hps : cs.extract 0 (0 + 36) = ps) (hp : ps.size = 36) (t : Tup) (k : Int) (bk nat : Bool) (o r : Tup) : (foundC cs ps t k bk nat o r).extract 0 (0 + 36) = if nat then chgC ps k bk o r else ps := by
  unfold foundC
  cases nat
  · rw [if_neg Bool.false_ne_true, if_neg Bool.false_ne_true]
    exact look_ps h hps t _
  · rw [if_pos rfl, if_pos rfl]
    apply Array.ext_getElem?
    intro i
    by_cases hi : i < 36
    · rw [ext_get (by rw [putC_size, look_size h]; decide) hi, Nat.zero_add, putC_get _ _ _ _ (by rw [Array.length_toList, chg_size hp, look_size h]; decide), if_neg (by omega), if_pos (by rw [Array.length_toList, chg_size hp]; omega)]
      simp
    · rw [Array.getElem?_eq_none (by simp [putC_size, look_size h]; omega), Array.getElem?_eq_none (by rw [chg_size hp]; omega)]
/-- Forward, the packet is as it was committed. -/
theorem fwd_same {ps : Array Value} {ip : Bool} {fr pr src dst k ty co re sp dp : Int} (h : Pk ps ip fr pr src dst k ty co re sp dp) (d p : Int) (nat : Bool) (hn : nat = (!decide (turn (pr, src, d, portT k re sp, portT k re (if k = 1 then dp else p)) = turn (pr, src, dst, portT k re sp, portT k re dp)))) :
    (if nat then chgC ps k false (pr, src, dst, portT k re sp, portT k re dp) (turn (pr, src, d, portT k re sp, portT k re (if k = 1 then dp else p))) else ps) = toC ps k d p := by
  cases nat
  · have e : turn (pr, src, d, portT k re sp, portT k re (if k = 1 then dp else p)) = turn (pr, src, dst, portT k re sp, portT k re dp) :=
      Decidable.byContradiction fun hne => by rw [decide_eq_false hne] at hn; cases hn
    clear hn
    have e1 : d = dst := congrArg (fun t => t.2.1) e
    have e2 : portT k re (if k = 1 then dp else p) = portT k re dp := congrArg (fun t => t.2.2.2.1) e
    clear e
    show ps = toC ps k d p
    unfold toC
    subst e1
    have s1 : ps.setIfInBounds 18 (.int .u32 d) = ps := set_self h.c18
    rw [s1]
    by_cases hk : k = 1
    · rw [if_pos hk]
    · rw [if_neg hk]
      rw [if_neg hk] at e2
      unfold portT at e2
      rw [if_neg hk, if_neg hk] at e2
      subst e2
      exact (set_self h.c25).symm
  · clear hn
    show chgC ps k false (pr, src, dst, portT k re sp, portT k re dp) (turn (pr, src, d, portT k re sp, portT k re (if k = 1 then dp else p))) = toC ps k d p
    unfold chgC toC
    by_cases hk : k = 1
    · rw [if_neg Bool.false_ne_true]; simp only [if_pos hk]; rfl
    · rw [if_neg Bool.false_ne_true]; simp only [if_neg hk, portT]; rfl
end Go.Proofs.Ytjjehncnjcepkaa
