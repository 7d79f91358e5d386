/- CtBack: the packets that a law makes of a packet. Plain laws; conditions as said. -/
import Derived.Test.YtjjehncnjcepkaaDA
import Derived.Test.YtjjehncnjcepkaaCZ
namespace Go.Proofs.Ytjjehncnjcepkaa
open Go.RowKit
theorem pst_u32 {ps : Array Value} (h : PSt ps) (i : Nat) (hi : i ∈ [8, 10, 17, 18, 23, 27, 28]) (x : Int) (hx : 0 ≤ x ∧ x ≤ 4294967295) : PSt (ps.setIfInBounds i (.int .u32 x)) := by
  have hi36 : i < 36 := by simp only [List.mem_cons, List.not_mem_nil, or_false] at hi; omega
  have gs : ∀ j, (ps.setIfInBounds i (.int .u32 x))[j]? = if i = j then some (.int .u32 x) else ps[j]? := fun j => by
    rw [Array.getElem?_setIfInBounds]; by_cases e : i = j
    · subst e; simp [h.size, hi36]
    · simp [e]
  refine ⟨by simpa using h.size, set_one h.one rfl, fun j hj => ?_, fun j hj => ?_, fun j hj => ?_, fun j hj => ?_, fun j hj => ?_⟩
  · rw [gs, if_neg (by simp only [List.mem_cons, List.not_mem_nil, or_false] at hi hj; omega)]; exact h.u64 j hj
  · rw [gs, if_neg (by simp only [List.mem_cons, List.not_mem_nil, or_false] at hi hj; omega)]; exact h.i64 j hj
  · rw [gs]; by_cases e : i = j
    · rw [if_pos e]; exact ⟨x, rfl, hx⟩
    · rw [if_neg e]; exact h.u32 j hj
  · rw [gs, if_neg (by simp only [List.mem_cons, List.not_mem_nil, or_false] at hi hj; omega)]; exact h.bool j hj
  · rw [gs, if_neg (by simp only [List.mem_cons, List.not_mem_nil, or_false] at hi hj; omega)]; exact h.str j hj
theorem pst_i64 {ps : Array Value} (h : PSt ps) (i : Nat) (hi : i ∈ [3, 4, 6, 12, 13, 14, 15, 16, 20, 21, 22, 24, 25, 29, 30, 31]) (x : Int) (hx : -9223372036854775808 ≤ x ∧ x ≤ 9223372036854775807) : PSt (ps.setIfInBounds i (.int .i64 x)) := by
  have hi36 : i < 36 := by simp only [List.mem_cons, List.not_mem_nil, or_false] at hi; omega
  have gs : ∀ j, (ps.setIfInBounds i (.int .i64 x))[j]? = if i = j then some (.int .i64 x) else ps[j]? := fun j => by
    rw [Array.getElem?_setIfInBounds]; by_cases e : i = j
    · subst e; simp [h.size, hi36]
    · simp [e]
  refine ⟨by simpa using h.size, set_one h.one rfl, fun j hj => ?_, fun j hj => ?_, fun j hj => ?_, fun j hj => ?_, fun j hj => ?_⟩
  · rw [gs, if_neg (by simp only [List.mem_cons, List.not_mem_nil, or_false] at hi hj; omega)]; exact h.u64 j hj
  · rw [gs]; by_cases e : i = j
    · rw [if_pos e]; exact ⟨x, rfl, hx⟩
    · rw [if_neg e]; exact h.i64 j hj
  · rw [gs, if_neg (by simp only [List.mem_cons, List.not_mem_nil, or_false] at hi hj; omega)]; exact h.u32 j hj
  · rw [gs, if_neg (by simp only [List.mem_cons, List.not_mem_nil, or_false] at hi hj; omega)]; exact h.bool j hj
  · rw [gs, if_neg (by simp only [List.mem_cons, List.not_mem_nil, or_false] at hi hj; omega)]; exact h.str j hj
/-- A packet to another destination. -/
def toC (ps : Array Value) (k dst port : Int) : Array Value := if k = 1 then ps.setIfInBounds 18 (.int .u32 dst) else (ps.setIfInBounds 18 (.int .u32 dst)).setIfInBounds 25 (.int .i64 port)
theorem to_pst {ps : Array Value} (h : PSt ps) (k dst port : Int) (hd : 0 ≤ dst ∧ dst ≤ 4294967295) (hp : 0 ≤ port ∧ port ≤ 65535) : PSt (toC ps k dst port) := by
  unfold toC; split
  · exact pst_u32 h 18 (by decide) dst hd
  · exact pst_i64 (pst_u32 h 18 (by decide) dst hd) 25 (by decide) port (by omega)
theorem set18 {ps : Array Value} (hs : ps.size = 36) (v : Value) (j : Nat) : (ps.setIfInBounds 18 v)[j]? = if 18 = j then some v else ps[j]? := by
  rw [Array.getElem?_setIfInBounds]; by_cases e : 18 = j
  · subst e; simp [hs]
  · simp [e]
theorem set_get {ps : Array Value} (hs : ps.size = 36) (i : Nat) (hi : i < 36) (v : Value) (j : Nat) : (ps.setIfInBounds i v)[j]? = if i = j then some v else ps[j]? := by
  rw [Array.getElem?_setIfInBounds]; by_cases e : i = j
  · subst e; simp [hs, hi]
  · simp [e]
theorem to_pk {ps : Array Value} {ip : Bool} {fr pr src dst k ty co re sp dp : Int} (h : Pk ps ip fr pr src dst k ty co re sp dp) (d p : Int) : Pk (toC ps k d p) ip fr pr src d k ty co re sp (if k = 1 then dp else p) := by
  have s1 : (ps.setIfInBounds 18 (.int .u32 d)).size = 36 := by simpa using h.size
  have g1 := set_get h.size 18 (by decide) (.int .u32 d)
  have g2 := set_get s1 25 (by decide) (.int .i64 p)
  unfold toC
  by_cases e : k = 1
  · rw [if_pos e, if_pos e]
    refine ⟨s1, ?_, ?_, ?_, ?_, ?_, ?_, ?_, ?_, ?_, ?_, ?_, h.rb⟩
    all_goals rw [g1]
    · exact h.c11
    · exact h.c14
    · exact h.c16
    · exact h.c17
    · rfl
    · exact h.c20
    · exact h.c21
    · exact h.c22
    · exact h.c23
    · exact h.c24
    · exact h.c25
  · rw [if_neg e, if_neg e]
    refine ⟨by simpa using s1, ?_, ?_, ?_, ?_, ?_, ?_, ?_, ?_, ?_, ?_, ?_, h.rb⟩
    all_goals rw [g2]
    · rw [if_neg (by decide), g1]; exact h.c11
    · rw [if_neg (by decide), g1]; exact h.c14
    · rw [if_neg (by decide), g1]; exact h.c16
    · rw [if_neg (by decide), g1]; exact h.c17
    · rw [if_neg (by decide), g1]; rfl
    · rw [if_neg (by decide), g1]; exact h.c20
    · rw [if_neg (by decide), g1]; exact h.c21
    · rw [if_neg (by decide), g1]; exact h.c22
    · rw [if_neg (by decide), g1]; exact h.c23
    · rw [if_neg (by decide), g1]; exact h.c24
    · rfl
/-- The answer to a packet: its addresses turned. -/
def ansC (ps : Array Value) (k src dst sp dp : Int) : Array Value := if k = 1 then (ps.setIfInBounds 17 (.int .u32 src)).setIfInBounds 18 (.int .u32 dst) else ((((ps.setIfInBounds 17 (.int .u32 src)).setIfInBounds 18 (.int .u32 dst)).setIfInBounds 24 (.int .i64 sp)).setIfInBounds 25 (.int .i64 dp))
theorem ans_pst {ps : Array Value} (h : PSt ps) (k src dst sp dp : Int) (hs : 0 ≤ src ∧ src ≤ 4294967295) (hd : 0 ≤ dst ∧ dst ≤ 4294967295) (hp : -9223372036854775808 ≤ sp ∧ sp ≤ 9223372036854775807) (hq : -9223372036854775808 ≤ dp ∧ dp ≤ 9223372036854775807) : PSt (ansC ps k src dst sp dp) := by
  unfold ansC; split
  · exact pst_u32 (pst_u32 h 17 (by decide) src hs) 18 (by decide) dst hd
  · exact pst_i64 (pst_i64 (pst_u32 (pst_u32 h 17 (by decide) src hs) 18 (by decide) dst hd) 24 (by decide) sp hp) 25 (by decide) dp hq
theorem ans_pk {ps : Array Value} {ip : Bool} {fr pr src dst k ty co re sp dp : Int} (h : Pk ps ip fr pr src dst k ty co re sp dp) (s d p q : Int) : Pk (ansC ps k s d p q) ip fr pr s d k ty co re (if k = 1 then sp else p) (if k = 1 then dp else q) := by
  have s1 : (ps.setIfInBounds 17 (.int .u32 s)).size = 36 := by simpa using h.size
  have s2 : ((ps.setIfInBounds 17 (.int .u32 s)).setIfInBounds 18 (.int .u32 d)).size = 36 := by simpa using s1
  have s3 : (((ps.setIfInBounds 17 (.int .u32 s)).setIfInBounds 18 (.int .u32 d)).setIfInBounds 24 (.int .i64 p)).size = 36 := by simpa using s2
  have g1 := set_get h.size 17 (by decide) (.int .u32 s)
  have g2 := set_get s1 18 (by decide) (.int .u32 d)
  have g3 := set_get s2 24 (by decide) (.int .i64 p)
  have g4 := set_get s3 25 (by decide) (.int .i64 q)
  unfold ansC
  by_cases e : k = 1
  · rw [if_pos e, if_pos e, if_pos e]
    refine ⟨s2, ?_, ?_, ?_, ?_, ?_, ?_, ?_, ?_, ?_, ?_, ?_, h.rb⟩
    all_goals simp only [g2, g1, if_pos, Nat.reduceEqDiff, if_false]
    · exact h.c11
    · exact h.c14
    · exact h.c16
    · exact h.c20
    · exact h.c21
    · exact h.c22
    · exact h.c23
    · exact h.c24
    · exact h.c25
  · rw [if_neg e, if_neg e, if_neg e]
    refine ⟨by simpa using s3, ?_, ?_, ?_, ?_, ?_, ?_, ?_, ?_, ?_, ?_, ?_, h.rb⟩
    all_goals simp only [g4, g3, g2, g1, if_pos, Nat.reduceEqDiff, if_false]
    · exact h.c11
    · exact h.c14
    · exact h.c16
    · exact h.c20
    · exact h.c21
    · exact h.c22
    · exact h.c23
end Go.Proofs.Ytjjehncnjcepkaa
