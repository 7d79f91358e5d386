/- CtBack: the answer, and what comes of it. Plain laws; conditions as said. -/
import Derived.Test.YtmndfmbnedfloaaDE
namespace Go.Proofs.Ytmndfmbnedfloaa
open Go.RowKit
theorem chg_pk {ps : Array Value} {ip : Bool} {fr pr src dst k ty co re sp dp : Int} (h : Pk ps ip fr pr src dst k ty co re sp dp) (o r : Tup) : Pk (chgC ps k true o r) ip fr pr o.2.2.1 dst k ty co re (if k = 1 then sp else o.2.2.2.2) dp := by
  have s1 : (ps.setIfInBounds 17 (.int .u32 o.2.2.1)).size = 36 := by simpa using h.size
  have g1 := set_get h.size 17 (by decide) (.int .u32 o.2.2.1)
  have g2 := set_get s1 24 (by decide) (.int .i64 o.2.2.2.2)
  unfold chgC
  rw [if_pos rfl]
  by_cases e : k = 1
  · rw [if_pos e, if_pos e]
    refine ⟨s1, ?_, ?_, ?_, ?_, ?_, ?_, ?_, ?_, ?_, ?_, ?_, h.rb⟩
    all_goals rw [g1]
    · exact h.c11
    · exact h.c14
    · exact h.c16
    · rfl
    · exact h.c18
    · exact h.c20
    · exact h.c21
    · exact h.c22
    · exact h.c23
    · exact h.c24
    · exact h.c25
  · rw [if_neg e, if_neg e]
    refine ⟨by simpa using s1, ?_, ?_, ?_, ?_, ?_, ?_, ?_, ?_, ?_, ?_, ?_, h.rb⟩
    all_goals rw [g2]
    · rw [if_neg (by decide), g1]; exact h.c11
    · rw [if_neg (by decide), g1]; exact h.c14
    · rw [if_neg (by decide), g1]; exact h.c16
    · rw [if_neg (by decide), g1]; rfl
    · rw [if_neg (by decide), g1]; exact h.c18
    · rw [if_neg (by decide), g1]; exact h.c20
    · rw [if_neg (by decide), g1]; exact h.c21
    · rw [if_neg (by decide), g1]; exact h.c22
    · rw [if_neg (by decide), g1]; exact h.c23
    · rfl
    · rw [if_neg (by decide), g1]; exact h.c25
theorem port_same (k re a b : Int) : portT k re (if k = 1 then a else portT k re b) = portT k re b := by
  unfold portT
  by_cases e : k = 1
  · simp [e]
  · simp [e]
/-- What the answer's packet says. -/
theorem back_pk {ps : Array Value} {ip : Bool} {fr pr src dst k ty co re sp dp : Int} (h : Pk ps ip fr pr src dst k ty co re sp dp) (q : Array Value) (hq : q = ansC ps k dst src (portT k re dp) (portT k re sp)) (y : Tup) (hy : y = (pr, src, dst, portT k re sp, portT k re dp)) :
    ∃ s' d' sp' dp', Pk q ip fr pr s' d' k ty co re sp' dp' ∧ (pr, s', d', portT k re sp', portT k re dp') = turn y := by
  refine ⟨dst, src, _, _, by rw [hq]; exact ans_pk h dst src (portT k re dp) (portT k re sp), ?_⟩
  rw [port_same, port_same, hy]; rfl
theorem back_tup {ps : Array Value} {ip : Bool} {fr pr src dst k ty co re sp dp : Int} (h : Pk ps ip fr pr src dst k ty co re sp dp) (d dp' : Int) (q : Array Value) (hq : q = ansC ps k dst src (portT k re dp) (portT k re sp)) (x : Tup) (hx : x = (pr, src, d, portT k re sp, portT k re dp')) (y : Tup) (hy : y = (pr, src, dst, portT k re sp, portT k re dp)) (nat : Bool) (hn : nat = (!decide (turn y = turn x))) :
    ∃ s' d' sp' dp'', Pk (if nat then chgC q k true x (turn y) else q) ip fr pr s' d' k ty co re sp' dp'' ∧ (pr, s', d', portT k re sp', portT k re dp'') = turn x := by
  cases nat
  · have e : turn y = turn x := Decidable.byContradiction fun hne => by rw [decide_eq_false hne] at hn; cases hn
    obtain ⟨s', d', sp', dp1, h1, h2⟩ := back_pk h q hq y hy
    rw [if_neg Bool.false_ne_true]
    exact ⟨s', d', sp', dp1, h1, h2.trans e⟩
  · rw [if_pos rfl]
    have h1 : Pk q ip fr pr dst src k ty co re (if k = 1 then sp else portT k re dp) (if k = 1 then dp else portT k re sp) := by rw [hq]; exact ans_pk h dst src (portT k re dp) (portT k re sp)
    refine ⟨_, _, _, _, chg_pk h1 x (turn y), ?_⟩
    rw [port_same, hx]
    show (pr, d, src, portT k re (if k = 1 then _ else portT k re dp'), portT k re sp) = (pr, d, src, portT k re dp', portT k re sp)
    rw [port_same]
end Go.Proofs.Ytmndfmbnedfloaa
