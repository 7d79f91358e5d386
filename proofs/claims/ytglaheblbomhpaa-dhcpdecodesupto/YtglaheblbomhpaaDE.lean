/- What isOp, fixedFits, optionFits, optionsFit of package dhcp answer; loops by goto in a scope with several labels. Conditions: the options can be read. -/
import Derived.Test.YtglaheblbomhpaaDD2
namespace Go.Proofs.Ytglaheblbomhpaa
open Go.RowKit

theorem from_loop {P : Program} {Q : Exit → Act → World → Prop} {c rest : Code} {l : Nat} (hf : findLabel c l = some (Code.skip.seq rest)) (J : Act → World → Prop) (μ : Act → World → Nat)
    (pass : ∀ a w, J a w → (∀ a' w', J a' w' → μ a' w' < μ a w → FromLabel P c Q l a' w') → rest.wp P (Exit.jumpTo P c Q) a w) : ∀ a w, J a w → FromLabel P c Q l a w := by
  have key : ∀ n a w, μ a w = n → J a w → FromLabel P c Q l a w := by
    intro n
    induction n using Nat.strongRecOn with
    | _ n ih =>
      intro a w hn hJ
      exact from_label hf (pass a w hJ fun a' w' hJ' hlt => ih _ (hn ▸ hlt) a' w' rfl hJ')
  exact fun a w => key _ a w rfl

/-- A scope with several labels, of which l heads a loop. -/
theorem scope_loop {P : Program} {a : Act} {w : World} {Q : Exit → Act → World → Prop} {c rest : Code} (l : Nat) (J : Act → World → Prop) (μ : Act → World → Nat) (hf : findLabel c l = some (Code.skip.seq rest))
    (pass : ∀ a w, J a w → Hid (∀ a' w', J a' w' → μ a' w' < μ a w → FromLabel P c Q l a' w') → rest.wp P (Exit.jumpTo P c Q) a w)
    (first : Hid (∀ a w, J a w → rest.wp P (Exit.jumpTo P c Q) a w) → c.wp P (Exit.jumpTo P c Q) a w) : (Code.scope c).wp P Q a w :=
  scope_from (first (fun a w hJ => pass a w hJ (fun a' w' hJ' _ => from_loop hf J μ pass a' w' hJ')))

theorem isOp_any (op : Int) (w : World) : Calls Try.prog 33 #[.int .i64 op] w fun e w' => e = .returned (.bool (op == 1 || op == 2)) ∧ w' = w := by
  by_cases h : op = 1
  · subst h
    go_enter Try.func33, Try.ntmps33
    go_wp2
    go_ret
    exact ⟨rfl, rfl⟩
  · have e : (op == 1) = false := by simp [h]
    rw [e, Bool.false_or]
    go_enter Try.func33, Try.ntmps33
    go_wp2
    go_ret
    exact ⟨rfl, rfl⟩

/-- Do the numbers of a message's fixed part fit? -/
def fixB (op secs flags ch : Int) : Bool := (op == 1 || op == 2) && (fitN 16 secs && (fitN 16 flags && decide (ch ≤ 281474976710655)))

theorem fix_any (op xid secs flags ci yi si gi ch : Int) (s : Value) (w : World) :
    Calls Try.prog 23 #[dhcpV op xid secs flags ci yi si gi ch s] w fun e w' => e = .returned (.bool (fixB op secs flags ch)) ∧ Below w.heap.size w w' := by
  unfold fixB dhcpV
  cases c0 : (op == 1 || op == 2)
  · simp only [Bool.false_and]
    go_enter Try.func23, Try.ntmps23
    go_wp2_with (go_at_call 33; refine (isOp_any _ _).mono ?_; rw [c0]; rintro e w' ⟨rfl, rfl⟩)
    go_ret
    exact ⟨rfl, below1 w _⟩
  cases c1 : fitN 16 secs
  · simp only [Bool.false_and, Bool.true_and]
    go_enter Try.func23, Try.ntmps23
    go_wp2_with (first | (go_at_call 33; refine (isOp_any _ _).mono ?_; rw [c0]; rintro e w' ⟨rfl, rfl⟩) | (go_at_call 36; refine (fitN_any _ _ (by omega) _).mono ?_; rintro e w' ⟨rfl, rfl⟩))
    go_ret
    exact ⟨rfl, below1 w _⟩
  cases c2 : fitN 16 flags
  · simp only [Bool.false_and, Bool.true_and]
    go_enter Try.func23, Try.ntmps23
    go_wp2_with (first | (go_at_call 33; refine (isOp_any _ _).mono ?_; rw [c0]; rintro e w' ⟨rfl, rfl⟩) | (go_at_call 36; refine (fitN_any _ _ (by omega) _).mono ?_; rintro e w' ⟨rfl, rfl⟩))
    go_ret
    exact ⟨rfl, below1 w _⟩
  simp only [Bool.true_and]
  go_enter Try.func23, Try.ntmps23
  go_wp2_with (first | (go_at_call 33; refine (isOp_any _ _).mono ?_; rw [c0]; rintro e w' ⟨rfl, rfl⟩) | (go_at_call 36; refine (fitN_any _ _ (by omega) _).mono ?_; rintro e w' ⟨rfl, rfl⟩))
  go_ret
  exact ⟨rfl, below1 w _⟩

/-- Does an option fit? -/
def optB (o : Opt) : Bool := (o.cls == 0) && (decide (0 < o.code) && (decide (o.code < 255) && decide ((o.data.size : Int) ≤ 255)))

theorem opt_any (o : Opt) (w : World) :
    Calls Try.prog 37 #[.agg #[.int .i64 o.cls, .int .i64 o.code, .string o.data]] w fun e w' => e = .returned (.bool (optB o)) ∧ Below w.heap.size w w' := by
  unfold optB
  cases c0 : (o.cls == 0)
  · simp only [Bool.false_and]
    go_enter Try.func37, Try.ntmps37
    go_wp2
    go_ret
    exact ⟨rfl, below1 w _⟩
  by_cases c1 : ¬ 0 < o.code
  · rw [show decide (0 < o.code) = false from by simpa using c1]
    simp only [Bool.false_and, Bool.and_false]
    go_enter Try.func37, Try.ntmps37
    go_wp2
    go_ret
    exact ⟨rfl, below1 w _⟩
  have d1 : 0 < o.code := Classical.not_not.1 c1
  by_cases c2 : ¬ o.code < 255
  · rw [show decide (o.code < 255) = false from by simpa using c2]
    simp only [Bool.false_and, Bool.and_false]
    clear c1
    go_enter Try.func37, Try.ntmps37
    go_wp2
    go_ret
    exact ⟨rfl, below1 w _⟩
  have d2 : o.code < 255 := Classical.not_not.1 c2
  rw [show decide (0 < o.code) = true from by simpa using d1, show decide (o.code < 255) = true from by simpa using d2]
  simp only [Bool.true_and]
  clear c1 c2
  go_enter Try.func37, Try.ntmps37
  go_wp2
  go_ret
  exact ⟨rfl, below1 w _⟩

def optsB (os : List Opt) : Bool := decide (os.length ≤ 64) && os.all optB

/-- What holds at optionsFit's label: the first k options fit. -/
def FitAt (a : Option Addr) (n cap : Nat) (os : List Opt) (w : World) (a' : Act) (w' : World) : Prop :=
  ∃ (k : Nat) (u4 u5 u6 u7 u8 u9 u10 u11 u12 u13 u14 u15 u16 u17 u18 : Value), a' = { tmps := #[.slice a n cap, undef, .bool false, .int .i64 (k : Nat), u4, u5, u6, u7, u8, u9, u10, u11, u12, u13, u14, u15, u16, u17, u18], defers := [] } ∧ k ≤ n ∧ Hid ((os.drop k).all optB = os.all optB) ∧ Hid (Below w.heap.size w w')

set_option maxHeartbeats 1000000 in
theorem opts_any (a : Option Addr) (n cap : Nat) (os : List Opt) (w : World) (h : OS w a n os) :
    Calls Try.prog 24 #[.slice a n cap] w fun e w' => e = .returned (.bool (optsB os)) ∧ Below w.heap.size w w' := by
  have hl := h.len
  have hr := h.room
  have H : Hid _ := h
  clear h
  by_cases hn : 64 < n
  · have e : Hid (optsB os = false) := by show _ = _; unfold optsB; rw [show decide (os.length ≤ 64) = false from by simp; omega, Bool.false_and]
    have hnI : (64 : Int) < n := by omega
    go_enter Try.func24, Try.ntmps24
    go_wp2_with fail
    refine scope_from ?_
    go_wp2_with fail
    go_step3
    show FromLabel _ _ _ _ _ _
    refine from_label rfl ?_
    go_wp2
    simp only [Exit.jumpTo]
    go_ret
    exact ⟨congrArg (fun b => Ending.returned (.bool b)) e.out.symm, Below.refl _ _⟩
  · have he : Hid (optsB os = os.all optB) := by show _ = _; unfold optsB; rw [show decide (os.length ≤ 64) = true from by simp; omega, Bool.true_and]
    have hnI : (n : Int) ≤ 64 := by omega
    go_enter Try.func24, Try.ntmps24
    go_wp2_with fail
    refine scope_loop 1 (FitAt a n cap os w) (fun a' w' => n - slotAt 3 a' w') rfl ?_ ?_
    · rintro a' w' ⟨k, u4, u5, u6, u7, u8, u9, u10, u11, u12, u13, u14, u15, u16, u17, u18, rfl, hk, hF, hB⟩ IH
      by_cases hlt : k = n
      · have HF : Hid (os.all optB = true) := by
          show _ = _
          rw [← hF.out, List.drop_of_length_le (by omega)]; rfl
        have e0 : ((k : Int) == (n : Int)) = true := by simp [hlt]
        clear hF hlt IH
        go_wp2
        simp only [Exit.jumpTo]
        go_ret
        exact ⟨congrArg (fun b => Ending.returned (.bool b)) (he.out.trans HF.out).symm, hB.out⟩
      · have hkn : k < n := by omega
        have hkI : (k : Int) < (n : Int) := by omega
        have e0 : ((k : Int) == (n : Int)) = false := by simp; omega
        obtain ⟨o, ho⟩ : ∃ o, os[k]? = some o := ⟨os[k]'(by omega), List.getElem?_eq_getElem (by omega)⟩
        obtain ⟨b, off, rfl, c0, c1, c2⟩ : ∃ b off, a = some ⟨b, off, none⟩ ∧ w'.cell? ⟨b, off + k * 3, none⟩ = some (.int .i64 o.cls) ∧ w'.cell? ⟨b, off + k * 3 + 1, none⟩ = some (.int .i64 o.code) ∧ w'.cell? ⟨b, off + k * 3 + 2, none⟩ = some (.string o.data) := by
          rcases (H.out.below hB.out).cells with h0 | ⟨b, off, e, hc⟩
          · omega
          · exact ⟨b, off, e, hc k o ho⟩
        have hD := drop_cons ho
        have HD : Hid ((o :: os.drop (k + 1)).all optB = os.all optB) := by rw [← hD]; exact hF
        clear hF hD H hlt ho
        go_wp2_with fail
        refine (opt_any o _).mono ?_
        rintro e W1 ⟨rfl, hb1⟩
        have HB1 : Hid (Below w.heap.size w W1) := hB.out.trans (hb1.mono hB.out.size)
        clear hb1 hB c0 c1 c2
        cases ho : optB o
        · have HF : Hid (os.all optB = false) := by show _ = _; rw [← HD.out]; simp [ho]
          go_wp2_with fail
          go_step3
          show FromLabel _ _ _ _ _ _
          refine from_label rfl ?_
          go_wp2
          simp only [Exit.jumpTo]
          go_ret
          exact ⟨congrArg (fun b => Ending.returned (.bool b)) (he.out.trans HF.out).symm, HB1.out⟩
        · have HF : Hid ((os.drop (k + 1)).all optB = os.all optB) := by show _ = _; rw [← HD.out]; simp [ho]
          go_wp2_with fail
          go_step3
          show FromLabel _ _ _ _ _ _
          refine IH.out _ _ ⟨k + 1, _, _, _, _, _, _, _, _, _, _, _, _, _, _, _, by first | rfl | go_num, by omega, HF, HB1⟩ ?_
          simp [slotAt, intOf]; omega
    · intro HG
      go_wp2_with fail
      go_step3
      rename_i K hK
      exact hK _ _ (HG.out _ _ ⟨0, _, _, _, _, _, _, _, _, _, _, _, _, _, _, _, rfl, by omega, rfl, Below.refl _ _⟩)
end Go.Proofs.Ytglaheblbomhpaa
