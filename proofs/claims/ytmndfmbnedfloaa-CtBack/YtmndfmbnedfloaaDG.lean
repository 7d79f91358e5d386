/- CtBack: the walk. Conditions: the packet's cells are of their kinds, it has a tuple, the numbers are in their bounds. -/
import Derived.Test.YtmndfmbnedfloaaDF
namespace Go.Proofs.Ytmndfmbnedfloaa
open Go.RowKit
theorem cut_code {c d : Code} {Q : Exit → Act → World → Prop} {a : Act} {w : World} (h : ∀ d', Hid (d = d') → Code.wp Try.prog (c.seq d') Q a w) : Code.wp Try.prog (c.seq d) Q a w := h d rfl
theorem name_post {c : Code} {Q : Exit → Act → World → Prop} {a : Act} {w : World} (h : ∀ Q', Hid (Q = Q') → Code.wp Try.prog c Q' a w) : Code.wp Try.prog c Q a w := h Q rfl
theorem wpList_neq_want {ops : Array Oper} {rest : List Oper} {op : Oper} {a : Act} {w : World} {Q : Exit → Act → World → Prop} (hw : Region.wanted op (yielded ops a.tmps) = true) (b : BinOp) (t rt : TypeId) (x y : Operand) (ho : op.op = .binOp b t x y rt)
    (u v r : Value) (hx : a.eval x = u) (hy : a.eval y = v) (hg : (eqGuard b t x y u v).run Try.prog w = .ok () w) (hb : (binOp b t u v).run Try.prog w = .ok r w)
    (h : wpList Try.prog ops Q rest (a.put op.dst r) w) : wpList Try.prog ops Q (op :: rest) a w := by
  refine BigFrame.wpList_want hw fun K hK => ?_
  unfold Oper.wp execOp
  simp only [ho, hx, hy, Sem.run_bind, hg, hb, Result.andThen_ok, Sem.run_pure]
  exact hK _ _ h
theorem yields_bin {ops : Array Oper} {S : World → Prop} {op : Oper} {a : Act} (hw : Region.wanted op (yielded ops a.tmps) = true) (b : BinOp) (t rt : TypeId) (x y : Operand) (ho : op.op = .binOp b t x y rt)
    (u v r : Value) (hx : a.eval x = u) (hy : a.eval y = v) (hg : ∀ w, (eqGuard b t x y u v).run Try.prog w = .ok () w) (hb : ∀ w, (binOp b t u v).run Try.prog w = .ok r w) : YieldsIf Try.prog ops S op r a :=
  .inl ⟨hw, fun w _ => by
    unfold execOp
    simp only [ho, hx, hy, Sem.run_bind, hg w, hb w, Result.andThen_ok, Sem.run_pure]⟩
theorem neq_cells {w : World} {g g' : Nat} {C C' : Array Value} {t t' : TypeId} (h : w.heap[g]? = some (.cells C t (0, 0))) (h' : w.heap[g']? = some (.cells C' t' (0, 0))) (ht : t ≠ t') : g ≠ g' := by
  rintro rfl
  rw [h] at h'
  injection h' with h'
  injection h' with _ h2
  exact ht h2
theorem neq_map {w : World} {g g' : Nat} {C : Array Value} {t : TypeId} {m : Array _} {n : Nat} (h : w.heap[g]? = some (.cells C t (0, 0))) (h' : w.heap[g']? = some (.map m n)) : g ≠ g' := by
  rintro rfl
  rw [h] at h'
  cases h'
theorem neq_row {w : World} {g : Nat} {C : Array Value} {t t' : TypeId} (h : w.heap[g]? = some (.cells C t (0, 0))) (ht : t ≠ t') (C' : Array Value) : w.heap[g]? ≠ some (.cells C' t' (0, 0)) := by
  rw [h]
  intro e
  injection e with h'
  injection h' with _ h2
  exact ht h2
theorem guard_pk (x y : Operand) (A B : Array Value) (W : World) : (eqGuard .neq 33 x y (.agg A) (.agg B)).run Try.prog W = .ok () W := by kernel_rfl
theorem and2 (nat : Bool) (W : World) : (binOp .and 3 (.int .i64 (ctOf false nat)) (.int .i64 2)).run Try.prog W = .ok (.int .i64 2) W := by cases nat <;> kernel_rfl
theorem and4 (nat : Bool) (W : World) : (binOp .and 3 (.int .i64 (ctOf false nat)) (.int .i64 4)).run Try.prog W = .ok (.int .i64 0) W := by cases nat <;> kernel_rfl
theorem and6 (nat : Bool) (W : World) : (binOp .and 3 (.int .i64 (ctOf true nat)) (.int .i64 6)).run Try.prog W = .ok (.int .i64 6) W := by cases nat <;> kernel_rfl
theorem gand (x y : Operand) (u v : Value) (W : World) : (eqGuard .and 3 x y u v).run Try.prog W = .ok () W := by kernel_rfl
theorem lt_of_cell {w : World} {g o : Nat} {v : Value} (h : w.cell? ⟨g, o, none⟩ = some v) : g < w.heap.size := by
  by_cases hg : g < w.heap.size
  · exact hg
  · have : w.heap[g]? = none := Array.getElem?_eq_none (by omega)
    simp [World.cell?, this] at h
theorem wp_store_int {op : Oper} {a : Act} {w : World} {K : Act → World → Prop} {Q : Exit → Act → World → Prop} (ty : TypeId) (x y : Operand) (ho : op.op = .store ty x y)
    (g o : Nat) (old : Array Value) (kd : IntKind) (n : Int) (t : TypeId) (hx : a.eval x = .pointer (some ⟨g, o, none⟩)) (hy : a.eval y = .int kd n) (hg : w.heap[g]? = some (.cells old t (0, 0)))
    (hz : ∀ W, (sizeOf ty).run Try.prog W = .ok 1 W) (hs : o < old.size)
    (h : K (a.put op.dst undef) (w.setCell ⟨g, o, none⟩ (.int kd n))) : op.wp Try.prog a w K Q := by
  have f := frozen_of_row w g o old t hg
  have c : w.cell? ⟨g, o, none⟩ = some old[o] := by rw [cell_row hg]; exact Array.getElem?_eq_getElem hs
  unfold Oper.wp execOp
  simp only [ho, hx, hy, Sem.run_bind, Instr.storeAt, Instr.sureAddr, Sem.run_pure, Result.andThen_ok]
  go_simp
  exact h
set_option linter.unusedSimpArgs false in
set_option maxRecDepth 20000 in
set_option maxHeartbeats 16000000 in
theorem back_icmp (ps : Array Value) (h : PSt ps) {fr pr src dst ty co re sp dp : Int} (hp : Pk ps true fr pr src dst 1 ty co re sp dp) (hR : TupR (pr, src, dst, portT 1 re sp, portT 1 re dp)) (hT : hasT true fr 1 ty co = true) (d port zone : Int) (hd : 0 ≤ d ∧ d ≤ 4294967295) (hpo : 0 ≤ port ∧ port ≤ 65535) (hz : 0 ≤ zone ∧ zone ≤ 65535) (w : World) :
    Calls Try.prog 4 #[.agg ps, .int .u32 d, .int .i64 port, .int .i64 zone] w fun e w' => e = .returned (.bool true) ∧ Below w.heap.size w w' := by
  obtain ⟨x, hx⟩ : ∃ x, (pr, src, dst, portT 1 re sp, portT 1 re dp) = x := ⟨_, rfl⟩
  have hx1 : x.1 = pr := by rw [← hx]
  obtain ⟨dp2, hdp2⟩ : ∃ dp2, (if (1 : Int) = 1 then dp else port) = dp2 := ⟨_, rfl⟩
  have hto := to_pk hp d port
  rw [hdp2] at hto
  obtain ⟨y, hy⟩ : ∃ y, (pr, src, d, portT 1 re sp, portT 1 re dp2) = y := ⟨_, rfl⟩
  have htp : PSt (toC ps 1 d port) := to_pst h 1 d port hd hpo
  have hOx : ∀ W, Calls Try.prog 9 #[.agg ps] W fun e w' => e = .returned (.tuple #[tv x, .bool true]) ∧ Below W.heap.size W w' := fun W => by rw [← hx]; exact of_yes hp hT W
  have hOy : ∀ W, Calls Try.prog 9 #[.agg (toC ps 1 d port)] W fun e w' => e = .returned (.tuple #[tv y, .bool true]) ∧ Below W.heap.size W w' := fun W => by rw [← hy]; exact of_yes hto hT W
  have hLE : ∀ {W : World} {B tb zb c : Nat} {room clock : Int} {q : Value}, Emp W B tb zb c room clock q → Calls Try.prog 15 #[.pointer (some ⟨tb, 0, none⟩), .int .i64 zone, .agg (stP ps)] W fun e w' => e = .returned (.tuple #[.agg (lookC (stP ps) x 1), .int .i64 0]) ∧ Below W.heap.size W w' := fun hE => by rw [← hx]; exact look_emp hE zone hz.1 hz.2 (stP ps) ps h.st (stP_ps h.size) hp hT
  obtain ⟨L, hL⟩ : ∃ L, lookC (stP ps) x 1 = L := ⟨_, rfl⟩
  have hLst : St L := by rw [← hL]; exact look_st h.st (by rw [← hx]; exact hR) 1 (by omega)
  have hLo : L.extract 44 (44 + 5) = tupC x.1 x.2.1 x.2.2.1 x.2.2.2.1 x.2.2.2.2 := by rw [← hL]; exact look_orig h.st.size x 1
  have hLp : L.extract 0 (0 + 36) = ps := by rw [← hL]; exact look_ps h.st.size (stP_ps h.size) x 1
  have hL36 : L[36]? = some (.int .i64 1) := by rw [← hL]; exact look_36 h.st.size x 1
  obtain ⟨M, hM⟩ : ∃ M, mC L 1 d port = M := ⟨_, rfl⟩
  have hMst : St M := by rw [← hM]; exact mC_st hLst 1 d port hd hpo
  have hMp : M.extract 0 (0 + 36) = toC ps 1 d port := by rw [← hM]; exact mC_ps hLst.size hLp 1 d port
  have hMo : M.extract 44 (44 + 5) = tupC x.1 x.2.1 x.2.2.1 x.2.2.2.1 x.2.2.2.2 := by rw [← hM, mC_orig hLst.size]; exact hLo
  obtain ⟨nat, hnat⟩ : ∃ nat, (!decide (turn y = turn x)) = nat := ⟨_, rfl⟩
  have hCM : ∀ {W : World} {B tb zb c : Nat} {room clock : Int} {q : Value}, Emp W B tb zb c room clock q → B ≤ W.heap.size → 1 ≤ room → 0 ≤ clock ∧ clock ≤ 4611686018427387904 → Calls Try.prog 16 #[.pointer (some ⟨tb, 0, none⟩), .int .i64 zone, .agg M] W fun e w' => e = .returned (.int .i64 0) ∧ (∃ qg qc cur eb g1 g2, HasC w' B tb zb c room clock zone x (turn y) nat (clock + 30) qg qc cur eb g1 g2) ∧ Below B W w' ∧ (∀ g, g < W.heap.size → g ≠ tb → g ≠ zb → (∀ C, W.heap[g]? ≠ some (.cells C 73 (0, 0))) → w'.heap[g]? = W.heap[g]?) := fun hE hB hr hc => by
    have := commit_emp hE hB hr hc zone hz.1 hz.2 M (toC ps 1 d port) hMst hMp hto hT x hMo hx1
    rw [hy, hnat] at this
    exact this
  have hF : ∀ {W : World} {B tb zb c : Nat} {room clock ex : Int} {qg qc : Nat} {cur : Array Value} {eb g1 g2 : Nat}, HasC W B tb zb c room clock zone x (turn y) nat ex qg qc cur eb g1 g2 → B ≤ W.heap.size → 0 ≤ clock ∧ clock ≤ 4611686018427387904 → Calls Try.prog 15 #[.pointer (some ⟨tb, 0, none⟩), .int .i64 zone, .agg (stP ps)] W fun e w' => e = .returned (.tuple #[.agg (foundC (stP ps) ps x 1 false nat x (turn y)), .int .i64 0]) ∧ HasC w' B tb zb c room clock zone x (turn y) nat (clock + 30) qg qc cur eb g1 g2 ∧ Below B W w' ∧ (∀ g, g < W.heap.size → g ≠ eb → w'.heap[g]? = W.heap[g]?) := fun hE hB hc =>
    look_found false hE hB hc hz.1 hz.2 (stP ps) ps h.st (stP_ps h.size) hp hT x hx rfl (by intro _ hk; rw [← hy]; simp [turn, portT, hk])
  obtain ⟨F, hFe⟩ : ∃ F, foundC (stP ps) ps x 1 false nat x (turn y) = F := ⟨_, rfl⟩
  have hFs : F.size = 49 := by rw [← hFe]; exact found_size h.st.size _ _ _ _ _ _
  have hFo : F.all (·.oneCell') = true := by rw [← hFe]; exact found_one h.st.one h.one _ _ _ _ _ _
  have hF36 : F[36]? = some (.int .i64 (ctOf false nat)) := by rw [← hFe]; exact found_36 h.st.size h.size _ _ _ _ _ _
  have hFp : F.extract 0 (0 + 36) = toC ps 1 d port := by
    rw [← hFe, found_ps h.st.size (stP_ps h.size) h.size]
    rw [← hx, ← hy, ← hdp2]
    exact fwd_same hp d port nat (by rw [← hnat, ← hx, ← hy, ← hdp2])
  obtain ⟨q, hq⟩ : ∃ q, ansC (toC ps 1 d port) 1 d src (portT 1 re dp2) (portT 1 re sp) = q := ⟨_, rfl⟩
  have hyR : TupR y := by
    rw [← hy]
    have r := hR
    refine ⟨r.a, r.b, hd, r.d, ?_⟩
    show -9223372036854775808 ≤ portT 1 re dp2 ∧ portT 1 re dp2 ≤ 9223372036854775807
    have hrb := hp.rb
    have hre : dp2 = dp ∨ dp2 = port := by rw [← hdp2]; split <;> simp
    have r5 := r.e
    simp only at r5
    unfold portT at r5 ⊢
    simp at r5 ⊢; omega
  have hqp : PSt q := by
    rw [← hq]
    have r := hyR
    rw [← hy] at r
    exact ans_pst htp 1 d src _ _ hd hR.b r.e r.d
  have hbp := back_pk hto q hq.symm y hy.symm
  obtain ⟨s2, d2, sp2, dq2, hqk, hqt⟩ := hbp
  have hbt := back_tup hto dst dp q hq.symm x hx.symm y hy.symm nat hnat.symm
  obtain ⟨s3, d3, sp3, dq3, hrk, hrt⟩ := hbt
  have hG : ∀ {W : World} {B tb zb c : Nat} {room clock ex : Int} {qg qc : Nat} {cur : Array Value} {eb g1 g2 : Nat}, y ≠ turn x → HasC W B tb zb c room clock zone x (turn y) nat ex qg qc cur eb g1 g2 → B ≤ W.heap.size → 0 ≤ clock ∧ clock ≤ 4611686018427387904 → Calls Try.prog 15 #[.pointer (some ⟨tb, 0, none⟩), .int .i64 zone, .agg (stP q)] W fun e w' => e = .returned (.tuple #[.agg (foundC (stP q) q (turn y) 1 true nat x (turn y)), .int .i64 0]) ∧ HasC w' B tb zb c room clock zone x (turn y) nat (clock + 30) qg qc cur eb g1 g2 ∧ Below B W w' ∧ (∀ g, g < W.heap.size → g ≠ eb → w'.heap[g]? = W.heap[g]?) := fun hne hE hB hc =>
    look_found true hE hB hc hz.1 hz.2 (stP q) q hqp.st (stP_ps hqp.size) hqk hT (turn y) hqt ⟨fun e => hne (by rw [← e]; rfl), rfl⟩ (by intro _ hk; rw [← hx]; simp [portT, hk])
  obtain ⟨G, hGe⟩ : ∃ G, foundC (stP q) q (turn y) 1 true nat x (turn y) = G := ⟨_, rfl⟩
  have hGs : G.size = 49 := by rw [← hGe]; exact found_size hqp.st.size _ _ _ _ _ _
  have hGo : G.all (·.oneCell') = true := by rw [← hGe]; exact found_one hqp.st.one hqp.one _ _ _ _ _ _
  have hG36 : G[36]? = some (.int .i64 (ctOf true nat)) := by rw [← hGe]; exact found_36 hqp.st.size hqp.size _ _ _ _ _ _
  obtain ⟨rp, hrp⟩ : ∃ rp, (if nat then chgC q 1 true x (turn y) else q) = rp := ⟨_, rfl⟩
  have hGp : G.extract 0 (0 + 36) = rp := by rw [← hGe, found_ps hqp.st.size (stP_ps hqp.size) hqp.size, hrp]
  rw [hrp] at hrk
  have hrs : rp.size = 36 := hrk.size
  have hOz : ∀ W, Calls Try.prog 9 #[.agg rp] W fun e w' => e = .returned (.tuple #[tv (turn x), .bool true]) ∧ Below W.heap.size W w' := fun W => by rw [← hrt]; exact of_yes hrk hT W
  rw [hFe] at hF
  rw [hGe] at hG
  rw [hL] at hLE
  have hnp := neq_packet htp
  have bS := st_built h.size
  have bQ := st_built hqp.size
  have hq0 : ansC (toC ps 1 d port) 1 d src (portT 1 re dp2) (portT 1 re sp) = q := hq
  have htk20 := hto.c20
  obtain ⟨TP, hTP⟩ : ∃ TP, toC ps 1 d port = TP := ⟨_, rfl⟩
  rw [hTP] at hOy hMp hFp hnp hq0 htk20 htp
  obtain ⟨CS, hCS⟩ : ∃ C, stP ps = C := ⟨_, rfl⟩
  obtain ⟨CQ, hCQ⟩ : ∃ C, stP q = C := ⟨_, rfl⟩
  rw [hCS] at hLE hF bS
  rw [hCQ] at hG bQ
  obtain ⟨Xc, hXc⟩ : ∃ A, tupC x.1 x.2.1 x.2.2.1 x.2.2.2.1 x.2.2.2.2 = A := ⟨_, rfl⟩
  obtain ⟨Yc, hYc⟩ : ∃ A, tupC y.1 y.2.1 y.2.2.1 y.2.2.2.1 y.2.2.2.2 = A := ⟨_, rfl⟩
  obtain ⟨Tc, hTc⟩ : ∃ A, tupC (turn x).1 (turn x).2.1 (turn x).2.2.1 (turn x).2.2.2.1 (turn x).2.2.2.2 = A := ⟨_, rfl⟩
  have vX : tv x = .agg Xc := by rw [← hXc]; rfl
  have vY : tv y = .agg Yc := by rw [← hYc]; rfl
  have vT : tv (turn x) = .agg Tc := by rw [← hTc]; rfl
  have tX : ∀ W, Calls Try.prog 12 #[.agg Xc] W fun e w' => e = .returned (.agg Tc) ∧ Below W.heap.size W w' := fun W => by rw [← vX, ← vT]; exact turned_any x W
  have tY : ∀ W, Calls Try.prog 12 #[.agg Yc] W fun e w' => e = .returned (tv (turn y)) ∧ Below W.heap.size W w' := fun W => by rw [← vY]; exact turned_any y W
  have nXX : ∀ W, (binOp .neq 35 (.agg Xc) (.agg Xc)).run Try.prog W = .ok (.bool false) W := fun W => by rw [← vX, neq_tup]; simp
  have gXX : ∀ a b W, (eqGuard .neq 35 a b (.agg Xc) (.agg Xc)).run Try.prog W = .ok () W := fun a b W => by rw [← vX]; exact guard_tup a b x x W
  have eTT : ∀ W, (binOp .eql 35 (.agg Tc) (.agg Tc)).run Try.prog W = .ok (.bool true) W := fun W => by rw [← vT, eql_tup]; simp
  have gTT : ∀ a b W, (eqGuard .eql 35 a b (.agg Tc) (.agg Tc)).run Try.prog W = .ok () W := fun a b W => by rw [← vT]; exact guard_eql a b (turn x) (turn x) W
  have eYT : ∀ W, (binOp .eql 35 (.agg Yc) (.agg Tc)).run Try.prog W = .ok (.bool (decide (y = turn x))) W := fun W => by rw [← vY, ← vT, eql_tup]
  have gYT : ∀ a b W, (eqGuard .eql 35 a b (.agg Yc) (.agg Tc)).run Try.prog W = .ok () W := fun a b W => by rw [← vY, ← vT]; exact guard_eql a b y (turn x) W
  have eUX : ∀ W, (binOp .eql 35 (tv (turn y)) (.agg Xc)).run Try.prog W = .ok (.bool (decide (turn y = x))) W := fun W => by rw [← vX, eql_tup]
  have gUX : ∀ a b W, (eqGuard .eql 35 a b (tv (turn y)) (.agg Xc)).run Try.prog W = .ok () W := fun a b W => by rw [← vX]; exact guard_eql a b (turn y) x W
  rw [vX] at hOx
  rw [vY] at hOy
  rw [vT] at hOz
  rw [hXc] at hLo hMo
  have sX : Xc.size = 5 := by rw [← hXc]; rfl
  have sY : Yc.size = 5 := by rw [← hYc]; rfl
  have sT : Tc.size = 5 := by rw [← hTc]; rfl
  have oX : Xc.all (·.oneCell') = true := by rw [← hXc]; exact tup_one _ _ _ _ _
  have oY : Yc.all (·.oneCell') = true := by rw [← hYc]; exact tup_one _ _ _ _ _
  have oT : Tc.all (·.oneCell') = true := by rw [← hTc]; exact tup_one _ _ _ _ _
  have y1 : Yc[1]? = some (.int .u32 src) := by rw [← hYc, ← hy]; rfl
  have y2 : Yc[2]? = some (.int .u32 d) := by rw [← hYc, ← hy]; rfl
  have y3 : Yc[3]? = some (.int .i64 (portT 1 re sp)) := by rw [← hYc, ← hy]; rfl
  have y4 : Yc[4]? = some (.int .i64 (portT 1 re dp2)) := by rw [← hYc, ← hy]; rfl
  have hqs : q.size = 36 := hqp.size
  have hqo : q.all (·.oneCell') = true := hqp.one
  have tps : TP.size = 36 := htp.size
  have tpo : TP.all (·.oneCell') = true := htp.one
  have iP : (Try.prog.info? 33).map (·.size) = some ps.size := infoPk h.size
  have hturn : turn y = x ↔ y = turn x := ⟨fun e => by rw [← e]; rfl, fun e => by rw [e]; rfl⟩
  have NhOx : Hid _ := @hOx
  have NhOy : Hid _ := @hOy
  have NhLE : Hid _ := @hLE
  have NhCM : Hid _ := @hCM
  have NhF : Hid _ := @hF
  have NhG : Hid _ := @hG
  have NhOz : Hid _ := @hOz
  have NhLst : Hid _ := @hLst
  have NhLo : Hid _ := @hLo
  have NhLp : Hid _ := @hLp
  have NhL36 : Hid _ := @hL36
  have NhMst : Hid _ := @hMst
  have NhMp : Hid _ := @hMp
  have NhM : Hid _ := @hM
  have NhFs : Hid _ := @hFs
  have NhFo : Hid _ := @hFo
  have NhF36 : Hid _ := @hF36
  have NhFp : Hid _ := @hFp
  have NhGs : Hid _ := @hGs
  have NhGo : Hid _ := @hGo
  have NhG36 : Hid _ := @hG36
  have NhGp : Hid _ := @hGp
  have Nhrs : Hid _ := @hrs
  have NbS : Hid _ := @bS
  have NbQ : Hid _ := @bQ
  have Nhq0 : Hid _ := @hq0
  have Nhtk20 : Hid _ := @htk20
  have NtX : Hid _ := @tX
  have NtY : Hid _ := @tY
  have NsX : Hid _ := @sX
  have NsY : Hid _ := @sY
  have NsT : Hid _ := @sT
  have NoX : Hid _ := @oX
  have NoY : Hid _ := @oY
  have NoT : Hid _ := @oT
  have Ny1 : Hid _ := @y1
  have Ny2 : Hid _ := @y2
  have Ny3 : Hid _ := @y3
  have Ny4 : Hid _ := @y4
  have Nhqs : Hid _ := @hqs
  have Nhqo : Hid _ := @hqo
  have Ntps : Hid _ := @tps
  have Ntpo : Hid _ := @tpo
  have NiP : Hid _ := @iP
  have Nhturn : Hid _ := @hturn
  have Nhz : Hid _ := @hz
  have hLg : ∀ i, i < 36 → L[i]? = ps[i]? := fun i hi => by rw [← hLp, ext_get (by rw [hLst.size]; decide) hi, Nat.zero_add]
  have NL18 : Hid (L[18]? = some (.int .u32 dst)) := (hLg 18 (by decide)).trans hp.c18
  have NL20 : Hid (L[20]? = some (.int .i64 1)) := (hLg 20 (by decide)).trans hp.c20
  have NL25 : Hid (L[25]? = some (.int .i64 dp)) := (hLg 25 (by decide)).trans hp.c25
  clear hLg
  have NnXX : Hid _ := @nXX
  have NgXX : Hid _ := @gXX
  have NeTT : Hid _ := @eTT
  have NgTT : Hid _ := @gTT
  have NeYT : Hid _ := @eYT
  have NgYT : Hid _ := @gYT
  have NeUX : Hid _ := @eUX
  have NgUX : Hid _ := @gUX
  have Nhnp : Hid _ := @hnp
  have iX : Hid ((Try.prog.info? 35).map (·.size) = some Xc.size) := by show _ = _; rw [sX]; exact size5
  have iY : Hid ((Try.prog.info? 35).map (·.size) = some Yc.size) := by show _ = _; rw [sY]; exact size5
  have iT : Hid ((Try.prog.info? 35).map (·.size) = some Tc.size) := by show _ = _; rw [sT]; exact size5
  have P0 : Hid _ := heap_alloc_new w (.cells ps 33)
  have hz1 : (w.alloc (.cells ps 33)).heap.size = w.heap.size + 1 := by simp
  have hN := new_emp 8 (by omega) (by omega) (w.alloc (.cells ps 33))
  rw [hz1] at hN
  have HN : Hid _ := hN
  have hnep := eql_ptab
  have hzz0 := hz.1
  have hzz1 := hz.2
  have hpo0 := hpo.1
  have hpo1 := hpo.2
  clear nXX gXX eTT gTT eYT gYT eUX gUX hnp
  clear hOx hOy hLE hCM hF hG hOz hLst hLo hLp hL36 hMst hMp hM hMo hFs hFo hF36 hFp hGs hGo hG36 hGp hrs bS bQ hq0 htk20 tX tY sX sY sT oX oY oT y1 y2 y3 y4 hqs hqo tps tpo iP hturn hz hz1 hN hpo hXc hYc hTc vX vY vT hCS hCQ hTP htp hrk hrt hrp hGe hFe hqk hqt hqp hyR hq hL hx hy hx1 hdp2 hto hnat hp hR hT h hd
  go_enter Try.func4, Try.ntmps4
  refine cut_code fun d1 e1 => ?_
  go_wp2_with fail
  rw [← e1.out]
  clear e1 d1
  refine cut_code fun d2 e2 => ?_
  go_wp2_with fail
  refine Calls.mono HN.out ?_
  rintro e W1 ⟨rfl, h1, b1⟩
  have H1 : Hid _ := h1
  have B1 : Hid _ := b1
  have hs1 : w.heap.size + 1 ≤ W1.heap.size := by have := b1.size; simp at this; omega
  have P1 : Hid (W1.heap[w.heap.size]? = some (.cells ps 33 (0, 0))) := (b1.block _ (by omega)).trans P0.out
  clear h1 b1 HN
  go_wp2_with fail
  rw [← e2.out]
  clear e2 d2
  refine cut_code fun d3 e3 => ?_
  go_wp2_with (first
    | refine wpList_load_row rfl 33 _ rfl w.heap.size rfl 33 ps (0, 0) _ P1.out Try.underlying33 rfl NiP.out ?_
    | fail)
  refine (NhOx.out _).mono ?_
  rintro e W2 ⟨rfl, b2⟩
  have hs2 : w.heap.size + 1 ≤ W2.heap.size := by have := b2.size; omega
  have H3 : Hid _ := (H1.out.of b2).of (below1 W2 (.cells Xc 35))
  have B3 : Hid _ := (B1.out.trans (b2.mono hs1)).trans ((below1 W2 (.cells Xc 35)).mono hs2)
  have X3 : Hid _ := heap_alloc_new W2 (.cells Xc 35)
  have hs3 : Hid (W2.heap.size + 1 ≤ (W2.alloc (.cells Xc 35)).heap.size) := by show _ ≤ _; simp
  clear b2 H1 B1
  go_wp2_with (first
    | (refine wpList_store_new rfl 35 _ _ rfl _ Xc W2.heap.size rfl rfl rfl iX.out (Eq.trans (b := 5) rfl NsX.out.symm) NoX.out ?_
       generalize W2.alloc (.cells Xc 35) = V3 at *)
    | fail)
  rw [← e3.out]
  clear e3 d3
  refine cut_code fun d5 e5 => ?_
  go_wp2_with fail
  refine (lives_any _).mono ?_
  rintro e W4 ⟨rfl, b4⟩
  have hs4 : W2.heap.size + 1 ≤ W4.heap.size := by have := b4.size; have := hs3.out; omega
  have hv3 : w.heap.size + 1 ≤ V3.heap.size := by have := hs3.out; omega
  have H4 : Hid _ := H3.out.of b4
  have B4 : Hid _ := B3.out.trans (b4.mono hv3)
  have X4 : Hid _ := (b4.block _ (lt_of_heap X3.out)).trans X3.out
  have P4 : Hid (W4.heap[w.heap.size]? = some (.cells ps 33 (0, 0))) := (B4.out.block _ (by omega)).trans P0.out
  clear b4 H3 B3 X3 hs3 hv3
  go_wp2_with fail
  rw [← e5.out]
  clear e5 d5
  refine cut_code fun d7 e7 => ?_
  go_wp2_with fail
  rw [← e7.out]
  clear e7 d7
  refine cut_code fun d8 e8 => ?_
  go_wp2_with (first
    | refine wpList_load_row rfl 33 _ rfl w.heap.size rfl 33 ps (0, 0) _ P4.out Try.underlying33 rfl NiP.out ?_
    | refine wpList_build_as rfl 47 _ rfl CS (by rw [List.map_toArray]; exact NbS.out) ?_
    | fail)
  clear hnep
  refine (NhLE.out H4.out).mono ?_
  rintro e W5 ⟨rfl, b5⟩
  have hs5 : W2.heap.size + 1 ≤ W5.heap.size := by have := b5.size; omega
  have H5 : Hid _ := H4.out.of b5
  have B5 : Hid _ := B4.out.trans (b5.mono (by omega))
  have X5 : Hid _ := (heap_alloc_old W5 (.cells L 47) (by omega)).trans ((b5.block _ (lt_of_heap X4.out)).trans X4.out)
  have S5 : Hid _ := heap_alloc_new W5 (.cells L 47)
  have C5 : Hid ((W5.alloc (.cells L 47)).cell? ⟨W5.heap.size, 36, none⟩ = some (.int .i64 1)) := (cell_row S5.out 36).trans NhL36.out
  have C18 : Hid ((W5.alloc (.cells L 47)).cell? ⟨W5.heap.size, 18, none⟩ = some (.int .u32 dst)) := (cell_row S5.out 18).trans NL18.out
  have C20 : Hid ((W5.alloc (.cells L 47)).cell? ⟨W5.heap.size, 20, none⟩ = some (.int .i64 1)) := (cell_row S5.out 20).trans NL20.out
  have C25 : Hid ((W5.alloc (.cells L 47)).cell? ⟨W5.heap.size, 25, none⟩ = some (.int .i64 dp)) := (cell_row S5.out 25).trans NL25.out
  have F18 : Hid _ := frozen_of_row _ _ 18 _ _ S5.out
  have F25 : Hid _ := frozen_of_row _ _ 25 _ _ S5.out
  have A5 : Hid (Below W5.heap.size W5 (W5.alloc (.cells L 47))) := below1 _ _
  clear b5 H4 B4 X4 P4
  go_wp2_with (first
    | (refine wpList_store_new rfl 47 _ _ rfl _ L W5.heap.size rfl rfl rfl (info_size NhLst.out.size) (Eq.trans (b := 49) rfl NhLst.out.size.symm) NhLst.out.one ?_
       generalize W5.alloc (.cells L 47) = V5 at *)
    | fail)
  rw [← e8.out]
  clear e8 d8
  refine cut_code fun d10 e10 => ?_
  have c36 := C5.out
  go_wp2_with (first
    | refine wpList_load_atw (by rfl) 35 _ rfl W5.heap.size 44 5 rfl L Xc 47 _ S5.out Try.underlying35 rfl NhLo.out NsX.out size5 ?_
    | refine wpList_load_want (by rfl) 35 _ rfl W2.heap.size rfl 35 Xc (0, 0) _ X5.out Try.underlying35 rfl iX.out ?_
    | refine wpList_neq_want (by rfl) .neq 35 _ _ _ rfl (.agg Xc) (.agg Xc) (.bool false) rfl rfl (NgXX.out _ _ _) (NnXX.out _) ?_
    | fail)
  clear c36
  rw [← e10.out]
  clear e10 d10
  refine cut_code fun d11 e11 => ?_
  have c18 := C18.out
  have f18 := F18.out
  go_wp2_with fail
  clear c18 f18
  rw [← e11.out]
  clear e11 d11
  have R1 : Hid ((V5.setCell ⟨W5.heap.size, 18, none⟩ (.int .u32 d)).heap[W5.heap.size]? = _) := row_setCell S5.out 18 _
  have A6 : Hid (Below W5.heap.size W5 (V5.setCell ⟨W5.heap.size, 18, none⟩ (.int .u32 d))) := A5.out.setCell (p := ⟨W5.heap.size, 18, none⟩) (Nat.le_refl _) _
  have X6 : Hid ((V5.setCell ⟨W5.heap.size, 18, none⟩ (.int .u32 d)).heap[W2.heap.size]? = some (.cells Xc 35 (0, 0))) := (Below.heap_setCell _ _ _ _ (show W2.heap.size ≠ W5.heap.size by omega)).trans X5.out
  generalize V5.setCell ⟨W5.heap.size, 18, none⟩ (.int .u32 d) = U5 at *
  have K20 : Hid (U5.cell? ⟨W5.heap.size, 20, none⟩ = some (.int .i64 1)) := (cell_row R1.out 20).trans (by rw [Array.getElem?_setIfInBounds_ne (by decide)]; exact NL20.out)
  clear C5 C18 C20 C25 F18 F25 A5 X5
  refine cut_code fun d13 e13 => ?_
  have c20 := K20.out
  go_wp2_with fail
  rw [← e13.out]
  clear e13 d13
  have RM : Hid (U5.heap[W5.heap.size]? = some (.cells M 47 (0, 0))) := R1.out.trans (by rw [← NhM.out]; unfold mC; rw [if_pos rfl])
  clear R1 K20 c20
  refine cut_code fun d14 e14 => ?_
  go_wp2_with (first
    | refine wpList_load_as rfl 33 _ rfl W5.heap.size 0 36 rfl M TP 47 _ RM.out Try.underlying33 rfl NhMp.out Ntps.out size36 ?_
    | fail)
  refine (NhOy.out _).mono ?_
  rintro e W6 ⟨rfl, b6⟩
  have hs6 : W5.heap.size + 1 ≤ W6.heap.size := by have := b6.size; have := lt_of_heap RM.out; omega
  have A7 : Hid (Below W5.heap.size W5 (W6.alloc (.cells Yc 35))) := (A6.out.trans (b6.mono (by have := lt_of_heap RM.out; omega))).trans ((below1 W6 _).mono (by omega))
  have S7 : Hid ((W6.alloc (.cells Yc 35)).heap[W5.heap.size]? = some (.cells M 47 (0, 0))) := (heap_alloc_old W6 _ (by omega)).trans ((b6.block _ (lt_of_heap RM.out)).trans RM.out)
  have X7 : Hid ((W6.alloc (.cells Yc 35)).heap[W2.heap.size]? = some (.cells Xc 35 (0, 0))) := (heap_alloc_old W6 _ (by omega)).trans ((b6.block _ (lt_of_heap X6.out)).trans X6.out)
  have Y7 : Hid _ := heap_alloc_new W6 (.cells Yc 35)
  have z7 : Hid ((W6.alloc (.cells Yc 35)).heap.size = W6.heap.size + 1) := by show _ = _; simp
  clear b6 A6 RM X6
  go_wp2_with (first
    | (refine wpList_store_new rfl 35 _ _ rfl _ Yc W6.heap.size rfl rfl rfl iY.out (Eq.trans (b := 5) rfl NsY.out.symm) NoY.out ?_
       generalize W6.alloc (.cells Yc 35) = V6 at *)
    | fail)
  rw [← e14.out]
  clear e14 d14
  have H7 : Hid _ := H5.out.of A7.out
  have B7 : Hid _ := B5.out.trans (A7.out.mono (by omega))
  clear H5 A7 S5 B5
  refine cut_code fun d15 e15 => ?_
  go_wp2_with (first
    | refine wpList_load_row rfl 47 _ rfl W5.heap.size rfl 47 M (0, 0) _ S7.out Try.underlying47 rfl (info_size NhMst.out.size) ?_
    | fail)
  refine (NhCM.out H7.out (by have := z7.out; omega) (by omega) ⟨by omega, by omega⟩).mono ?_
  rintro e W7 ⟨rfl, ⟨qg, qc, cur, eb, g1, g2, h8⟩, b8, o8⟩
  have H8 : Hid _ := h8
  have s8 : V6.heap.size ≤ W7.heap.size := b8.size
  have X8 : Hid (W7.heap[W2.heap.size]? = some (.cells Xc 35 (0, 0))) := (o8 _ (by have := z7.out; omega) (neq_cells X7.out H7.out.t (by decide)) (neq_map X7.out H7.out.zm) (neq_row X7.out (by decide))).trans X7.out
  have Y8 : Hid (W7.heap[W6.heap.size]? = some (.cells Yc 35 (0, 0))) := (o8 _ (by have := z7.out; omega) (neq_cells Y7.out H7.out.t (by decide)) (neq_map Y7.out H7.out.zm) (neq_row Y7.out (by decide))).trans Y7.out
  have S8 : Hid (W7.heap[W5.heap.size]? = some (.cells M 47 (0, 0))) := (o8 _ (by have := z7.out; omega) (neq_cells S7.out H7.out.t (by decide)) (neq_map S7.out H7.out.zm) (neq_row S7.out (by decide))).trans S7.out
  have hs7 : W6.heap.size + 1 ≤ W7.heap.size := by have := z7.out; omega
  have B8 : Hid _ := B7.out.trans b8
  clear h8 b8 o8 s8 z7 H7 X7 Y7 S7 B7
  go_wp2_with fail
  rw [← e15.out]
  clear e15 d15
  refine cut_code fun d17 e17 => ?_
  go_wp2_with fail
  have hdn : Hid (d17 = d17) := rfl
  cases hyx : decide (y = turn x)
  · have nyx : ¬ y = turn x := of_decide_eq_false hyx
    have nyx2 : decide (turn y = x) = false := decide_eq_false (fun e => nyx (Nhturn.out.1 e))
    have E1 : Hid (∀ W, (binOp .eql 35 (.agg Yc) (.agg Tc)).run Try.prog W = .ok (.bool false) W) := fun W => by rw [NeYT.out W, hyx]
    have E2 : Hid (∀ W, (binOp .eql 35 (tv (turn y)) (.agg Xc)).run Try.prog W = .ok (.bool false) W) := fun W => by rw [NeUX.out W, nyx2]
    have NYX : Hid _ := nyx
    clear hyx nyx nyx2
    refine wp_region_held_drew (S := (fun W => W.heap[W2.heap.size]? = some (.cells Xc 35 (0, 0)) ∧ W.heap[W6.heap.size]? = some (.cells Yc 35 (0, 0)))) (by kernel_rfl) ?_ (fun hHeld => ?_)
    · exact ⟨X8.out, Y8.out⟩
    refine wpAnyH_take (i := 0) (v := .agg Yc) rfl (by kernel_rfl) (by kernel_rfl) (by kernel_rfl) (fun _ _ _ h => h) (yields_loadR (by rfl) 35 _ rfl W6.heap.size rfl 35 Yc _ (fun _ h => h.2) Try.underlying35 rfl iY.out) (by assumption) ?_
    try simp only [List.getElem_toArray, List.getElem_cons_zero, List.getElem_cons_succ, Act.put, List.setIfInBounds_toArray, List.set_cons_zero, List.set_cons_succ]
    refine wpAnyH_take (i := 1) (v := .agg Xc) rfl (by kernel_rfl) (by kernel_rfl) (by kernel_rfl) (fun _ _ _ h => h) (yields_loadR (by rfl) 35 _ rfl W2.heap.size rfl 35 Xc _ (fun _ h => h.1) Try.underlying35 rfl iX.out) (by assumption) ?_
    try simp only [List.getElem_toArray, List.getElem_cons_zero, List.getElem_cons_succ, Act.put, List.setIfInBounds_toArray, List.set_cons_zero, List.set_cons_succ]
    refine wpAnyH_ready (rs := [2]) (by kernel_rfl) (by simp) ?_
    refine AllReadyH.cons (o := _) rfl (fun K hK => ?_) AllReadyH.nil
    go_simp
    refine (NtX.out _).mono ?_
    rintro e W8 ⟨rfl, b9⟩
    go_wp2_with fail
    have X9 : Hid (W8.heap[W2.heap.size]? = some (.cells Xc 35 (0, 0))) := (b9.block _ (lt_of_heap X8.out)).trans X8.out
    have Y9 : Hid (W8.heap[W6.heap.size]? = some (.cells Yc 35 (0, 0))) := (b9.block _ (lt_of_heap Y8.out)).trans Y8.out
    have D9 : Hid (Below W7.heap.size W7 W8) := ((Below.refl W7.heap.size W7).drew).trans b9
    clear b9
    refine hK.out _ _ ⟨X9.out, Y9.out⟩ (fun hHeld2 => ?_)
    clear hK K hHeld
    try simp only [List.getElem_toArray, List.getElem_cons_zero, List.getElem_cons_succ, Act.put, List.setIfInBounds_toArray, List.set_cons_zero, List.set_cons_succ]
    refine wpAnyH_take (i := 3) (v := .bool false) rfl (by kernel_rfl) (by kernel_rfl) (by kernel_rfl) (fun _ _ _ h => h) (yields_bin (by rfl) .eql 35 _ _ _ rfl (.agg Yc) (.agg Tc) _ rfl rfl (NgYT.out _ _) E1.out) (by assumption) ?_
    try simp only [List.getElem_toArray, List.getElem_cons_zero, List.getElem_cons_succ, Act.put, List.setIfInBounds_toArray, List.set_cons_zero, List.set_cons_succ]
    refine wpAnyH_take (i := 4) (v := ?_) rfl (by kernel_rfl) (by kernel_rfl) (by kernel_rfl) (fun _ _ _ h => h) (Or.inl ⟨by rfl, ?_⟩) (by assumption) ?_
    rotate_left
    · (intro w hSw; (try dsimp only at hSw); go_simp; try with_reducible rfl)
    try simp only [List.getElem_toArray, List.getElem_cons_zero, List.getElem_cons_succ, Act.put, List.setIfInBounds_toArray, List.set_cons_zero, List.set_cons_succ]
    refine wpAnyH_take (i := 5) (v := .agg Yc) rfl (by kernel_rfl) (by kernel_rfl) (by kernel_rfl) (fun _ _ _ h => h) (yields_loadR (by rfl) 35 _ rfl W6.heap.size rfl 35 Yc _ (fun _ h => h.2) Try.underlying35 rfl iY.out) (by assumption) ?_
    try simp only [List.getElem_toArray, List.getElem_cons_zero, List.getElem_cons_succ, Act.put, List.setIfInBounds_toArray, List.set_cons_zero, List.set_cons_succ]
    refine wpAnyH_take (i := 7) (v := .agg Xc) rfl (by kernel_rfl) (by kernel_rfl) (by kernel_rfl) (fun _ _ _ h => h) (yields_loadR (by rfl) 35 _ rfl W2.heap.size rfl 35 Xc _ (fun _ h => h.1) Try.underlying35 rfl iX.out) (by assumption) ?_
    try simp only [List.getElem_toArray, List.getElem_cons_zero, List.getElem_cons_succ, Act.put, List.setIfInBounds_toArray, List.set_cons_zero, List.set_cons_succ]
    refine wpAnyH_ready (rs := [6]) (by kernel_rfl) (by simp) ?_
    refine AllReadyH.cons (o := _) rfl (fun K hK => ?_) AllReadyH.nil
    go_simp
    refine (NtY.out _).mono ?_
    rintro e W9 ⟨rfl, b10⟩
    go_wp2_with fail
    have X10 : Hid (W9.heap[W2.heap.size]? = some (.cells Xc 35 (0, 0))) := (b10.block _ (lt_of_heap X9.out)).trans X9.out
    have Y10 : Hid (W9.heap[W6.heap.size]? = some (.cells Yc 35 (0, 0))) := (b10.block _ (lt_of_heap Y9.out)).trans Y9.out
    have D10 : Hid (Below W7.heap.size W7 W9) := D9.out.trans (b10.mono D9.out.size)
    clear b10 D9 X9 Y9
    refine hK.out _ _ ⟨X10.out, Y10.out⟩ (fun hHeld => ?_)
    clear hK K hHeld2
    try simp only [List.getElem_toArray, List.getElem_cons_zero, List.getElem_cons_succ, Act.put, List.setIfInBounds_toArray, List.set_cons_zero, List.set_cons_succ]
    refine wpAnyH_take (i := 8) (v := .bool false) rfl (by kernel_rfl) (by kernel_rfl) (by kernel_rfl) (fun _ _ _ h => h) (yields_bin (by rfl) .eql 35 _ _ _ rfl (tv (turn y)) (.agg Xc) _ rfl rfl (NgUX.out _ _) E2.out) (by assumption) ?_
    try simp only [List.getElem_toArray, List.getElem_cons_zero, List.getElem_cons_succ, Act.put, List.setIfInBounds_toArray, List.set_cons_zero, List.set_cons_succ]
    refine wpAnyH_take (i := 9) (v := ?_) rfl (by kernel_rfl) (by kernel_rfl) (by kernel_rfl) (fun _ _ _ h => h) (Or.inl ⟨by rfl, ?_⟩) (by assumption) ?_
    rotate_left
    · (intro w hSw; (try dsimp only at hSw); go_simp; try with_reducible rfl)
    try simp only [List.getElem_toArray, List.getElem_cons_zero, List.getElem_cons_succ, Act.put, List.setIfInBounds_toArray, List.set_cons_zero, List.set_cons_succ]
    refine wpAnyH_done (by kernel_rfl) ?_ _
    clear hHeld
    go_wp2_with fail
    rw [← e17.out]
    clear e17 d17
    refine cut_code fun d19 e19 => ?_
    go_wp2_with fail
    rw [← e19.out]
    clear e19 d19
    have H9 : Hid _ := H8.out.below D10.out
    have S9 : Hid (W9.heap[W5.heap.size]? = some (.cells M 47 (0, 0))) := (D10.out.block _ (lt_of_heap S8.out)).trans S8.out
    have B9 : Hid _ := B8.out.trans (D10.out.mono (by omega))
    have P9 : Hid (W9.heap[w.heap.size]? = some (.cells ps 33 (0, 0))) := (B9.out.block _ (by omega)).trans P0.out
    have hs9 : W6.heap.size + 1 ≤ W9.heap.size := by have := D10.out.size; omega
    clear H8 S8 B8 X8 Y8 D10 E1 E2
    refine cut_code fun d20 e20 => ?_
    go_wp2_with (first
      | refine wpList_load_row rfl 33 _ rfl w.heap.size rfl 33 ps (0, 0) _ P9.out Try.underlying33 rfl NiP.out ?_
      | refine wpList_build_as rfl 47 _ rfl CS (by rw [List.map_toArray]; exact NbS.out) ?_
      | fail)
    refine (NhF.out H9.out (by omega) ⟨by omega, by omega⟩).mono ?_
    rintro e W10 ⟨rfl, h11, b11, o11⟩
    have H11 : Hid _ := h11
    have s11 : W9.heap.size ≤ W10.heap.size := b11.size
    have X11 : Hid (W10.heap[W2.heap.size]? = some (.cells Xc 35 (0, 0))) := (o11 _ (by omega) (neq_cells X10.out H9.out.en (by decide))).trans X10.out
    have Y11 : Hid (W10.heap[W6.heap.size]? = some (.cells Yc 35 (0, 0))) := (o11 _ (by omega) (neq_cells Y10.out H9.out.en (by decide))).trans Y10.out
    have S11 : Hid (W10.heap[W5.heap.size]? = some (.cells M 47 (0, 0))) := (o11 _ (by omega) (neq_cells S9.out H9.out.en (by decide))).trans S9.out
    have B11 : Hid _ := B9.out.trans b11
    have F12 : Hid _ := heap_alloc_new W10 (.cells F 47)
    have D12 : Hid (Below W10.heap.size W10 (W10.alloc (.cells F 47))) := below1 _ _
    have z12 : Hid ((W10.alloc (.cells F 47)).heap.size = W10.heap.size + 1) := by show _ = _; simp
    clear h11 b11 o11 H9 X10 Y10 S9 B9 P9
    go_wp2_with (first
      | (refine wpList_store_new rfl 47 _ _ rfl _ F W10.heap.size rfl rfl rfl (info_size NhFs.out) (Eq.trans (b := 49) rfl NhFs.out.symm) NhFo.out ?_
         generalize W10.alloc (.cells F 47) = V10 at *)
      | fail)
    rw [← e20.out]
    clear e20 d20
    have S12 : Hid (V10.heap[W5.heap.size]? = some (.cells M 47 (0, 0))) := (D12.out.block _ (lt_of_heap S11.out)).trans S11.out
    have K36 : Hid (V10.cell? ⟨W10.heap.size, 36, none⟩ = some (.int .i64 (ctOf false nat))) := (cell_row F12.out 36).trans NhF36.out
    obtain ⟨cv, hcv⟩ : ∃ cv, ctOf false nat = cv := ⟨_, rfl⟩
    have A2 : Hid (∀ W, (binOp .and 3 (.int .i64 cv) (.int .i64 2)).run Try.prog W = .ok (.int .i64 2) W) := fun W => by rw [← hcv]; exact and2 nat W
    have A4 : Hid (∀ W, (binOp .and 3 (.int .i64 cv) (.int .i64 4)).run Try.prog W = .ok (.int .i64 0) W) := fun W => by rw [← hcv]; exact and4 nat W
    have K36b : Hid (V10.cell? ⟨W10.heap.size, 36, none⟩ = some (.int .i64 cv)) := by have := K36.out; rw [hcv] at this; exact this
    clear K36 hcv
    refine cut_code fun d22 e22 => ?_
    have c36 := K36b.out
    go_wp2_with (first
      | refine wpList_neq_want (by rfl) .and 3 _ _ _ rfl (.int .i64 cv) (.int .i64 2) (.int .i64 2) rfl rfl (gand _ _ _ _ _) (A2.out _) ?_
      | refine wpList_neq_want (by rfl) .and 3 _ _ _ rfl (.int .i64 cv) (.int .i64 4) (.int .i64 0) rfl rfl (gand _ _ _ _ _) (A4.out _) ?_
      | refine wpList_load_atw (by rfl) 33 _ rfl W10.heap.size 0 36 rfl F TP 47 _ F12.out Try.underlying33 rfl NhFp.out Ntps.out size36 ?_
      | refine wpList_load_atw (by rfl) 33 _ rfl W5.heap.size 0 36 rfl M TP 47 _ S12.out Try.underlying33 rfl NhMp.out Ntps.out size36 ?_
      | refine wpList_neq_want (by rfl) .neq 33 _ _ _ rfl (.agg TP) (.agg TP) (.bool false) rfl rfl (guard_pk _ _ _ _ _) (Nhnp.out _) ?_
      | fail)
    clear c36 K36b A2 A4 F12
    rw [← e22.out]
    clear e22 d22
    have Q13 : Hid _ := heap_alloc_new V10 (.cells TP 33)
    have D13 : Hid (Below V10.heap.size V10 (V10.alloc (.cells TP 33))) := below1 _ _
    refine cut_code fun d23 e23 => ?_
    go_wp2_with (first
      | refine wpList_load_as rfl 33 _ rfl W5.heap.size 0 36 rfl M TP 47 _ S12.out Try.underlying33 rfl NhMp.out Ntps.out size36 ?_
      | (refine wpList_store_new rfl 33 _ _ rfl _ TP V10.heap.size rfl rfl rfl (infoPk Ntps.out) (Eq.trans (b := 36) rfl Ntps.out.symm) Ntpo.out ?_
         generalize V10.alloc (.cells TP 33) = V11 at *)
      | fail)
    rw [← e23.out]
    clear e23 d23
    have Y13 : Hid (V11.heap[W6.heap.size]? = some (.cells Yc 35 (0, 0))) := (D13.out.block _ (by have := z12.out; omega)).trans ((D12.out.block _ (lt_of_heap Y11.out)).trans Y11.out)
    have D14 : Hid (Below W10.heap.size W10 V11) := D12.out.trans (D13.out.mono D12.out.size)
    have hqb : W10.heap.size + 1 ≤ V10.heap.size := by have := z12.out; omega
    clear D12 D13 z12 S12
    refine cut_code fun d24 e24 => ?_
    go_wp2_with fail
    refine wp_region_held_drew (S := (fun W => W.cell? ⟨W6.heap.size, 2, none⟩ = some (.int .u32 d) ∧ W.cell? ⟨W6.heap.size, 1, none⟩ = some (.int .u32 src))) (by kernel_rfl) ?_ (fun hHeld => ?_)
    · exact ⟨(cell_row Y13.out 2).trans Ny2.out, (cell_row Y13.out 1).trans Ny1.out⟩
    refine wpAnyH_take (i := 0) (v := ?_) rfl (by kernel_rfl) (by kernel_rfl) (by kernel_rfl) (fun _ _ _ h => h) (Or.inl ⟨by rfl, ?_⟩) (by assumption) ?_
    rotate_left
    · (intro w hSw; (try dsimp only at hSw); go_simp; try with_reducible rfl)
    try simp only [List.getElem_toArray, List.getElem_cons_zero, List.getElem_cons_succ, Act.put, List.setIfInBounds_toArray, List.set_cons_zero, List.set_cons_succ]
    refine wpAnyH_take (i := 1) (v := ?_) rfl (by kernel_rfl) (by kernel_rfl) (by kernel_rfl) (fun _ _ _ h => h) (Or.inl ⟨by rfl, ?_⟩) (by assumption) ?_
    rotate_left
    · (intro w hSw; (try dsimp only at hSw); go_simp; try with_reducible rfl)
    try simp only [List.getElem_toArray, List.getElem_cons_zero, List.getElem_cons_succ, Act.put, List.setIfInBounds_toArray, List.set_cons_zero, List.set_cons_succ]
    refine wpAnyH_take (i := 2) (v := ?_) rfl (by kernel_rfl) (by kernel_rfl) (by kernel_rfl) (fun _ _ _ h => h) (Or.inl ⟨by rfl, ?_⟩) (by assumption) ?_
    rotate_left
    · (intro w hSw; (try dsimp only at hSw); go_simp; try with_reducible rfl)
    try simp only [List.getElem_toArray, List.getElem_cons_zero, List.getElem_cons_succ, Act.put, List.setIfInBounds_toArray, List.set_cons_zero, List.set_cons_succ]
    refine wpAnyH_take (i := 3) (v := ?_) rfl (by kernel_rfl) (by kernel_rfl) (by kernel_rfl) (fun _ _ _ h => h) (Or.inl ⟨by rfl, ?_⟩) (by assumption) ?_
    rotate_left
    · (intro w hSw; (try dsimp only at hSw); go_simp; try with_reducible rfl)
    try simp only [List.getElem_toArray, List.getElem_cons_zero, List.getElem_cons_succ, Act.put, List.setIfInBounds_toArray, List.set_cons_zero, List.set_cons_succ]
    refine wpAnyH_take (i := 4) (v := ?_) rfl (by kernel_rfl) (by kernel_rfl) (by kernel_rfl) (fun _ _ _ h => h) (Or.inl ⟨by rfl, ?_⟩) (by assumption) ?_
    rotate_left
    · (intro w hSw; (try dsimp only at hSw); go_simp; try with_reducible rfl)
    try simp only [List.getElem_toArray, List.getElem_cons_zero, List.getElem_cons_succ, Act.put, List.setIfInBounds_toArray, List.set_cons_zero, List.set_cons_succ]
    refine wpAnyH_take (i := 5) (v := ?_) rfl (by kernel_rfl) (by kernel_rfl) (by kernel_rfl) (fun _ _ _ h => h) (Or.inl ⟨by rfl, ?_⟩) (by assumption) ?_
    rotate_left
    · (intro w hSw; (try dsimp only at hSw); go_simp; try with_reducible rfl)
    try simp only [List.getElem_toArray, List.getElem_cons_zero, List.getElem_cons_succ, Act.put, List.setIfInBounds_toArray, List.set_cons_zero, List.set_cons_succ]
    refine wpAnyH_ready (rs := [6]) (by kernel_rfl) (by simp) ?_
    refine AllReadyH.cons (o := _) rfl (fun K hK => ?_) AllReadyH.nil
    refine wp_store_int 25 _ _ rfl V10.heap.size 17 TP .u32 d 33 rfl rfl Q13.out (fun _ => by kernel_rfl) (by rw [Ntps.out]; decide) ?_
    have Q14 : Hid _ := row_setCell (w := V11.drew) Q13.out 17 (.int .u32 d)
    have Y14 : Hid ((V11.drew.setCell ⟨V10.heap.size, 17, none⟩ (.int .u32 d)).heap[W6.heap.size]? = some (.cells Yc 35 (0, 0))) := (Below.heap_setCell _ _ _ _ (show W6.heap.size ≠ V10.heap.size by omega)).trans Y13.out
    have D15 : Hid (Below W10.heap.size W10 (V11.drew.setCell ⟨V10.heap.size, 17, none⟩ (.int .u32 d))) := D14.out.drew.setCell (p := ⟨V10.heap.size, 17, none⟩) (by show _ ≤ V10.heap.size; omega) _
    generalize V11.drew.setCell ⟨V10.heap.size, 17, none⟩ (.int .u32 d) = V12 at *
    refine hK.out _ _ ⟨(cell_row Y14.out 2).trans Ny2.out, (cell_row Y14.out 1).trans Ny1.out⟩ (fun hHeld2 => ?_)
    clear hK K hHeld Q13 Y13 D14
    try simp only [List.getElem_toArray, List.getElem_cons_zero, List.getElem_cons_succ, Act.put, List.setIfInBounds_toArray, List.set_cons_zero, List.set_cons_succ]
    refine wpAnyH_take (i := 7) (v := ?_) rfl (by kernel_rfl) (by kernel_rfl) (by kernel_rfl) (fun _ _ _ h => h) (Or.inl ⟨by rfl, ?_⟩) (by assumption) ?_
    rotate_left
    · (intro w hSw; (try dsimp only at hSw); go_simp; try with_reducible rfl)
    try simp only [List.getElem_toArray, List.getElem_cons_zero, List.getElem_cons_succ, Act.put, List.setIfInBounds_toArray, List.set_cons_zero, List.set_cons_succ]
    refine wpAnyH_take (i := 8) (v := ?_) rfl (by kernel_rfl) (by kernel_rfl) (by kernel_rfl) (fun _ _ _ h => h) (Or.inl ⟨by rfl, ?_⟩) (by assumption) ?_
    rotate_left
    · (intro w hSw; (try dsimp only at hSw); go_simp; try with_reducible rfl)
    try simp only [List.getElem_toArray, List.getElem_cons_zero, List.getElem_cons_succ, Act.put, List.setIfInBounds_toArray, List.set_cons_zero, List.set_cons_succ]
    refine wpAnyH_ready (rs := [9]) (by kernel_rfl) (by simp) ?_
    refine AllReadyH.cons (o := _) rfl (fun K hK => ?_) AllReadyH.nil
    refine wp_store_int 25 _ _ rfl V10.heap.size 18 _ .u32 src 33 rfl rfl Q14.out (fun _ => by kernel_rfl) (by simp only [Array.size_setIfInBounds]; rw [Ntps.out]; decide) ?_
    have Q15 : Hid _ := row_setCell Q14.out 18 (.int .u32 src)
    have Y15 : Hid ((V12.setCell ⟨V10.heap.size, 18, none⟩ (.int .u32 src)).heap[W6.heap.size]? = some (.cells Yc 35 (0, 0))) := (Below.heap_setCell _ _ _ _ (show W6.heap.size ≠ V10.heap.size by omega)).trans Y14.out
    have D16 : Hid (Below W10.heap.size W10 (V12.setCell ⟨V10.heap.size, 18, none⟩ (.int .u32 src))) := D15.out.setCell (p := ⟨V10.heap.size, 18, none⟩) (by show _ ≤ V10.heap.size; omega) _
    generalize V12.setCell ⟨V10.heap.size, 18, none⟩ (.int .u32 src) = V13 at *
    refine hK.out _ _ ⟨(cell_row Y15.out 2).trans Ny2.out, (cell_row Y15.out 1).trans Ny1.out⟩ (fun hHeld => ?_)
    clear hK K hHeld2 Q14 Y14 D15
    try simp only [List.getElem_toArray, List.getElem_cons_zero, List.getElem_cons_succ, Act.put, List.setIfInBounds_toArray, List.set_cons_zero, List.set_cons_succ]
    refine wpAnyH_done (by kernel_rfl) ?_ _
    clear hHeld
    go_wp2_with fail
    rw [← e24.out]
    clear e24 d24
    have K20 : Hid (V13.cell? ⟨V10.heap.size, 20, none⟩ = some (.int .i64 1)) := (cell_row Q15.out 20).trans (by rw [Array.getElem?_setIfInBounds_ne (by decide), Array.getElem?_setIfInBounds_ne (by decide)]; exact Nhtk20.out)
    refine cut_code fun d26 e26 => ?_
    have c20 := K20.out
    go_wp2_with fail
    have Q17 : Hid (V13.heap[V10.heap.size]? = some (.cells q 33 (0, 0))) := Q15.out.trans (by rw [← Nhq0.out]; unfold ansC; rw [if_pos rfl])
    clear c20 K20 Q15
    rw [← e26.out]
    clear e26 d26
    have H17 : Hid _ := H11.out.below D16.out
    have X17 : Hid (V13.heap[W2.heap.size]? = some (.cells Xc 35 (0, 0))) := (D16.out.block _ (lt_of_heap X11.out)).trans X11.out
    have B17 : Hid _ := B11.out.trans (D16.out.mono (by omega))
    have s17 : W10.heap.size ≤ V13.heap.size := D16.out.size
    clear H11 X11 Y11 S11 B11 D16
    refine cut_code fun d27 e27 => ?_
    go_wp2_with (first
      | refine wpList_load_row rfl 33 _ rfl V10.heap.size rfl 33 q (0, 0) _ Q17.out Try.underlying33 rfl (infoPk Nhqs.out) ?_
      | refine wpList_build_as rfl 47 _ rfl CQ (by rw [List.map_toArray]; exact NbQ.out) ?_
      | fail)
    refine (NhG.out NYX.out H17.out (by omega) ⟨by omega, by omega⟩).mono ?_
    rintro e W18 ⟨rfl, h18, b18, o18⟩
    have X18 : Hid (W18.heap[W2.heap.size]? = some (.cells Xc 35 (0, 0))) := (o18 _ (by omega) (neq_cells X17.out H17.out.en (by decide))).trans X17.out
    have s18 : V13.heap.size ≤ W18.heap.size := b18.size
    have B18 : Hid _ := B17.out.trans b18
    have G19 : Hid _ := heap_alloc_new W18 (.cells G 47)
    have D19 : Hid (Below W18.heap.size W18 (W18.alloc (.cells G 47))) := below1 _ _
    clear h18 b18 o18 H17 X17 B17 Q17
    go_wp2_with (first
      | (refine wpList_store_new rfl 47 _ _ rfl _ G W18.heap.size rfl rfl rfl (info_size NhGs.out) (Eq.trans (b := 49) rfl NhGs.out.symm) NhGo.out ?_
         generalize W18.alloc (.cells G 47) = V18 at *)
      | fail)
    rw [← e27.out]
    clear e27 d27
    refine cut_code fun d28 e28 => ?_
    go_wp2_with (first
      | refine wpList_load_as rfl 33 _ rfl W18.heap.size 0 36 rfl G rp 47 _ G19.out Try.underlying33 rfl NhGp.out Nhrs.out size36 ?_
      | fail)
    refine (NhOz.out _).mono ?_
    rintro e W20 ⟨rfl, b20⟩
    have D20 : Hid (Below W18.heap.size W18 W20) := D19.out.trans (b20.mono D19.out.size)
    have G20 : Hid (W20.heap[W18.heap.size]? = some (.cells G 47 (0, 0))) := (b20.block _ (lt_of_heap G19.out)).trans G19.out
    have s20 : W18.heap.size ≤ W20.heap.size := D20.out.size
    have D21 : Hid (Below W18.heap.size W18 (W20.alloc (.cells Tc 35))) := D20.out.trans ((below1 W20 _).mono s20)
    have G21 : Hid ((W20.alloc (.cells Tc 35)).heap[W18.heap.size]? = some (.cells G 47 (0, 0))) := (heap_alloc_old W20 _ (lt_of_heap G20.out)).trans G20.out
    have T21 : Hid _ := heap_alloc_new W20 (.cells Tc 35)
    clear b20 D19 G19 D20 G20
    go_wp2_with (first
      | (refine wpList_store_new rfl 35 _ _ rfl _ Tc W20.heap.size rfl rfl rfl iT.out (Eq.trans (b := 5) rfl NsT.out.symm) NoT.out ?_
         generalize W20.alloc (.cells Tc 35) = V20 at *)
      | fail)
    rw [← e28.out]
    clear e28 d28
    have X21 : Hid (V20.heap[W2.heap.size]? = some (.cells Xc 35 (0, 0))) := (D21.out.block _ (lt_of_heap X18.out)).trans X18.out
    have K36 : Hid (V20.cell? ⟨W18.heap.size, 36, none⟩ = some (.int .i64 (ctOf true nat))) := (cell_row G21.out 36).trans NhG36.out
    have B21 : Hid _ := B18.out.trans (D21.out.mono (by omega))
    clear X18 B18 D21 G21
    go_wp2_with fail
    refine wp_region_held_drew (S := (fun W => W.cell? ⟨W18.heap.size, 36, none⟩ = some (.int .i64 (ctOf true nat)) ∧ W.heap[W20.heap.size]? = some (.cells Tc 35 (0, 0)) ∧ W.heap[W2.heap.size]? = some (.cells Xc 35 (0, 0)))) (by kernel_rfl) ?_ (fun hHeld => ?_)
    · exact ⟨K36.out, T21.out, X21.out⟩
    refine wpAnyH_take (i := 0) (v := ?_) rfl (by kernel_rfl) (by kernel_rfl) (by kernel_rfl) (fun _ _ _ h => h) (Or.inl ⟨by rfl, ?_⟩) (by assumption) ?_
    rotate_left
    · (intro w hSw; (try dsimp only at hSw); go_simp; try with_reducible rfl)
    try simp only [List.getElem_toArray, List.getElem_cons_zero, List.getElem_cons_succ, Act.put, List.setIfInBounds_toArray, List.set_cons_zero, List.set_cons_succ]
    refine wpAnyH_take (i := 1) (v := ?_) rfl (by kernel_rfl) (by kernel_rfl) (by kernel_rfl) (fun _ _ _ h => h) (Or.inl ⟨by rfl, ?_⟩) (by assumption) ?_
    rotate_left
    · (intro w hSw; (try dsimp only at hSw); go_simp; try with_reducible rfl)
    try simp only [List.getElem_toArray, List.getElem_cons_zero, List.getElem_cons_succ, Act.put, List.setIfInBounds_toArray, List.set_cons_zero, List.set_cons_succ]
    refine wpAnyH_take (i := 2) (v := ?_) rfl (by kernel_rfl) (by kernel_rfl) (by kernel_rfl) (fun _ _ _ h => h) (Or.inl ⟨by rfl, ?_⟩) (by assumption) ?_
    rotate_left
    · (intro w hSw; (try dsimp only at hSw); go_simp; try with_reducible rfl)
    try simp only [List.getElem_toArray, List.getElem_cons_zero, List.getElem_cons_succ, Act.put, List.setIfInBounds_toArray, List.set_cons_zero, List.set_cons_succ]
    refine wpAnyH_take (i := 3) (v := ?_) rfl (by kernel_rfl) (by kernel_rfl) (by kernel_rfl) (fun _ _ _ h => h) (Or.inl ⟨by rfl, ?_⟩) (by assumption) ?_
    rotate_left
    · (intro w hSw; (try dsimp only at hSw); go_simp; try with_reducible rfl)
    try simp only [List.getElem_toArray, List.getElem_cons_zero, List.getElem_cons_succ, Act.put, List.setIfInBounds_toArray, List.set_cons_zero, List.set_cons_succ]
    refine wpAnyH_take (i := 4) (v := ?_) rfl (by kernel_rfl) (by kernel_rfl) (by kernel_rfl) (fun _ _ _ h => h) (Or.inl ⟨by rfl, ?_⟩) (by assumption) ?_
    rotate_left
    · (intro w hSw; (try dsimp only at hSw); go_simp; try with_reducible rfl)
    try simp only [List.getElem_toArray, List.getElem_cons_zero, List.getElem_cons_succ, Act.put, List.setIfInBounds_toArray, List.set_cons_zero, List.set_cons_succ]
    refine wpAnyH_take (i := 5) (v := .int .i64 6) rfl (by kernel_rfl) (by kernel_rfl) (by kernel_rfl) (fun _ _ _ h => h) (yields_bin (by rfl) .and 3 _ _ _ rfl (.int .i64 (ctOf true nat)) (.int .i64 6) _ rfl rfl (gand _ _ _ _) (and6 nat)) (by assumption) ?_
    try simp only [List.getElem_toArray, List.getElem_cons_zero, List.getElem_cons_succ, Act.put, List.setIfInBounds_toArray, List.set_cons_zero, List.set_cons_succ]
    refine wpAnyH_take (i := 6) (v := ?_) rfl (by kernel_rfl) (by kernel_rfl) (by kernel_rfl) (fun _ _ _ h => h) (Or.inl ⟨by rfl, ?_⟩) (by assumption) ?_
    rotate_left
    · (intro w hSw; (try dsimp only at hSw); go_simp; try with_reducible rfl)
    try simp only [List.getElem_toArray, List.getElem_cons_zero, List.getElem_cons_succ, Act.put, List.setIfInBounds_toArray, List.set_cons_zero, List.set_cons_succ]
    refine wpAnyH_take (i := 7) (v := ?_) rfl (by kernel_rfl) (by kernel_rfl) (by kernel_rfl) (fun _ _ _ h => h) (Or.inl ⟨by rfl, ?_⟩) (by assumption) ?_
    rotate_left
    · (intro w hSw; (try dsimp only at hSw); go_simp; try with_reducible rfl)
    try simp only [List.getElem_toArray, List.getElem_cons_zero, List.getElem_cons_succ, Act.put, List.setIfInBounds_toArray, List.set_cons_zero, List.set_cons_succ]
    refine wpAnyH_take (i := 8) (v := ?_) rfl (by kernel_rfl) (by kernel_rfl) (by kernel_rfl) (fun _ _ _ h => h) (Or.inl ⟨by rfl, ?_⟩) (by assumption) ?_
    rotate_left
    · (intro w hSw; (try dsimp only at hSw); go_simp; try with_reducible rfl)
    try simp only [List.getElem_toArray, List.getElem_cons_zero, List.getElem_cons_succ, Act.put, List.setIfInBounds_toArray, List.set_cons_zero, List.set_cons_succ]
    refine wpAnyH_take (i := 9) (v := .agg Tc) rfl (by kernel_rfl) (by kernel_rfl) (by kernel_rfl) (fun _ _ _ h => h) (yields_loadR (by rfl) 35 _ rfl W20.heap.size rfl 35 Tc _ (fun _ h => h.2.1) Try.underlying35 rfl iT.out) (by assumption) ?_
    try simp only [List.getElem_toArray, List.getElem_cons_zero, List.getElem_cons_succ, Act.put, List.setIfInBounds_toArray, List.set_cons_zero, List.set_cons_succ]
    refine wpAnyH_take (i := 10) (v := .agg Xc) rfl (by kernel_rfl) (by kernel_rfl) (by kernel_rfl) (fun _ _ _ h => h) (yields_loadR (by rfl) 35 _ rfl W2.heap.size rfl 35 Xc _ (fun _ h => h.2.2) Try.underlying35 rfl iX.out) (by assumption) ?_
    try simp only [List.getElem_toArray, List.getElem_cons_zero, List.getElem_cons_succ, Act.put, List.setIfInBounds_toArray, List.set_cons_zero, List.set_cons_succ]
    refine wpAnyH_ready (rs := [11]) (by kernel_rfl) (by simp) ?_
    refine AllReadyH.cons (o := _) rfl (fun K hK => ?_) AllReadyH.nil
    go_simp
    refine (NtX.out _).mono ?_
    rintro e W21 ⟨rfl, b22⟩
    go_wp2_with fail
    have B22 : Hid (Below w.heap.size w W21) := ((below1 w (.cells ps 33)).trans ((B21.out.mono (by omega)).drew)).trans (b22.mono (by have := B21.out.size; have := lt_of_heap X21.out; show w.heap.size ≤ V20.heap.size; omega))
    refine hK.out _ _ ⟨(World.cell?_of_block (w := V20.drew) (b22.block _ (show W18.heap.size < V20.drew.heap.size from lt_of_cell K36.out))).trans K36.out, (b22.block _ (lt_of_heap T21.out)).trans T21.out, (b22.block _ (lt_of_heap X21.out)).trans X21.out⟩ (fun hHeld2 => ?_)
    clear hK K hHeld b22
    try simp only [List.getElem_toArray, List.getElem_cons_zero, List.getElem_cons_succ, Act.put, List.setIfInBounds_toArray, List.set_cons_zero, List.set_cons_succ]
    refine wpAnyH_take (i := 12) (v := .bool true) rfl (by kernel_rfl) (by kernel_rfl) (by kernel_rfl) (fun _ _ _ h => h) (yields_bin (by rfl) .eql 35 _ _ _ rfl (.agg Tc) (.agg Tc) _ rfl rfl (NgTT.out _ _) NeTT.out) (by assumption) ?_
    try simp only [List.getElem_toArray, List.getElem_cons_zero, List.getElem_cons_succ, Act.put, List.setIfInBounds_toArray, List.set_cons_zero, List.set_cons_succ]
    refine wpAnyH_take (i := 13) (v := ?_) rfl (by kernel_rfl) (by kernel_rfl) (by kernel_rfl) (fun _ _ _ h => h) (Or.inl ⟨by rfl, ?_⟩) (by assumption) ?_
    rotate_left
    · (intro w hSw; (try dsimp only at hSw); go_simp; try with_reducible rfl)
    try simp only [List.getElem_toArray, List.getElem_cons_zero, List.getElem_cons_succ, Act.put, List.setIfInBounds_toArray, List.set_cons_zero, List.set_cons_succ]
    refine wpAnyH_take (i := 14) (v := ?_) rfl (by kernel_rfl) (by kernel_rfl) (by kernel_rfl) (fun _ _ _ h => h) (Or.inl ⟨by rfl, ?_⟩) (by assumption) ?_
    rotate_left
    · (intro w hSw; (try dsimp only at hSw); go_simp; try with_reducible rfl)
    try simp only [List.getElem_toArray, List.getElem_cons_zero, List.getElem_cons_succ, Act.put, List.setIfInBounds_toArray, List.set_cons_zero, List.set_cons_succ]
    refine wpAnyH_done (by kernel_rfl) ?_ _
    clear hHeld2
    go_wp2
    go_ret
    exact ⟨rfl, B22.out⟩
  · have yx : y = turn x := of_decide_eq_true hyx
    have E1 : Hid (∀ W, (binOp .eql 35 (.agg Yc) (.agg Tc)).run Try.prog W = .ok (.bool true) W) := fun W => by rw [NeYT.out W, hyx]
    clear hyx yx
    refine wp_region_held_drew (S := (fun W => W.heap[W2.heap.size]? = some (.cells Xc 35 (0, 0)) ∧ W.heap[W6.heap.size]? = some (.cells Yc 35 (0, 0)))) (by kernel_rfl) ?_ (fun hHeld => ?_)
    · exact ⟨X8.out, Y8.out⟩
    refine wpAnyH_take (i := 0) (v := .agg Yc) rfl (by kernel_rfl) (by kernel_rfl) (by kernel_rfl) (fun _ _ _ h => h) (yields_loadR (by rfl) 35 _ rfl W6.heap.size rfl 35 Yc _ (fun _ h => h.2) Try.underlying35 rfl iY.out) (by assumption) ?_
    try simp only [List.getElem_toArray, List.getElem_cons_zero, List.getElem_cons_succ, Act.put, List.setIfInBounds_toArray, List.set_cons_zero, List.set_cons_succ]
    refine wpAnyH_take (i := 1) (v := .agg Xc) rfl (by kernel_rfl) (by kernel_rfl) (by kernel_rfl) (fun _ _ _ h => h) (yields_loadR (by rfl) 35 _ rfl W2.heap.size rfl 35 Xc _ (fun _ h => h.1) Try.underlying35 rfl iX.out) (by assumption) ?_
    try simp only [List.getElem_toArray, List.getElem_cons_zero, List.getElem_cons_succ, Act.put, List.setIfInBounds_toArray, List.set_cons_zero, List.set_cons_succ]
    refine wpAnyH_ready (rs := [2]) (by kernel_rfl) (by simp) ?_
    refine AllReadyH.cons (o := _) rfl (fun K hK => ?_) AllReadyH.nil
    go_simp
    refine (NtX.out _).mono ?_
    rintro e W8 ⟨rfl, b9⟩
    go_wp2_with fail
    have X9 : Hid (W8.heap[W2.heap.size]? = some (.cells Xc 35 (0, 0))) := (b9.block _ (lt_of_heap X8.out)).trans X8.out
    have Y9 : Hid (W8.heap[W6.heap.size]? = some (.cells Yc 35 (0, 0))) := (b9.block _ (lt_of_heap Y8.out)).trans Y8.out
    have D9 : Hid (Below w.heap.size w W8) := (((below1 w (.cells ps 33)).trans (B8.out.mono (by omega))).drew).trans (b9.mono (by show w.heap.size ≤ W7.heap.size; omega))
    clear b9
    refine hK.out _ _ ⟨X9.out, Y9.out⟩ (fun hHeld2 => ?_)
    clear hK K hHeld
    try simp only [List.getElem_toArray, List.getElem_cons_zero, List.getElem_cons_succ, Act.put, List.setIfInBounds_toArray, List.set_cons_zero, List.set_cons_succ]
    refine wpAnyH_take (i := 3) (v := .bool true) rfl (by kernel_rfl) (by kernel_rfl) (by kernel_rfl) (fun _ _ _ h => h) (yields_bin (by rfl) .eql 35 _ _ _ rfl (.agg Yc) (.agg Tc) _ rfl rfl (NgYT.out _ _) E1.out) (by assumption) ?_
    try simp only [List.getElem_toArray, List.getElem_cons_zero, List.getElem_cons_succ, Act.put, List.setIfInBounds_toArray, List.set_cons_zero, List.set_cons_succ]
    refine wpAnyH_take (i := 4) (v := ?_) rfl (by kernel_rfl) (by kernel_rfl) (by kernel_rfl) (fun _ _ _ h => h) (Or.inl ⟨by rfl, ?_⟩) (by assumption) ?_
    rotate_left
    · (intro w hSw; (try dsimp only at hSw); go_simp; try with_reducible rfl)
    try simp only [List.getElem_toArray, List.getElem_cons_zero, List.getElem_cons_succ, Act.put, List.setIfInBounds_toArray, List.set_cons_zero, List.set_cons_succ]
    refine wpAnyH_take (i := 5) (v := undef) rfl (by kernel_rfl) (by kernel_rfl) (by kernel_rfl) (fun _ _ _ h => h) (Or.inr ⟨by rfl, rfl⟩) (by assumption) ?_
    try simp only [List.getElem_toArray, List.getElem_cons_zero, List.getElem_cons_succ, Act.put, List.setIfInBounds_toArray, List.set_cons_zero, List.set_cons_succ]
    refine wpAnyH_take (i := 6) (v := undef) rfl (by kernel_rfl) (by kernel_rfl) (by kernel_rfl) (fun _ _ _ h => h) (Or.inr ⟨by rfl, rfl⟩) (by assumption) ?_
    try simp only [List.getElem_toArray, List.getElem_cons_zero, List.getElem_cons_succ, Act.put, List.setIfInBounds_toArray, List.set_cons_zero, List.set_cons_succ]
    refine wpAnyH_take (i := 7) (v := undef) rfl (by kernel_rfl) (by kernel_rfl) (by kernel_rfl) (fun _ _ _ h => h) (Or.inr ⟨by rfl, rfl⟩) (by assumption) ?_
    try simp only [List.getElem_toArray, List.getElem_cons_zero, List.getElem_cons_succ, Act.put, List.setIfInBounds_toArray, List.set_cons_zero, List.set_cons_succ]
    refine wpAnyH_take (i := 8) (v := undef) rfl (by kernel_rfl) (by kernel_rfl) (by kernel_rfl) (fun _ _ _ h => h) (Or.inr ⟨by rfl, rfl⟩) (by assumption) ?_
    try simp only [List.getElem_toArray, List.getElem_cons_zero, List.getElem_cons_succ, Act.put, List.setIfInBounds_toArray, List.set_cons_zero, List.set_cons_succ]
    refine wpAnyH_take (i := 9) (v := ?_) rfl (by kernel_rfl) (by kernel_rfl) (by kernel_rfl) (fun _ _ _ h => h) (Or.inl ⟨by rfl, ?_⟩) (by assumption) ?_
    rotate_left
    · (intro w hSw; (try dsimp only at hSw); go_simp; try with_reducible rfl)
    try simp only [List.getElem_toArray, List.getElem_cons_zero, List.getElem_cons_succ, Act.put, List.setIfInBounds_toArray, List.set_cons_zero, List.set_cons_succ]
    refine wpAnyH_done (by kernel_rfl) ?_ _
    clear hHeld2
    go_wp2
    go_ret
    exact ⟨rfl, D9.out⟩
end Go.Proofs.Ytmndfmbnedfloaa
