/- The State of noughts; States that are equal compare as equal. Conditions: the State's cells are of their kinds. -/
import Derived.Test.YtnahhmcmahbnkaaGreatDoorGFHtoAA
import Derived.Test.YtnahhmcmahbnkaaGreatDoorGABtoAD
namespace Go.Proofs.YtnahhmcmahbnkaaGreatDoor
open Go.RowKit

theorem zeroSt : St zeroC := by
  refine ⟨rfl, zeroC_one, fun i hi => ?_, fun i hi => ?_, fun i hi => ?_, fun i hi => ?_, fun i hi => ?_⟩
  · simp only [List.mem_cons, List.not_mem_nil, or_false] at hi
    refine ⟨0, ?_, by omega, by omega⟩
    rcases hi with rfl | rfl | rfl | rfl <;> rfl
  · simp only [List.mem_cons, List.not_mem_nil, or_false] at hi
    refine ⟨0, ?_, by omega, by omega⟩
    rcases hi with rfl | rfl | rfl | rfl | rfl | rfl | rfl | rfl | rfl | rfl | rfl | rfl | rfl | rfl | rfl | rfl | rfl | rfl | rfl | rfl | rfl | rfl | rfl <;> rfl
  · simp only [List.mem_cons, List.not_mem_nil, or_false] at hi
    refine ⟨0, ?_, by omega, by omega⟩
    rcases hi with rfl | rfl | rfl | rfl | rfl | rfl | rfl | rfl | rfl | rfl | rfl | rfl | rfl <;> rfl
  · simp only [List.mem_cons, List.not_mem_nil, or_false] at hi
    refine ⟨false, ?_⟩
    rcases hi with rfl | rfl | rfl | rfl <;> rfl
  · simp only [List.mem_cons, List.not_mem_nil, or_false] at hi
    refine ⟨⟨#[]⟩, ?_⟩
    rcases hi with rfl | rfl | rfl | rfl | rfl <;> rfl
theorem list_cons {α : Type} {l : List α} {n : Nat} (h : l.length = n + 1) : ∃ a r, l = a :: r ∧ r.length = n := by
  cases l with
  | nil => simp at h
  | cons a r => exact ⟨a, r, rfl, by simpa using h⟩
theorem eq_regs (a b c d : Int) (w : World) : (Op.equalIn 9999 34 (.agg #[.int .u32 a, .int .u32 b, .int .u32 c, .int .u32 d]) (.agg #[.int .u32 a, .int .u32 b, .int .u32 c, .int .u32 d])).run Tryz.prog w = .ok true w := by
  have u3 := Tryz.underlying25
  have a3 := Tryz.isAgg25
  have z3 := Tryz.sizeOf25
  rw [show (9999 : Nat) = 9998 + 1 from rfl, Op.equalIn]
  simp only [Sem.run_bind, run_underlying Tryz.underlying34, Result.andThen_ok]
  simp only [Std.Legacy.Range.forIn_eq_forIn_range', Std.Legacy.Range.size, Nat.sub_zero, Nat.add_sub_cancel, Nat.div_one, List.range'_succ, List.range'_zero, List.forIn_cons, List.forIn_nil]
  go_simp
set_option maxRecDepth 20000 in
set_option maxHeartbeats 4000000 in
theorem eq_state {cs : Array Value} (h : St cs) (W : World) : (binOp .eql 38 (.agg cs) (.agg cs)).run Tryz.prog W = .ok (.bool true) W := by
  obtain ⟨l⟩ := cs
  have hl : l.length = 49 := by simpa using h.size
  obtain ⟨c0v, l0, rfl, k0⟩ := list_cons hl
  obtain ⟨c1v, l1, rfl, k1⟩ := list_cons k0
  obtain ⟨c2v, l2, rfl, k2⟩ := list_cons k1
  obtain ⟨c3v, l3, rfl, k3⟩ := list_cons k2
  obtain ⟨c4v, l4, rfl, k4⟩ := list_cons k3
  obtain ⟨c5v, l5, rfl, k5⟩ := list_cons k4
  obtain ⟨c6v, l6, rfl, k6⟩ := list_cons k5
  obtain ⟨c7v, l7, rfl, k7⟩ := list_cons k6
  obtain ⟨c8v, l8, rfl, k8⟩ := list_cons k7
  obtain ⟨c9v, l9, rfl, k9⟩ := list_cons k8
  obtain ⟨c10v, l10, rfl, k10⟩ := list_cons k9
  obtain ⟨c11v, l11, rfl, k11⟩ := list_cons k10
  obtain ⟨c12v, l12, rfl, k12⟩ := list_cons k11
  obtain ⟨c13v, l13, rfl, k13⟩ := list_cons k12
  obtain ⟨c14v, l14, rfl, k14⟩ := list_cons k13
  obtain ⟨c15v, l15, rfl, k15⟩ := list_cons k14
  obtain ⟨c16v, l16, rfl, k16⟩ := list_cons k15
  obtain ⟨c17v, l17, rfl, k17⟩ := list_cons k16
  obtain ⟨c18v, l18, rfl, k18⟩ := list_cons k17
  obtain ⟨c19v, l19, rfl, k19⟩ := list_cons k18
  obtain ⟨c20v, l20, rfl, k20⟩ := list_cons k19
  obtain ⟨c21v, l21, rfl, k21⟩ := list_cons k20
  obtain ⟨c22v, l22, rfl, k22⟩ := list_cons k21
  obtain ⟨c23v, l23, rfl, k23⟩ := list_cons k22
  obtain ⟨c24v, l24, rfl, k24⟩ := list_cons k23
  obtain ⟨c25v, l25, rfl, k25⟩ := list_cons k24
  obtain ⟨c26v, l26, rfl, k26⟩ := list_cons k25
  obtain ⟨c27v, l27, rfl, k27⟩ := list_cons k26
  obtain ⟨c28v, l28, rfl, k28⟩ := list_cons k27
  obtain ⟨c29v, l29, rfl, k29⟩ := list_cons k28
  obtain ⟨c30v, l30, rfl, k30⟩ := list_cons k29
  obtain ⟨c31v, l31, rfl, k31⟩ := list_cons k30
  obtain ⟨c32v, l32, rfl, k32⟩ := list_cons k31
  obtain ⟨c33v, l33, rfl, k33⟩ := list_cons k32
  obtain ⟨c34v, l34, rfl, k34⟩ := list_cons k33
  obtain ⟨c35v, l35, rfl, k35⟩ := list_cons k34
  obtain ⟨c36v, l36, rfl, k36⟩ := list_cons k35
  obtain ⟨c37v, l37, rfl, k37⟩ := list_cons k36
  obtain ⟨c38v, l38, rfl, k38⟩ := list_cons k37
  obtain ⟨c39v, l39, rfl, k39⟩ := list_cons k38
  obtain ⟨c40v, l40, rfl, k40⟩ := list_cons k39
  obtain ⟨c41v, l41, rfl, k41⟩ := list_cons k40
  obtain ⟨c42v, l42, rfl, k42⟩ := list_cons k41
  obtain ⟨c43v, l43, rfl, k43⟩ := list_cons k42
  obtain ⟨c44v, l44, rfl, k44⟩ := list_cons k43
  obtain ⟨c45v, l45, rfl, k45⟩ := list_cons k44
  obtain ⟨c46v, l46, rfl, k46⟩ := list_cons k45
  obtain ⟨c47v, l47, rfl, k47⟩ := list_cons k46
  obtain ⟨c48v, l48, rfl, k48⟩ := list_cons k47
  obtain rfl := List.length_eq_zero_iff.1 k48
  obtain ⟨x0, hx0, _⟩ := h.u64 0 (by decide)
  obtain ⟨x1, hx1, _⟩ := h.u64 1 (by decide)
  obtain ⟨x2, hx2⟩ := h.bool 2 (by decide)
  obtain ⟨x3, hx3, _⟩ := h.i64 3 (by decide)
  obtain ⟨x4, hx4, _⟩ := h.i64 4 (by decide)
  obtain ⟨x5, hx5⟩ := h.bool 5 (by decide)
  obtain ⟨x6, hx6, _⟩ := h.i64 6 (by decide)
  obtain ⟨x7, hx7, _⟩ := h.u64 7 (by decide)
  obtain ⟨x8, hx8, _⟩ := h.u32 8 (by decide)
  obtain ⟨x9, hx9, _⟩ := h.u64 9 (by decide)
  obtain ⟨x10, hx10, _⟩ := h.u32 10 (by decide)
  obtain ⟨x11, hx11⟩ := h.bool 11 (by decide)
  obtain ⟨x12, hx12, _⟩ := h.i64 12 (by decide)
  obtain ⟨x13, hx13, _⟩ := h.i64 13 (by decide)
  obtain ⟨x14, hx14, _⟩ := h.i64 14 (by decide)
  obtain ⟨x15, hx15, _⟩ := h.i64 15 (by decide)
  obtain ⟨x16, hx16, _⟩ := h.i64 16 (by decide)
  obtain ⟨x17, hx17, _⟩ := h.u32 17 (by decide)
  obtain ⟨x18, hx18, _⟩ := h.u32 18 (by decide)
  obtain ⟨x19, hx19⟩ := h.str 19 (by decide)
  obtain ⟨x20, hx20, _⟩ := h.i64 20 (by decide)
  obtain ⟨x21, hx21, _⟩ := h.i64 21 (by decide)
  obtain ⟨x22, hx22, _⟩ := h.i64 22 (by decide)
  obtain ⟨x23, hx23, _⟩ := h.u32 23 (by decide)
  obtain ⟨x24, hx24, _⟩ := h.i64 24 (by decide)
  obtain ⟨x25, hx25, _⟩ := h.i64 25 (by decide)
  obtain ⟨x26, hx26⟩ := h.bool 26 (by decide)
  obtain ⟨x27, hx27, _⟩ := h.u32 27 (by decide)
  obtain ⟨x28, hx28, _⟩ := h.u32 28 (by decide)
  obtain ⟨x29, hx29, _⟩ := h.i64 29 (by decide)
  obtain ⟨x30, hx30, _⟩ := h.i64 30 (by decide)
  obtain ⟨x31, hx31, _⟩ := h.i64 31 (by decide)
  obtain ⟨x32, hx32⟩ := h.str 32 (by decide)
  obtain ⟨x33, hx33⟩ := h.str 33 (by decide)
  obtain ⟨x34, hx34⟩ := h.str 34 (by decide)
  obtain ⟨x35, hx35⟩ := h.str 35 (by decide)
  obtain ⟨x36, hx36, _⟩ := h.i64 36 (by decide)
  obtain ⟨x37, hx37, _⟩ := h.i64 37 (by decide)
  obtain ⟨x38, hx38, _⟩ := h.i64 38 (by decide)
  obtain ⟨x39, hx39, _⟩ := h.i64 39 (by decide)
  obtain ⟨x40, hx40, _⟩ := h.u32 40 (by decide)
  obtain ⟨x41, hx41, _⟩ := h.u32 41 (by decide)
  obtain ⟨x42, hx42, _⟩ := h.u32 42 (by decide)
  obtain ⟨x43, hx43, _⟩ := h.u32 43 (by decide)
  obtain ⟨x44, hx44, _⟩ := h.i64 44 (by decide)
  obtain ⟨x45, hx45, _⟩ := h.u32 45 (by decide)
  obtain ⟨x46, hx46, _⟩ := h.u32 46 (by decide)
  obtain ⟨x47, hx47, _⟩ := h.i64 47 (by decide)
  obtain ⟨x48, hx48, _⟩ := h.i64 48 (by decide)
  simp only [List.getElem?_toArray, List.getElem?_cons_zero, List.getElem?_cons_succ, Option.some.injEq] at hx0 hx1 hx2 hx3 hx4 hx5 hx6 hx7 hx8 hx9 hx10 hx11 hx12 hx13 hx14 hx15 hx16 hx17 hx18 hx19 hx20 hx21 hx22 hx23 hx24 hx25 hx26 hx27 hx28 hx29 hx30 hx31 hx32 hx33 hx34 hx35 hx36 hx37 hx38 hx39 hx40 hx41 hx42 hx43 hx44 hx45 hx46 hx47 hx48
  subst hx0 hx1 hx2 hx3 hx4 hx5 hx6 hx7 hx8 hx9 hx10 hx11 hx12 hx13 hx14 hx15 hx16 hx17 hx18 hx19 hx20 hx21 hx22 hx23 hx24 hx25 hx26 hx27 hx28 hx29 hx30 hx31 hx32 hx33 hx34 hx35 hx36 hx37 hx38 hx39 hx40 hx41 hx42 hx43 hx44 hx45 hx46 hx47 hx48
  clear h hl
  simp [go_sem, eq_regs]
end Go.Proofs.YtnahhmcmahbnkaaGreatDoor
/- ActHop: its Check, its Step. Conditions: the State's cells are of their kinds. -/
namespace Go.Proofs.YtnahhmcmahbnkaaGreatDoor.Ac
open Go.RowKit
/-- An action with nothing but its kind. -/
def leafA (k : Int) : Array Value := #[.int .i64 k, .int .i64 0, .int .i64 0, .int .u64 0, .int .u64 0, .int .i64 0, .int .i64 0, .slice none 0 0, .slice none 0 0, .int .u64 0, .int .u32 0, .int .u32 0, .int .u32 0, .int .u32 0, .int .u32 0]
theorem kind3 : KindOf (leafA 3) (leafA 3) 123 131 true true where
  size := rfl
  size' := rfl
  one := by kernel_rfl
  callR := fun args W => by simp [go_sem]
  callS := fun args W => by simp [go_sem]
  right := fun W => isAny_any _ W
  strip := fun _ W b h => (strip_none _ W).mono fun e W' ⟨he, hw⟩ => ⟨he, by rw [hw]; exact h, by rw [hw]; exact Below.refl _ _⟩
  bare := fun _ W => isBare_yes 3 none none 0 0 W
theorem right_hop (d : Int) (hd : d ≤ 4) (hd0 : 0 ≤ d) (w : World) : Calls Tryz.prog 101 #[.agg (leafA 3), .int .i64 d] w fun e w' => e = .returned (.bool true) ∧ Below w.heap.size w w' :=
  isRight_gen 3 (by omega) (leafA 3) (leafA 3) 123 131 (fnV 132) true true true d hd hd0 none 0 0 w (by kernel_rfl) rfl rfl kind3 (fun _ _ W _ => (areRight_nil none 0 (d + 1) W).mono fun e W' ⟨he, hw⟩ => ⟨he, by rw [hw]; exact Below.refl _ _⟩)
theorem check_hop (w : World) : Calls Tryz.prog 95 #[.agg (leafA 3)] w fun e w' => e = .returned (.int .i64 0) ∧ Below w.heap.size w w' :=
  check_gen (leafA 3) rfl true w (fun W _ => right_hop 0 (by omega) (by omega) W)
theorem build_zero (W : World) : (Instr.build 38 #[]).run Tryz.prog W = .ok (.agg zeroC) W := run_build W 38 #[] zeroC (by kernel_rfl)
set_option maxRecDepth 20000 in
set_option maxHeartbeats 1000000 in
theorem hop_no (A cs : Array Value) (h11 : cs[11]? = some (.bool false)) (w : World) : Calls Tryz.prog 132 #[.agg cs, .agg A] w fun e w' => e = .returned (.tuple #[.agg zeroC, .int .i64 81]) ∧ Below w.heap.size w w' := by
  go_enter Tryz.func132, Tryz.ntmps132
  go_wp2_with (first
    | refine wpList_build_as rfl 38 _ rfl zeroC (by kernel_rfl) ?_
    | refine wpList_store_new rfl 38 _ _ rfl _ zeroC (w.heap.size + 1 + 1) (by simp) rfl rfl size49 rfl zeroC_one ?_
    | fail)
  exact bodyPost_ret (results_state (p := 4) (u := 5) rfl _ _ (w.heap.size + 1 + 1) zeroC rfl (three_last _ _ _ _) zeroC_size) rfl ⟨rfl, below3 _ _ _ _⟩
set_option maxRecDepth 20000 in
set_option maxHeartbeats 1000000 in
theorem hop_ttl (A cs : Array Value) (t : Int) (h11 : cs[11]? = some (.bool true)) (h15 : cs[15]? = some (.int .i64 t)) (ht : t < 2) (w : World) : Calls Tryz.prog 132 #[.agg cs, .agg A] w fun e w' => e = .returned (.tuple #[.agg zeroC, .int .i64 111]) ∧ Below w.heap.size w w' := by
  go_enter Tryz.func132, Tryz.ntmps132
  go_wp2_with (first
    | refine wpList_build_as rfl 38 _ rfl zeroC (by kernel_rfl) ?_
    | refine wpList_store_new rfl 38 _ _ rfl _ zeroC (w.heap.size + 1 + 1) (by simp) rfl rfl size49 rfl zeroC_one ?_
    | fail)
  exact bodyPost_ret (results_state (p := 4) (u := 5) rfl _ _ (w.heap.size + 1 + 1) zeroC rfl (three_last _ _ _ _) zeroC_size) rfl ⟨rfl, below3 _ _ _ _⟩
set_option maxRecDepth 20000 in
set_option maxHeartbeats 1000000 in
theorem hop_yes (A cs : Array Value) (hst : St cs) (t : Int) (h11 : cs[11]? = some (.bool true)) (h15 : cs[15]? = some (.int .i64 t)) (ht : 2 ≤ t) (ht2 : t ≤ 9223372036854775807) (w : World) : Calls Tryz.prog 132 #[.agg cs, .agg A] w fun e w' => e = .returned (.tuple #[.agg (cs.setIfInBounds 15 (.int .i64 (t - 1))), .int .i64 0]) ∧ Below w.heap.size w w' := by
  have hs' : (cs.setIfInBounds 15 (.int .i64 (t - 1))).size = 49 := by simpa using hst.size
  have HS : Hid _ := hs'
  have HI : Hid _ := info_size hs'
  have H1 : Hid _ := set_one (i := 15) (v := .int .i64 (t - 1)) hst.one rfl
  clear hst hs'
  go_enter Tryz.func132, Tryz.ntmps132
  go_wp2_with (first
    | refine wpList_load_row rfl 38 _ rfl w.heap.size rfl 38 (cs.setIfInBounds 15 (.int .i64 (t - 1))) (0, 0) _ (three_first _ _ _ _) Tryz.underlying38 rfl HI.out ?_
    | refine wpList_store_new rfl 38 _ _ rfl _ (cs.setIfInBounds 15 (.int .i64 (t - 1))) (w.heap.size + 1 + 1) (by simp) rfl rfl HI.out (Eq.trans (b := 49) rfl HS.out.symm) H1.out ?_
    | fail)
  exact bodyPost_ret (results_state (p := 4) (u := 5) rfl _ _ (w.heap.size + 1 + 1) _ rfl (three_last _ _ _ _) HS.out) rfl ⟨rfl, below3 _ _ _ _⟩
/-- What ActHop answers. -/
def hopE (cs : Array Value) : Int := if boolAt cs 11 then (if numAt cs 15 < 2 then 111 else 0) else 81
def hopR (cs : Array Value) : Array Value := if hopE cs = 0 then cs.setIfInBounds 15 (.int .i64 (numAt cs 15 - 1)) else zeroC
theorem hopR_size {cs : Array Value} (h : St cs) : (hopR cs).size = 49 := by
  unfold hopR; split
  · simpa using h.size
  · rfl
theorem hopR_one {cs : Array Value} (h : St cs) : (hopR cs).all (·.oneCell') = true := by
  unfold hopR; split
  · exact set_one h.one rfl
  · exact zeroC_one
theorem hop_any (A cs : Array Value) (h : St cs) (w : World) : Calls Tryz.prog 132 #[.agg cs, .agg A] w fun e w' => e = .returned (.tuple #[.agg (hopR cs), .int .i64 (hopE cs)]) ∧ Below w.heap.size w w' := by
  obtain ⟨b, hb⟩ := h.bool 11 (by decide)
  obtain ⟨t, ht, t1, t2⟩ := h.i64 15 (by decide)
  have eb := boolAt_of hb
  have et := numAt_of ht
  cases b
  · have e1 : hopE cs = 81 := by simp [hopE, eb]
    have e2 : hopR cs = zeroC := by simp [hopR, e1]
    rw [e1, e2]; exact hop_no A cs hb w
  · by_cases hl : t < 2
    · have e1 : hopE cs = 111 := by simp [hopE, eb, et, hl]
      have e2 : hopR cs = zeroC := by simp [hopR, e1]
      rw [e1, e2]; exact hop_ttl A cs t hb ht hl w
    · have e1 : hopE cs = 0 := by simp [hopE, eb, et, hl]
      have e2 : hopR cs = cs.setIfInBounds 15 (.int .i64 (t - 1)) := by simp [hopR, e1, et]
      rw [e1, e2]; exact hop_yes A cs h t hb ht (by omega) t2 w
theorem step_hop (cs : Array Value) (h : St cs) (w : World) : Calls Tryz.prog 62 #[.agg cs, .agg (leafA 3)] w fun e w' => e = .returned (.tuple #[.agg (hopR cs), .int .i64 (hopE cs)]) ∧ Below w.heap.size w w' :=
  step_gen 3 (by omega) (leafA 3) cs (hopR cs) (hopE cs) (fnV 123) (fnV 131) 132 (by kernel_rfl) rfl rfl h.size (hopR_size h) (hopR_one h) w (fun args W => by simp [go_sem]) (fun W _ => check_hop W) (fun W _ => hop_any _ cs h W)
end Go.Proofs.YtnahhmcmahbnkaaGreatDoor.Ac
/- What becomes of the laws' ARP request: the State that lives asks with, and what ActArp makes of it. No condition. -/
namespace Go.Proofs.YtnahhmcmahbnkaaGreatDoor.Ac
open Go.RowKit
def askC : Array Value := #[.int .u64 0, .int .u64 5, .bool false, .int .i64 0, .int .i64 2054, .bool true, .int .i64 1, .int .u64 5, .int .u32 6, .int .u64 0, .int .u32 7, .bool false, .int .i64 0, .int .i64 0, .int .i64 0, .int .i64 0, .int .i64 0, .int .u32 0, .int .u32 0, .string ⟨#[]⟩, .int .i64 0, .int .i64 0, .int .i64 0, .int .u32 0, .int .i64 0, .int .i64 0, .bool false, .int .u32 0, .int .u32 0, .int .i64 0, .int .i64 0, .int .i64 0, .string ⟨#[]⟩, .string ⟨#[]⟩, .string ⟨#[]⟩, .string ⟨#[]⟩, .int .i64 0, .int .i64 0, .int .i64 0, .int .i64 0, .int .u32 0, .int .u32 0, .int .u32 0, .int .u32 0, .int .i64 0, .int .u32 0, .int .u32 0, .int .i64 0, .int .i64 0]
def gotC : Array Value := #[.int .u64 5, .int .u64 9, .bool false, .int .i64 0, .int .i64 2054, .bool true, .int .i64 2, .int .u64 9, .int .u32 7, .int .u64 5, .int .u32 6, .bool false, .int .i64 0, .int .i64 0, .int .i64 0, .int .i64 0, .int .i64 0, .int .u32 0, .int .u32 0, .string ⟨#[]⟩, .int .i64 0, .int .i64 0, .int .i64 0, .int .u32 0, .int .i64 0, .int .i64 0, .bool false, .int .u32 0, .int .u32 0, .int .i64 0, .int .i64 0, .int .i64 0, .string ⟨#[]⟩, .string ⟨#[]⟩, .string ⟨#[]⟩, .string ⟨#[]⟩, .int .i64 0, .int .i64 0, .int .i64 0, .int .i64 0, .int .u32 0, .int .u32 0, .int .u32 0, .int .u32 0, .int .i64 0, .int .u32 0, .int .u32 0, .int .i64 0, .int .i64 0]
def arpA : Array Value := #[.int .i64 11, .int .i64 0, .int .i64 0, .int .u64 9, .int .u64 0, .int .i64 0, .int .i64 0, .slice none 0 0, .slice none 0 0, .int .u64 0, .int .u32 0, .int .u32 0, .int .u32 0, .int .u32 0, .int .u32 0]
def askP : Array Value := #[.int .u64 0, .int .u64 5, .bool false, .int .i64 0, .int .i64 2054, .bool true, .int .i64 1, .int .u64 5, .int .u32 6, .int .u64 0, .int .u32 7, .bool false, .int .i64 0, .int .i64 0, .int .i64 0, .int .i64 0, .int .i64 0, .int .u32 0, .int .u32 0, .string ⟨#[]⟩, .int .i64 0, .int .i64 0, .int .i64 0, .int .u32 0, .int .i64 0, .int .i64 0, .bool false, .int .u32 0, .int .u32 0, .int .i64 0, .int .i64 0, .int .i64 0, .string ⟨#[]⟩, .string ⟨#[]⟩, .string ⟨#[]⟩, .string ⟨#[]⟩]
def midP : Array Value := #[.int .u64 0, .int .u64 5, .bool false, .int .i64 0, .int .i64 2054, .bool true, .int .i64 2, .int .u64 9, .int .u32 7, .int .u64 5, .int .u32 6, .bool false, .int .i64 0, .int .i64 0, .int .i64 0, .int .i64 0, .int .i64 0, .int .u32 0, .int .u32 0, .string ⟨#[]⟩, .int .i64 0, .int .i64 0, .int .i64 0, .int .u32 0, .int .i64 0, .int .i64 0, .bool false, .int .u32 0, .int .u32 0, .int .i64 0, .int .i64 0, .int .i64 0, .string ⟨#[]⟩, .string ⟨#[]⟩, .string ⟨#[]⟩, .string ⟨#[]⟩]
def gotP : Array Value := #[.int .u64 5, .int .u64 9, .bool false, .int .i64 0, .int .i64 2054, .bool true, .int .i64 2, .int .u64 9, .int .u32 7, .int .u64 5, .int .u32 6, .bool false, .int .i64 0, .int .i64 0, .int .i64 0, .int .i64 0, .int .i64 0, .int .u32 0, .int .u32 0, .string ⟨#[]⟩, .int .i64 0, .int .i64 0, .int .i64 0, .int .u32 0, .int .i64 0, .int .i64 0, .bool false, .int .u32 0, .int .u32 0, .int .i64 0, .int .i64 0, .int .i64 0, .string ⟨#[]⟩, .string ⟨#[]⟩, .string ⟨#[]⟩, .string ⟨#[]⟩]
theorem wpList_load_as {P : Program} {ops : Array Oper} {rest : List Oper} {op : Oper} {a : Act} {w : World} {Q : Exit → Act → World → Prop} (hgd : op.guard = none) (ty : TypeId) (x : Operand) (ho : op.op = .load ty x)
    (g o n : Nat) (hx : a.eval x = .pointer (some ⟨g, o, none⟩)) (cs L : Array Value) (t : TypeId) (d : TypeDesc) (hg : w.heap[g]? = some (.cells cs t (0, 0)))
    (hu : P.underlying ty = some d) (hd : d.isRow = true) (hL : cs.extract o (o + n) = L) (hn : L.size = n) (hi : (P.info? ty).map (·.size) = some n)
    (h : wpList P ops Q rest (a.put op.dst (.agg L)) w) : wpList P ops Q (op :: rest) a w := by
  subst hL
  exact wpList_load_at hgd ty x ho g o n hx cs t d hg hu hd hn hi h
theorem size36 : (Tryz.prog.info? 33).map (·.size) = some 36 := by kernel_rfl
theorem row_setCell {w : World} {b : Nat} {cs : Array Value} {t : TypeId} (h : w.heap[b]? = some (.cells cs t (0, 0))) (o : Nat) (v : Value) : (w.setCell ⟨b, o, none⟩ v).heap[b]? = some (.cells (cs.setIfInBounds o v) t (0, 0)) := by
  have hlt : b < w.heap.size := lt_of_heap h
  have hv : w.heap[b] = .cells cs t (0, 0) := (Array.getElem?_eq_some_iff.1 h).2
  unfold World.setCell
  simp [Array.getElem?_modify, h]
/-- A row with other cells from a place on. -/
def putC : Array Value → Nat → List Value → Array Value
  | cs, _, [] => cs
  | cs, o, v :: r => putC (cs.setIfInBounds o v) (o + 1) r
theorem putC_size : ∀ (vs : List Value) (cs : Array Value) (o : Nat), (putC cs o vs).size = cs.size
  | [], _, _ => rfl
  | v :: r, cs, o => by rw [putC, putC_size r]; simp
theorem row_setCells : ∀ (vs : List Value) {w : World} {b : Nat} {cs : Array Value} {t : TypeId} (_ : w.heap[b]? = some (.cells cs t (0, 0))) (o : Nat), (w.setCells b o vs).heap[b]? = some (.cells (putC cs o vs) t (0, 0))
  | [], _, _, _, _, h, _ => h
  | v :: r, w, b, cs, t, h, o => by
    rw [World.setCells, putC]
    exact row_setCells r (row_setCell h o v) (o + 1)
theorem heap_setCells : ∀ (vs : List Value) (w : World) (b o : Nat), (w.setCells b o vs).heap.size = w.heap.size ∧ (∀ k, k ≠ b → (w.setCells b o vs).heap[k]? = w.heap[k]?) ∧ Below b w (w.setCells b o vs)
  | [], w, b, o => ⟨rfl, fun _ _ => rfl, Below.refl _ _⟩
  | v :: r, w, b, o => by
    obtain ⟨h1, h2, h3⟩ := heap_setCells r (w.setCell ⟨b, o, none⟩ v) b (o + 1)
    have e1 : (w.setCell ⟨b, o, none⟩ v).heap.size = w.heap.size := by simp [World.setCell]
    refine ⟨h1.trans e1, fun k hk => (h2 k hk).trans (Below.heap_setCell _ _ _ _ hk), ?_⟩
    have h0 : Below b w (w.setCell ⟨b, o, none⟩ v) := (Below.refl b w).setCell (Nat.le_refl _) v
    exact h0.trans h3
theorem there_row {w : World} {b : Nat} {cs : Array Value} {t : TypeId} (h : w.heap[b]? = some (.cells cs t (0, 0))) (o n : Nat) (hn : o + n ≤ cs.size) : w.there b o n := fun j hj => by
  refine ⟨?_, frozen_of_row w b _ cs t h⟩
  rw [cell_row h, Array.getElem?_eq_getElem (by omega)]; rfl
/-- A struct into the midst of a block. -/
theorem wpList_store_at {P : Program} {ops : Array Oper} {rest : List Oper} {op : Oper} {a : Act} {w : World} {Q : Exit → Act → World → Prop} (hgd : op.guard = none) (ty : TypeId) (x y : Operand) (ho : op.op = .store ty x y)
    (g o : Nat) (old c' : Array Value) (t : TypeId) (hx : a.eval x = .pointer (some ⟨g, o, none⟩)) (hy : a.eval y = .agg c') (hg : w.heap[g]? = some (.cells old t (0, 0)))
    (hi : (P.info? ty).map (·.size) = some c'.size) (hs : o + c'.size ≤ old.size) (h1 : c'.all (·.oneCell') = true)
    (h : ∀ w', w'.heap[g]? = some (.cells (putC old o c'.toList) t (0, 0)) → (∀ k, k ≠ g → w'.heap[k]? = w.heap[k]?) → w'.heap.size = w.heap.size → Below g w w' → wpList P ops Q rest (a.put op.dst undef) w') : wpList P ops Q (op :: rest) a w := by
  obtain ⟨e1, e2, e3⟩ := heap_setCells c'.toList w g o
  exact wpList_store_mid hgd ty x y ho g o c' hx hy (there_row hg o _ hs) hi h1 (h _ (row_setCells _ hg o) e2 e1 e3)
/-- The State whose packet is another. -/
def withP (cs ps : Array Value) : Array Value := putC cs 0 ps.toList
set_option maxRecDepth 20000 in
set_option maxHeartbeats 1000000 in
theorem become_no (cs ps : Array Value) (w : World) : Calls Tryz.prog 205 #[.agg cs, .agg ps, .bool false] w fun e w' => e = .returned (.tuple #[.agg zeroC, .int .i64 81]) ∧ Below w.heap.size w w' := by
  go_enter Tryz.func205, Tryz.ntmps205
  go_wp2_with (first
    | refine wpList_build_as rfl 38 _ rfl zeroC (by kernel_rfl) ?_
    | refine wpList_store_new rfl 38 _ _ rfl _ zeroC (w.heap.size + 1 + 1) (by simp) rfl rfl size49 rfl zeroC_one ?_
    | fail)
  exact bodyPost_ret (results_state (p := 6) (u := 7) rfl _ _ (w.heap.size + 1 + 1) zeroC rfl (three_last _ _ _ _) zeroC_size) rfl ⟨rfl, below3 _ _ _ _⟩
set_option maxRecDepth 20000 in
set_option maxHeartbeats 1000000 in
theorem become_yes (cs ps : Array Value) (hs : cs.size = 49) (hp : ps.size = 36) (h1 : (withP cs ps).all (·.oneCell') = true) (hp1 : ps.all (·.oneCell') = true) (w : World) : Calls Tryz.prog 205 #[.agg cs, .agg ps, .bool true] w fun e w' => e = .returned (.tuple #[.agg (withP cs ps), .int .i64 0]) ∧ Below w.heap.size w w' := by
  have HSZ : Hid _ := (show (withP cs ps).size = 49 by unfold withP; rw [putC_size]; exact hs)
  have HIW : Hid _ := info_size HSZ.out
  have HIP : Hid _ := (show (Tryz.prog.info? 33).map (·.size) = some ps.size by rw [hp]; exact size36)
  have H1 : Hid _ := h1
  have HP1 : Hid _ := hp1
  have HIN : Hid _ := (show 0 + ps.size ≤ cs.size by omega)
  clear h1 hp1 hs hp
  go_enter Tryz.func205, Tryz.ntmps205
  go_wp2_with (first
    | refine wpList_load_row rfl 33 _ rfl (w.heap.size + 1) rfl 33 ps (0, 0) _ ((heap_alloc_old _ _ (by simp)).trans (two_last _ _ _)) Tryz.underlying33 rfl HIP.out ?_
    | refine wpList_store_at rfl 33 _ _ rfl w.heap.size 0 cs ps 38 rfl rfl (three_first _ _ _ _) HIP.out HIN.out HP1.out ?_
    | fail)
  intro W9 z1 z2 z3 z4
  have q3 : W9.heap[w.heap.size + 1 + 1]? = some (.cells zeroC 38 (0, 0)) := (z2 _ (by omega)).trans (three_last _ _ _ _)
  have HQ3 : Hid _ := q3
  have HZ1 : Hid _ := z1
  clear q3 z1
  go_wp2_with (first
    | refine wpList_load_row rfl 38 _ rfl w.heap.size rfl 38 (withP cs ps) (0, 0) _ HZ1.out Tryz.underlying38 rfl HIW.out ?_
    | refine wpList_store_row rfl 38 _ _ rfl (w.heap.size + 1 + 1) zeroC (withP cs ps) 38 rfl rfl HQ3.out HIW.out (Eq.trans (b := 49) rfl HSZ.out.symm) H1.out ?_
    | fail)
  intro W8 y1 y2 y3 y4
  go_wp2
  refine bodyPost_ret (results_state (p := 6) (u := 7) rfl _ _ (w.heap.size + 1 + 1) _ rfl y1 HSZ.out) rfl ⟨rfl, ?_⟩
  exact ((below3 w _ _ _).trans z4).trans (y4.mono (by omega))
end Go.Proofs.YtnahhmcmahbnkaaGreatDoor.Ac
