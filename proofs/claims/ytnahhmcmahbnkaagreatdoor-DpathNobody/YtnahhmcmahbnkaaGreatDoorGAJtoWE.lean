/- Lists of actions: areRight, count, clones within clones. Conditions: as said. -/
import Derived.Test.YtnahhmcmahbnkaaGreatDoorGFZtoAF
import Derived.Laws.MakeOwn
import Derived.Lib.Hide
import Derived.OwnWalk
import Derived.Maps.AppendAt
import Derived.Lib.LaidTab
import Derived.Handy
import Derived.Lib.SliceRun
namespace Go.Proofs.YtnahhmcmahbnkaaGreatDoor.Ac
open Go.RowKit
set_option maxRecDepth 20000 in
set_option maxHeartbeats 1000000 in
theorem right_deep (A : Array Value) (k : Nat) (hk : k < 15) (a b c : Value) (h0 : A[0]? = some (.int .i64 k)) (hrow : tabC.extract (k * 3) (k * 3 + 3) = #[a, b, c]) (d : Int) (hd : 4 < d) (w : World) :
    Calls Tryz.prog 101 #[.agg A, .int .i64 d] w fun e w' => e = .returned (.bool false) ∧ Below w.heap.size w w' := by
  have HROW : Hid _ := hrow
  have hdf : decide (4 < d) = true := by simp; omega
  have h1r : (#[a, b, c] : Array Value).all (·.oneCell') = true := by rw [← HROW.out]; exact tab_one k
  have H1R : Hid _ := h1r
  clear hrow h1r
  go_enter Tryz.func101, Tryz.ntmps101
  go_wp2_with fail
  refine (arow_lit k hk _ _ _ HROW.out _).mono ?_
  rintro e W1 ⟨rfl, hb1⟩
  have HB1 : Hid (Below w.heap.size w W1) := (below1 w _).trans (hb1.mono (by simp))
  clear hb1
  go_wp2_with (first
    | refine wpList_store_new rfl 197 _ _ rfl _ #[a, b, c] W1.heap.size rfl rfl rfl size3 rfl H1R.out ?_
    | fail)
  go_ret
  exact ⟨rfl, HB1.out.trans ((below1 W1 _).mono HB1.out.size)⟩
def allB (bs : Nat → Bool) (n : Nat) : Bool := (List.range n).all bs
theorem allB_succ (bs : Nat → Bool) (n : Nat) : allB bs (n + 1) = (allB bs n && bs n) := by simp [allB, List.range_succ]
theorem allB_false {bs : Nat → Bool} {k n : Nat} (hk : k < n) (h : bs k = false) : allB bs n = false := by
  unfold allB
  rw [List.all_eq_false]
  exact ⟨k, by simpa using hk, by simp [h]⟩
set_option maxRecDepth 20000 in
set_option maxHeartbeats 2000000 in
theorem areRight_list (g n c : Nat) (C : Array Value) (bs : Nat → Bool) (d : Int) (w : World) (hC : w.heap[g]? = some (.cells C 49 (0, 0))) (hn : n * 15 ≤ C.size) (hone : C.all (·.oneCell') = true) (hm : n ≤ 1000000)
    (h : ∀ i, i < n → ∀ W, Below w.heap.size w W → Calls Tryz.prog 101 #[.agg (C.extract (i * 15) (i * 15 + 15)), .int .i64 d] W fun e W' => e = .returned (.bool (bs i)) ∧ Below W.heap.size W W') :
    Calls Tryz.prog 70 #[.slice (some ⟨g, 0, none⟩) n c, .int .i64 d] w fun e w' => e = .returned (.bool (allB bs n)) ∧ Below w.heap.size w w' := by
  have HC : Hid _ := hC
  have HO : Hid _ := hone
  have HH : Hid _ := h
  clear hC hone h
  go_enter Tryz.func70, Tryz.ntmps70
  go_wp2_with fail
  go_loopw [9] (fun i wr => ∃ k : Nat, k ≤ n ∧ i = .int .i64 k ∧ allB bs k = true ∧ Below w.heap.size w wr) (fun i _ => n - (intOf i).toNat)
  case atStart => exact ⟨0, by omega, rfl, rfl, Below.refl _ _⟩
  case round =>
    obtain ⟨k, hk, rfl, hall, hb⟩ := hrel
    have HB : Hid _ := hb
    have HALL : Hid _ := hall
    clear hb hall
    by_cases hlt : k < n
    · have hkI : (k : Int) < n := by omega
      have hk0 : (0 : Int) ≤ k := by omega
      have hsz : (C.extract (k * 15) (k * 15 + 15)).size = 15 := by rw [Array.size_extract]; omega
      obtain ⟨A, hA⟩ : ∃ A, C.extract (k * 15) (k * 15 + 15) = A := ⟨_, rfl⟩
      have hone := extract_one HO.out (k * 15) (k * 15 + 15)
      rw [hA] at hsz hone
      have HAE : Hid _ := hA
      have HS : Hid _ := hsz
      have H1 : Hid _ := hone
      have HG : Hid (wr.heap[g]? = some (.cells C 49 (0, 0))) := (HB.out.block _ (lt_of_heap HC.out)).trans HC.out
      have HN : Hid _ := heap_alloc_new wr (.cells A 49)
      clear hA hsz hone
      go_wp2_with (first
        | refine wpList_load_as rfl 49 _ rfl g (k * 15) 15 rfl C A 49 _ HG.out Tryz.underlying49 rfl HAE.out HS.out size15 ?_
        | refine wpList_store_new rfl 49 _ _ rfl _ A wr.heap.size rfl rfl rfl (info15 HS.out) (Eq.trans (b := 15) rfl HS.out.symm) H1.out ?_
        | refine wpList_load_row rfl 49 _ rfl wr.heap.size rfl 49 A (0, 0) _ HN.out Tryz.underlying49 rfl (info15 HS.out) ?_
        | fail)
      rw [← HAE.out]
      have hb2 : Below w.heap.size w (wr.alloc (.cells A 49)) := HB.out.trans ((below1 wr _).mono HB.out.size)
      rw [← HAE.out] at hb2
      refine (HH.out k hlt _ hb2).mono ?_
      rw [HAE.out]
      rintro e W1 ⟨rfl, hb1⟩
      rw [HAE.out] at hb2
      have HB1 : Hid (Below w.heap.size w W1) := hb2.trans (hb1.mono hb2.size)
      clear hb1 hb2
      cases hbk : bs k
      · have HF : Hid _ := allB_false hlt hbk
        go_wp2
        go_ret
        exact ⟨by rw [HF.out]; rfl, HB1.out⟩
      · have HF : Hid (allB bs (k + 1) = true) := by show _ = _; rw [allB_succ, HALL.out, hbk]; rfl
        go_wp2
        go_roundw
        case rel => exact ⟨k + 1, by omega, by go_num, HF.out, HB1.out⟩
        case measure => simp [intOf]; omega
    · obtain rfl : k = n := by omega
      go_wp2
      go_ret
      exact ⟨by rw [HALL.out]; rfl, HB.out⟩
/-- A Clone of a list. -/
def cloneA (s : Value) : Array Value := #[.int .i64 5, .int .i64 0, .int .i64 0, .int .u64 0, .int .u64 0, .int .i64 0, .int .i64 0, s, .slice none 0 0, .int .u64 0, .int .u32 0, .int .u32 0, .int .u32 0, .int .u32 0, .int .u32 0]
theorem cloneA_one (a : Option Addr) (n c : Nat) : (cloneA (.slice a n c)).all (·.oneCell') = true := by kernel_rfl
theorem kind5 (a : Option Addr) (n c : Nat) : KindOf (cloneA (.slice a n c)) (leafA 5) 135 131 true true where
  size := rfl
  size' := rfl
  one := cloneA_one a n c
  callR := fun args W => by simp [go_sem]
  callS := fun args W => by simp [go_sem]
  right := fun W => isAny_any _ W
  strip := fun _ W b h => (strip_acts b W _ (cell_row h 7) (frozen_of_row W b 7 _ _ h)).mono fun e W' ⟨he, hw⟩ => ⟨he, by rw [hw]; exact row_setCell h 7 _, by rw [hw]; exact (Below.refl b W).setCell (Nat.le_refl _) _⟩
  bare := fun _ W => isBare_yes 5 none none 0 0 W
theorem right_clone (a : Option Addr) (n c : Nat) (d : Int) (hd : d ≤ 4) (hd0 : 0 ≤ d) (rr : Bool) (w : World)
    (h : ∀ W, Below w.heap.size w W → Calls Tryz.prog 70 #[.slice a n c, .int .i64 (d + 1)] W fun e W' => e = .returned (.bool rr) ∧ Below W.heap.size W W') :
    Calls Tryz.prog 101 #[.agg (cloneA (.slice a n c)), .int .i64 d] w fun e w' => e = .returned (.bool rr) ∧ Below w.heap.size w w' :=
  isRight_gen 5 (by omega) (cloneA (.slice a n c)) (leafA 5) 135 131 .nilFunc true true rr d hd hd0 a n c w (by kernel_rfl) rfl rfl (kind5 a n c) (fun _ _ W hW => h W hW)
/-- A hop within so many Clones, their lists in blocks behind block b. -/
def Nest (b : Nat) (W : World) : Nat → Array Value → Prop
  | 0, A => A = leafA 3
  | j + 1, A => ∃ g A0, b < g ∧ A = cloneA (.slice (some ⟨g, 0, none⟩) 1 1) ∧ W.heap[g]? = some (.cells A0 49 (0, 0)) ∧ A0.size = 15 ∧ A0.all (·.oneCell') = true ∧ Nest b W j A0
theorem Nest.keep {b : Nat} {W W' : World} (hb : ∀ k, b < k → k < W.heap.size → W'.heap[k]? = W.heap[k]?) : ∀ {j : Nat} {A : Array Value}, Nest b W j A → Nest b W' j A
  | 0, _, h => h
  | _ + 1, _, ⟨g, A0, h0, h1, h2, h3, h4, h5⟩ => ⟨g, A0, h0, h1, (hb g h0 (lt_of_heap h2)).trans h2, h3, h4, Nest.keep hb h5⟩
theorem Nest.below {b : Nat} {W W' : World} (hb : Below W.heap.size W W') {j : Nat} {A : Array Value} (h : Nest b W j A) : Nest b W' j A := h.keep (fun k _ hk => hb.block k hk)
theorem extract_all {A : Array Value} (h : A.size = 15) : A.extract (0 * 15) (0 * 15 + 15) = A := by
  rw [show 0 * 15 + 15 = A.size by omega, Nat.zero_mul]; exact Array.extract_size
theorem nest_right (b : Nat) : ∀ (j : Nat) (A : Array Value) (d : Int) (w : World), 0 ≤ d → d ≤ 5 → Nest b w j A → Calls Tryz.prog 101 #[.agg A, .int .i64 d] w fun e w' => e = .returned (.bool (decide (d + j ≤ 4))) ∧ Below w.heap.size w w'
  | 0, A, d, w, h0, h5, hN => by
    have hA : A = leafA 3 := hN
    subst hA
    by_cases h : d ≤ 4
    · rw [show decide (d + ((0 : Nat) : Int) ≤ 4) = true by simp; omega]
      exact right_hop d h h0 w
    · rw [show decide (d + ((0 : Nat) : Int) ≤ 4) = false by simp; omega]
      exact right_deep (leafA 3) 3 (by omega) (fnV 123) (fnV 131) (fnV 132) rfl (by kernel_rfl) d (by omega) w
  | j + 1, A, d, w, h0, h5, hN => by
    obtain ⟨g, A0, _, rfl, hg, hs, ho, hN0⟩ := hN
    by_cases h : d ≤ 4
    · refine right_clone _ 1 1 d h h0 _ w (fun W hW => ?_)
      have hg' := (hW.block _ (lt_of_heap hg)).trans hg
      have := areRight_list g 1 1 A0 (fun _ => decide (d + ((j + 1 : Nat) : Int) ≤ 4)) (d + 1) W hg' (by omega) ho (by omega) (fun i hi W2 hW2 => by
        obtain rfl : i = 0 := by omega
        rw [extract_all hs]
        have hn := nest_right b j A0 (d + 1) W2 (by omega) (by omega) (Nest.below hW2 (Nest.below hW hN0))
        rw [show d + ((j + 1 : Nat) : Int) = d + 1 + (j : Int) by omega]
        exact hn)
      rw [show allB (fun _ => decide (d + ((j + 1 : Nat) : Int) ≤ 4)) 1 = decide (d + ((j + 1 : Nat) : Int) ≤ 4) by simp [allB]] at this
      exact this
    · rw [show decide (d + ((j + 1 : Nat) : Int) ≤ 4) = false by simp; omega]
      exact right_deep (cloneA (.slice (some ⟨g, 0, none⟩) 1 1)) 5 (by omega) (fnV 135) (fnV 131) .nilFunc rfl (by kernel_rfl) d (by omega) w
set_option maxHeartbeats 400000 in
theorem count_nil (a : Option Addr) (c : Nat) (w : World) : Calls Tryz.prog 71 #[.slice a 0 c] w fun e w' => e = .returned (.int .i64 0) ∧ w' = w := by
  go_enter Tryz.func71, Tryz.ntmps71
  go_wp2
  go_loop [3, 10] (fun s i => s = .int .i64 0 ∧ i = .int .i64 0) (fun _ _ => 0)
  case atStart => exact ⟨rfl, rfl⟩
  case round =>
    obtain ⟨rfl, rfl⟩ := hrel
    go_wp2
    go_ret
    exact ⟨rfl, rfl⟩
def sumF (f : Nat → Nat) : Nat → Nat
  | 0 => 0
  | k + 1 => sumF f k + f k
theorem sumF_le (f : Nat → Nat) : ∀ (n k : Nat), k ≤ n → sumF f k ≤ sumF f n
  | 0, k, h => by obtain rfl : k = 0 := by omega
                  exact Nat.le_refl _
  | n + 1, k, h => by
    by_cases e : k = n + 1
    · subst e; exact Nat.le_refl _
    · have := sumF_le f n k (by omega); simp only [sumF]; omega
set_option maxRecDepth 20000 in
set_option maxHeartbeats 2000000 in
theorem count_list (g n c : Nat) (C : Array Value) (f : Nat → Nat) (ss : Nat → Value) (w : World) (hC : w.heap[g]? = some (.cells C 49 (0, 0))) (hn : n * 15 ≤ C.size) (hone : C.all (·.oneCell') = true) (hm : n + sumF f n ≤ 1000000)
    (h7 : ∀ i, i < n → C[i * 15 + 7]? = some (ss i)) (h : ∀ i, i < n → ∀ W, Below w.heap.size w W → Calls Tryz.prog 71 #[ss i] W fun e W' => e = .returned (.int .i64 (f i)) ∧ Below W.heap.size W W') :
    Calls Tryz.prog 71 #[.slice (some ⟨g, 0, none⟩) n c] w fun e w' => e = .returned (.int .i64 ((n + sumF f n : Nat) : Int)) ∧ Below w.heap.size w w' := by
  have HC : Hid _ := hC
  have HO : Hid _ := hone
  have HH : Hid _ := h
  have H7 : Hid _ := h7
  clear hC hone h h7
  go_enter Tryz.func71, Tryz.ntmps71
  go_wp2_with fail
  go_loopw [3, 10] (fun s i wr => ∃ k : Nat, k ≤ n ∧ i = .int .i64 k ∧ s = .int .i64 ((n + sumF f k : Nat) : Int) ∧ Below w.heap.size w wr) (fun _ i _ => n - (intOf i).toNat)
  case atStart => exact ⟨0, by omega, rfl, rfl, Below.refl _ _⟩
  case round =>
    obtain ⟨k, hk, rfl, rfl, hb⟩ := hrel
    have HB : Hid _ := hb
    clear hb
    have hsl := sumF_le f n k hk
    by_cases hlt : k < n
    · have hsl2 := sumF_le f n (k + 1) hlt
      simp only [sumF] at hsl2
      have hkI : (k : Int) < n := by omega
      have hk0 : (0 : Int) ≤ k := by omega
      have hsz : (C.extract (k * 15) (k * 15 + 15)).size = 15 := by rw [Array.size_extract]; omega
      have hA7 : (C.extract (k * 15) (k * 15 + 15))[7]? = some (ss k) := by
        rw [Array.getElem?_extract_of_lt (by omega), ← Array.getElem?_eq_getElem]; exact H7.out k hlt
      obtain ⟨A, hA⟩ : ∃ A, C.extract (k * 15) (k * 15 + 15) = A := ⟨_, rfl⟩
      have hone := extract_one HO.out (k * 15) (k * 15 + 15)
      rw [hA] at hsz hone hA7
      have HAE : Hid _ := hA
      have HS : Hid _ := hsz
      have H1 : Hid _ := hone
      have HG : Hid (wr.heap[g]? = some (.cells C 49 (0, 0))) := (HB.out.block _ (lt_of_heap HC.out)).trans HC.out
      obtain ⟨q, hq⟩ : ∃ q : Int, ((n + sumF f k : Nat) : Int) = q := ⟨_, rfl⟩
      have HQ : Hid _ := hq
      have hq0 : 0 ≤ q := by omega
      have hq1 : q ≤ 1000000 := by omega
      have hf0 : (0 : Int) ≤ (f k : Int) := by omega
      have hf1 : (f k : Int) ≤ 1000000 := by omega
      rw [hq]
      clear hA hsz hone hq hsl hsl2
      go_wp2_with (first
        | refine wpList_load_as rfl 49 _ rfl g (k * 15) 15 rfl C A 49 _ HG.out Tryz.underlying49 rfl HAE.out HS.out size15 ?_
        | refine wpList_store_new rfl 49 _ _ rfl _ A wr.heap.size rfl rfl rfl (info15 HS.out) (Eq.trans (b := 15) rfl HS.out.symm) H1.out ?_
        | fail)
      have hb2 : Below w.heap.size w (wr.alloc (.cells A 49)) := HB.out.trans ((below1 wr _).mono HB.out.size)
      refine (HH.out k hlt _ hb2).mono ?_
      rintro e W1 ⟨rfl, hb1⟩
      have HB1 : Hid (Below w.heap.size w W1) := hb2.trans (hb1.mono hb2.size)
      clear hb1 hb2 hA7
      go_wp2
      go_roundw
      case rel => exact ⟨k + 1, by omega, by go_num, by have := HQ.out; simp only [sumF]; congr 1; omega, HB1.out⟩
      case measure => simp [intOf]; omega
    · obtain rfl : k = n := by omega
      go_wp2
      go_ret
      exact ⟨rfl, HB.out⟩
end Go.Proofs.YtnahhmcmahbnkaaGreatDoor.Ac
/- A list of one action; a row with some cells put; CheckAll of one Clone of hops. Conditions: as said. -/
namespace Go.Proofs.YtnahhmcmahbnkaaGreatDoor.Ac
open Go.RowKit
theorem fifteen {A : Array Value} (h : A.size = 15) : ∃ a0 a1 a2 a3 a4 a5 a6 a7 a8 a9 a10 a11 a12 a13 a14, A = #[a0, a1, a2, a3, a4, a5, a6, a7, a8, a9, a10, a11, a12, a13, a14] := by
  obtain ⟨l⟩ := A
  have hl : l.length = 15 := by simpa using h
  obtain ⟨a0, l0, rfl, k0⟩ := list_cons hl
  obtain ⟨a1, l1, rfl, k1⟩ := list_cons k0
  obtain ⟨a2, l2, rfl, k2⟩ := list_cons k1
  obtain ⟨a3, l3, rfl, k3⟩ := list_cons k2
  obtain ⟨a4, l4, rfl, k4⟩ := list_cons k3
  obtain ⟨a5, l5, rfl, k5⟩ := list_cons k4
  obtain ⟨a6, l6, rfl, k6⟩ := list_cons k5
  obtain ⟨a7, l7, rfl, k7⟩ := list_cons k6
  obtain ⟨a8, l8, rfl, k8⟩ := list_cons k7
  obtain ⟨a9, l9, rfl, k9⟩ := list_cons k8
  obtain ⟨a10, l10, rfl, k10⟩ := list_cons k9
  obtain ⟨a11, l11, rfl, k11⟩ := list_cons k10
  obtain ⟨a12, l12, rfl, k12⟩ := list_cons k11
  obtain ⟨a13, l13, rfl, k13⟩ := list_cons k12
  obtain ⟨a14, l14, rfl, k14⟩ := list_cons k13
  obtain rfl := List.length_eq_zero_iff.1 k14
  exact ⟨a0, a1, a2, a3, a4, a5, a6, a7, a8, a9, a10, a11, a12, a13, a14, rfl⟩
theorem run_build1 {A : Array Value} (h : A.size = 15) (w : World) : (Instr.buildSlice 44 1 #[(0, .agg A)]).run Tryz.prog w = .ok (.slice (some ⟨w.heap.size, 0, none⟩) 1 1) (w.alloc (.cells A 49)) := by
  obtain ⟨a0, a1, a2, a3, a4, a5, a6, a7, a8, a9, a10, a11, a12, a13, a14, rfl⟩ := fifteen h
  kernel_rfl
theorem wpList_build1 {ops : Array Oper} {rest : List Oper} {op : Oper} {a : Act} {w : World} {Q : Exit → Act → World → Prop} (hgd : op.guard = none) (x : Operand) (ho : op.op = .buildSlice 44 1 #[(0, x)])
    (A : Array Value) (hx : a.eval x = .agg A) (hs : A.size = 15)
    (h : wpList Tryz.prog ops Q rest (a.put op.dst (.slice (some ⟨w.heap.size, 0, none⟩) 1 1)) (w.alloc (.cells A 49))) : wpList Tryz.prog ops Q (op :: rest) a w := by
  refine wpList_plain hgd fun K hK => ?_
  unfold Oper.wp execOp
  have := run_build1 hs w
  simp only [ho, List.map_toArray, List.map_cons, List.map_nil, hx, Sem.run_bind, this, Result.andThen_ok]
  exact hK _ _ h
theorem putC_get : ∀ (vs : List Value) (cs : Array Value) (o j : Nat), o + vs.length ≤ cs.size → (putC cs o vs)[j]? = if j < o then cs[j]? else if j < o + vs.length then vs[j - o]? else cs[j]?
  | [], cs, o, j, _ => by
    rw [putC]; simp only [List.length_nil, Nat.add_zero]
    split <;> rfl
  | v :: r, cs, o, j, h => by
    simp only [List.length_cons] at h
    rw [putC, putC_get r _ (o + 1) j (by rw [Array.size_setIfInBounds]; omega)]
    by_cases h1 : j < o
    · rw [if_pos (by omega), if_pos h1, Array.getElem?_setIfInBounds_ne (by omega)]
    · by_cases h2 : j = o
      · subst h2
        rw [if_pos (by omega), if_neg (by omega), if_pos (by simp only [List.length_cons]; omega), Array.getElem?_setIfInBounds_self_of_lt (by omega)]
        simp
      · rw [if_neg (by omega), if_neg h1]
        by_cases h3 : j < o + 1 + r.length
        · rw [if_pos h3, if_pos (by simp only [List.length_cons]; omega), show j - o = (j - (o + 1)) + 1 by omega, List.getElem?_cons_succ]
        · rw [if_neg h3, if_neg (by simp only [List.length_cons]; omega), Array.getElem?_setIfInBounds_ne (by omega)]
theorem putC_one : ∀ (vs : List Value) (cs : Array Value) (o : Nat), cs.all (·.oneCell') = true → vs.all (·.oneCell') = true → (putC cs o vs).all (·.oneCell') = true
  | [], _, _, h, _ => h
  | v :: r, cs, o, h, hv => by
    simp only [List.all_cons, Bool.and_eq_true] at hv
    rw [putC]; exact putC_one r _ _ (set_one h hv.1) hv.2
/-- The first k of m actions in a row are hops. -/
structure Hops (C : Array Value) (m k : Nat) : Prop where
  size : C.size = m * 15
  one : C.all (·.oneCell') = true
  hop : ∀ i, i < k → ∀ j, j < 15 → C[i * 15 + j]? = (leafA 3)[j]?
theorem Hops.next {C : Array Value} {m k : Nat} (h : Hops C m k) (hk : k < m) : Hops (putC C (k * 15) (leafA 3).toList) m (k + 1) := by
  have hl : (leafA 3).toList.length = 15 := rfl
  refine ⟨by rw [putC_size]; exact h.size, putC_one _ _ _ h.one (by decide +kernel), fun i hi j hj => ?_⟩
  rw [putC_get _ _ _ _ (by rw [hl, h.size]; omega), hl]
  by_cases e : i = k
  · subst e
    rw [if_neg (by omega), if_pos (by omega), show i * 15 + j - i * 15 = j by omega, Array.getElem?_toList]
  · rw [if_pos (by omega)]; exact h.hop i (by omega) j hj
theorem Hops.extract {C : Array Value} {m : Nat} (h : Hops C m m) {i : Nat} (hi : i < m) : C.extract (i * 15) (i * 15 + 15) = leafA 3 := by
  apply Array.ext_getElem?
  intro j
  by_cases hj : j < 15
  · rw [Array.getElem?_extract_of_lt (by rw [h.size]; omega), ← Array.getElem?_eq_getElem]; exact h.hop i hi j hj
  · have e1 : (C.extract (i * 15) (i * 15 + 15)).size = 15 := by rw [Array.size_extract, h.size]; omega
    rw [Array.getElem?_eq_none (by omega), Array.getElem?_eq_none (by show 15 ≤ j; omega)]
theorem hops_made (m : Nat) : Hops (madeCells (leafA 0) (m * 15)) m 0 := by
  refine ⟨size_madeCells _ _, ?_, fun i hi => by omega⟩
  rw [Array.all_eq_true_iff_forall_mem]
  intro x hx
  simp only [madeCells, Array.mem_map] at hx
  obtain ⟨q, _, rfl⟩ := hx
  have hq : q % (leafA 0).size < 15 := Nat.mod_lt _ (by decide)
  have hall : ∀ r, r < 15 → ((leafA 0)[r]!).oneCell' = true := by decide +kernel
  exact hall _ hq
end Go.Proofs.YtnahhmcmahbnkaaGreatDoor.Ac
/- Actions of a Program: ActGo, ActOutput; CheckAll of a list. Conditions: as said. -/
namespace Go.Proofs.YtnahhmcmahbnkaaGreatDoor.Ac
open Go.RowKit
abbrev goA (t : Int) : Array Value := #[.int .i64 4, .int .i64 0, .int .i64 0, .int .u64 0, .int .u64 0, .int .i64 t, .int .i64 0, .slice none 0 0, .slice none 0 0, .int .u64 0, .int .u32 0, .int .u32 0, .int .u32 0, .int .u32 0, .int .u32 0]
abbrev outA (p : Int) : Array Value := #[.int .i64 6, .int .i64 0, .int .i64 0, .int .u64 0, .int .u64 0, .int .i64 0, .int .i64 p, .slice none 0 0, .slice none 0 0, .int .u64 0, .int .u32 0, .int .u32 0, .int .u32 0, .int .u32 0, .int .u32 0]
set_option maxHeartbeats 400000 in
theorem strip_table (b : Nat) (w : World) (x : Value) (h7 : w.cell? ⟨b, 5, none⟩ = some x) (hf : w.frozen? ⟨b, 5, none⟩ = false) : Calls Tryz.prog 133 #[.pointer (some ⟨b, 0, none⟩)] w fun e w' => e = .returned (.tuple #[]) ∧ w' = w.setCell ⟨b, 5, none⟩ (.int .i64 0) := by
  go_enter Tryz.func133, Tryz.ntmps133
  go_wp2
  go_end0
  exact ⟨rfl, rfl⟩
set_option maxHeartbeats 400000 in
theorem strip_port (b : Nat) (w : World) (x : Value) (h7 : w.cell? ⟨b, 6, none⟩ = some x) (hf : w.frozen? ⟨b, 6, none⟩ = false) : Calls Tryz.prog 124 #[.pointer (some ⟨b, 0, none⟩)] w fun e w' => e = .returned (.tuple #[]) ∧ w' = w.setCell ⟨b, 6, none⟩ (.int .i64 0) := by
  go_enter Tryz.func124, Tryz.ntmps124
  go_wp2
  go_end0
  exact ⟨rfl, rfl⟩
set_option maxHeartbeats 1000000 in
theorem isGo_yes (t : Int) (h0 : 0 ≤ t) (h1 : t < 64) (w : World) : Calls Tryz.prog 134 #[.agg (goA t)] w fun e w' => e = .returned (.bool true) ∧ Below w.heap.size w w' := by
  go_enter Tryz.func134, Tryz.ntmps134
  go_wp2
  go_ret
  exact ⟨rfl, below1 _ _⟩
set_option maxHeartbeats 1000000 in
theorem fits_yes (p : Int) (h0 : 0 ≤ p) (h1 : p ≤ 65535) (w : World) : Calls Tryz.prog 201 #[.int .i64 p, .int .u64 16] w fun e w' => e = .returned (.bool true) ∧ w' = w := by
  have q : p / 65536 = 0 := Int.ediv_eq_zero_of_lt h0 (by omega)
  have HQ : Hid _ := q
  clear q
  go_enter Tryz.func201, Tryz.ntmps201
  go_wp2
  go_ret
  exact ⟨by simp [HQ.out], rfl⟩
set_option maxHeartbeats 1000000 in
theorem isPort_yes (p : Int) (h0 : 0 ≤ p) (h1 : p ≤ 65535) (w : World) : Calls Tryz.prog 136 #[.agg (outA p)] w fun e w' => e = .returned (.bool true) ∧ Below w.heap.size w w' := by
  have HF : Hid _ := fits_yes p h0 h1
  go_enter Tryz.func136, Tryz.ntmps136
  go_wp2_with fail
  refine Calls.mono (HF.out _) ?_
  rintro e W1 ⟨rfl, hw⟩
  rw [hw]
  clear hw
  go_wp2
  go_ret
  exact ⟨rfl, below1 _ _⟩
theorem kind4 (t : Int) (h0 : 0 ≤ t) (h1 : t < 64) : KindOf (goA t) (leafA 4) 133 134 true true where
  size := rfl
  size' := rfl
  one := by kernel_rfl
  callR := fun args W => by simp [go_sem]
  callS := fun args W => by simp [go_sem]
  right := fun W => isGo_yes t h0 h1 W
  strip := fun _ W b h => (strip_table b W _ (cell_row h 5) (frozen_of_row W b 5 _ _ h)).mono fun e W' ⟨he, hw⟩ => ⟨he, by rw [hw]; exact row_setCell h 5 _, by rw [hw]; exact (Below.refl b W).setCell (Nat.le_refl _) _⟩
  bare := fun _ W => isBare_yes 4 none none 0 0 W
theorem kind6 (p : Int) (h0 : 0 ≤ p) (h1 : p ≤ 65535) : KindOf (outA p) (leafA 6) 124 136 true true where
  size := rfl
  size' := rfl
  one := by kernel_rfl
  callR := fun args W => by simp [go_sem]
  callS := fun args W => by simp [go_sem]
  right := fun W => isPort_yes p h0 h1 W
  strip := fun _ W b h => (strip_port b W _ (cell_row h 6) (frozen_of_row W b 6 _ _ h)).mono fun e W' ⟨he, hw⟩ => ⟨he, by rw [hw]; exact row_setCell h 6 _, by rw [hw]; exact (Below.refl b W).setCell (Nat.le_refl _) _⟩
  bare := fun _ W => isBare_yes 6 none none 0 0 W
theorem nil_right (d : Int) (W : World) : Calls Tryz.prog 70 #[.slice none 0 0, .int .i64 d] W fun e W' => e = .returned (.bool true) ∧ Below W.heap.size W W' := (areRight_nil none 0 d W).mono fun e W' ⟨he, hw⟩ => ⟨he, by rw [hw]; exact Below.refl _ _⟩
theorem right_go (t d : Int) (h0 : 0 ≤ t) (h1 : t < 64) (hd : d ≤ 4) (hd0 : 0 ≤ d) (w : World) : Calls Tryz.prog 101 #[.agg (goA t), .int .i64 d] w fun e w' => e = .returned (.bool true) ∧ Below w.heap.size w w' :=
  isRight_gen 4 (by omega) (goA t) (leafA 4) 133 134 .nilFunc true true true d hd hd0 none 0 0 w (by kernel_rfl) rfl rfl (kind4 t h0 h1) (fun _ _ W _ => nil_right _ W)
theorem right_out (p d : Int) (h0 : 0 ≤ p) (h1 : p ≤ 65535) (hd : d ≤ 4) (hd0 : 0 ≤ d) (w : World) : Calls Tryz.prog 101 #[.agg (outA p), .int .i64 d] w fun e w' => e = .returned (.bool true) ∧ Below w.heap.size w w' :=
  isRight_gen 6 (by omega) (outA p) (leafA 6) 124 136 .nilFunc true true true d hd hd0 none 0 0 w (by kernel_rfl) rfl rfl (kind6 p h0 h1) (fun _ _ W _ => nil_right _ W)
set_option maxHeartbeats 1000000 in
theorem checkAll_yes (s : Value) (q : Nat) (hq : q ≤ 4096) (w : World) (hs : ∃ a n c, s = .slice a n c)
    (hr : Calls Tryz.prog 70 #[s, .int .i64 0] w fun e w' => e = .returned (.bool true) ∧ Below w.heap.size w w') (hc : ∀ W, Below w.heap.size w W → Calls Tryz.prog 71 #[s] W fun e w' => e = .returned (.int .i64 (q : Int)) ∧ Below W.heap.size W w') :
    Calls Tryz.prog 43 #[s] w fun e w' => e = .returned (.int .i64 0) ∧ Below w.heap.size w w' := by
  have HR : Hid _ := hr
  have HC : Hid _ := hc
  have hqI : (q : Int) ≤ 4096 := by omega
  obtain ⟨a, n, c, rfl⟩ := hs
  clear hr hc
  go_enter Tryz.func43, Tryz.ntmps43
  go_wp2_with fail
  refine Calls.mono HR.out ?_
  rintro e W1 ⟨rfl, hb1⟩
  have HB1 : Hid _ := hb1
  clear hb1
  go_wp2_with fail
  refine Calls.mono (HC.out W1 HB1.out) ?_
  rintro e W2 ⟨rfl, hb2⟩
  have HB2 : Hid (Below w.heap.size w W2) := HB1.out.trans (hb2.mono HB1.out.size)
  clear hb2 HR HC
  go_wp2
  go_ret
  exact ⟨rfl, HB2.out⟩
end Go.Proofs.YtnahhmcmahbnkaaGreatDoor.Ac
/- slices.Clone of actions. Conditions: the row can be read. -/
namespace Go.Proofs.YtnahhmcmahbnkaaGreatDoor.Ac
open Go.RowKit
theorem info15a : (Tryz.prog.info? 49).map (fun i => (i.zero, i.size, i.bytes)) = some (some (.agg (leafA 0)), 15, 136) := by kernel_rfl
theorem own_empty15 (w : World) : (w.alloc (.cells #[] 49)).ownsRow w.heap.size 49 15 (.slice (some ⟨w.heap.size, 0, none⟩) 0 0) 0 [] := ⟨by simp, .inr ⟨w.heap.size, 0, #[], rfl, Nat.le_refl _, heap_alloc_new w _, Nat.le_refl _, Nat.zero_le _, rfl, rfl⟩⟩
theorem cloneacts_nil (c : Nat) (w : World) : Calls Tryz.prog 67 #[.slice none 0 c] w fun e w' => e = .returned (.slice none 0 0) ∧ w' = w := by
  have hnil : ∀ W : World, (binOp .eql 44 (.slice none 0 c) (.slice none 0 0)).run Tryz.prog W = .ok (.bool true) W := fun W => Lib.run_eql_slice_nil W _ _ none 0 c 0 0 Tryz.underlying44
  go_enter Tryz.func67, Tryz.ntmps67
  go_wp2_with fail
  go_ret
  exact ⟨rfl, rfl⟩
set_option maxRecDepth 20000 in
set_option maxHeartbeats 1000000 in
theorem cloneacts_row (g n c : Nat) (C : Array Value) (w : World) (hC : w.heap[g]? = some (.cells C 49 (0, 0))) (hn : n * 15 ≤ C.size) (hone : C.all (·.oneCell') = true) (hm : n ≤ 1000000) (hn1 : 1 ≤ n) :
    Calls Tryz.prog 67 #[.slice (some ⟨g, 0, none⟩) n c] w fun e w' => ∃ x, e = .returned x ∧ w'.ownsRow w.heap.size 49 15 x n (C.toList.take (n * 15)) ∧ Below w.heap.size w w' := by
  obtain ⟨i0, hi, hz0, hz1, hz2⟩ := info_parts info15a
  have hnil : ∀ W : World, (binOp .eql 44 (.slice (some ⟨g, 0, none⟩) n c) (.slice none 0 0)).run Tryz.prog W = .ok (.bool false) W := fun W => Lib.run_eql_slice_nil W _ _ (some ⟨g, 0, none⟩) n c 0 0 Tryz.underlying44
  have HC : Hid ((w.alloc (.cells #[] 49)).heap[g]? = some (.cells C 49 (0, 0))) := (heap_alloc_old _ _ (lt_of_heap hC)).trans hC
  have HO : Hid (∀ u ∈ C.toList.take (n * 15), u.oneCell' = true) := fun u hu => by
    have := Array.all_eq_true'.1 hone u (by have := List.mem_of_mem_take hu; simpa using this)
    exact this
  have HL : Hid ((C.toList.take (n * 15)).length = n * 15) := by show _ = _; rw [List.length_take, Array.length_toList]; omega
  have HCELL : Hid (∀ j u, (C.toList.take (n * 15))[j]? = some u → (w.alloc (.cells #[] 49)).cell? ((⟨g, 0, none⟩ : Addr).add j) = some u) := fun j u hu => by
    have hj : j < n * 15 := by have := (List.getElem?_eq_some_iff.1 hu).1; rw [HL.out] at this; exact this
    rw [List.getElem?_take_of_lt hj, Array.getElem?_toList] at hu
    rw [show (⟨g, 0, none⟩ : Addr).add j = ⟨g, j, none⟩ by cases j <;> simp [Addr.add]]
    exact (cell_row HC.out j).trans hu
  clear hC hone
  go_enter Tryz.func67, Tryz.ntmps67
  go_wp2_with (at_builtin; refine wpList_append_own _ rfl _ _ 44 rfl w.heap.size 49 i0 (.agg (leafA 0)) 15 136 Tryz.underlying44 hi hz0 hz1 hz2 rfl (by decide) _ 0 [] rfl (own_empty15 w) ⟨g, 0, none⟩ n c (C.toList.take (n * 15)) rfl HL.out HCELL.out HO.out (Nat.le_trans (by omega) (by decide +kernel : (1000001 : Nat) ≤ maxLen)) (by omega) (by simp) ?_)
  intro v' w' ho hg hne
  obtain ⟨sa, sc, rfl⟩ : ∃ a c, v' = .slice a n c := by
    rcases ho.2 with ⟨e, h0⟩ | ⟨g, c, _, e, _⟩
    · omega
    · exact ⟨_, c, e⟩
  have HO2 : Hid (w'.ownsRow w.heap.size 49 15 (.slice sa n sc) n (C.toList.take (n * 15))) := ho
  have HB2 : Hid (Below w.heap.size w w') := (below1 w (.cells #[] 49)).grown hg (by simp) (fun k e => by cases e; exact Nat.le_refl _)
  clear ho hg hne HC HO HL HCELL hnil
  go_wp2_with fail
  go_ret
  exact ⟨_, rfl, HO2.out, HB2.out⟩
theorem cloneways_nil (c : Nat) (w : World) : Calls Tryz.prog 68 #[.slice none 0 c] w fun e w' => e = .returned (.slice none 0 0) ∧ w' = w := by
  have hnil : ∀ W : World, (binOp .eql 45 (.slice none 0 c) (.slice none 0 0)).run Tryz.prog W = .ok (.bool true) W := fun W => Lib.run_eql_slice_nil W _ _ none 0 c 0 0 Tryz.underlying45
  go_enter Tryz.func68, Tryz.ntmps68
  go_wp2_with fail
  go_ret
  exact ⟨rfl, rfl⟩
set_option maxHeartbeats 1000000 in
theorem copyacts_nil (c : Nat) (w : World) : Calls Tryz.prog 41 #[.slice none 0 c] w fun e w' => e = .returned (.slice none 0 0) ∧ w' = w := by
  go_enter Tryz.func41, Tryz.ntmps41
  go_wp2_with (first
    | (go_at_call 67; refine (cloneacts_nil c _).mono ?_; rintro e w9 ⟨rfl, rfl⟩; skip)
    | fail)
  go_rounds 1
  all_goals go_wp2
  all_goals go_ret
  all_goals exact ⟨rfl, rfl⟩
end Go.Proofs.YtnahhmcmahbnkaaGreatDoor.Ac
