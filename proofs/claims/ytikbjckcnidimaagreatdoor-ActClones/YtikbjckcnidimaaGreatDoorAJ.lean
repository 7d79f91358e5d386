/- Lists of actions: areRight, count, clones within clones. Conditions: as said. -/
import Derived.Test.YtikbjckcnidimaaGreatDoorAH
namespace Go.Proofs.YtikbjckcnidimaaGreatDoor
open Go.RowKit
set_option maxRecDepth 20000 in
set_option maxHeartbeats 1000000 in
theorem right_deep (A : Array Value) (k : Nat) (hk : k < 15) (a b c : Value) (h0 : A[0]? = some (.int .i64 k)) (hrow : tabC.extract (k * 3) (k * 3 + 3) = #[a, b, c]) (d : Int) (hd : 4 < d) (w : World) :
    Calls Tryz.prog 20 #[.agg A, .int .i64 d] w fun e w' => e = .returned (.bool false) ∧ Below w.heap.size w w' := by
  have HROW : Hid _ := hrow
  have hdf : decide (4 < d) = true := by simp; omega
  have h1r : (#[a, b, c] : Array Value).all (·.oneCell') = true := by rw [← HROW.out]; exact tab_one k
  have H1R : Hid _ := h1r
  clear hrow h1r
  go_enter Tryz.func20, Tryz.ntmps20
  go_wp2_with fail
  refine (arow_lit k hk _ _ _ HROW.out _).mono ?_
  rintro e W1 ⟨rfl, hb1⟩
  have HB1 : Hid (Below w.heap.size w W1) := (below1 w _).trans (hb1.mono (by simp))
  clear hb1
  go_wp2_with (first
    | refine wpList_store_new rfl 72 _ _ rfl _ #[a, b, c] W1.heap.size rfl rfl rfl size3 rfl H1R.out ?_
    | fail)
  go_ret
  exact ⟨rfl, HB1.out.trans ((below1 W1 _).mono HB1.out.size)⟩
def allB (bs : Nat → Bool) (n : Nat) : Bool := (List.range n).all bs
theorem allB_succ (bs : Nat → Bool) (n : Nat) : allB bs (n + 1) = (allB bs n && bs n) := by simp [allB, List.range_succ]
theorem allB_false {bs : Nat → Bool} {k n : Nat} (hk : k < n) (h : bs k = false) : allB bs n = false := by
  unfold allB
  rw [List.all_eq_false]
  exact ⟨k, by simpa using hk, by simp [h]⟩
set_option maxRecDepth 20000 in
set_option maxHeartbeats 2000000 in
theorem areRight_list (g n c : Nat) (C : Array Value) (bs : Nat → Bool) (d : Int) (w : World) (hC : w.heap[g]? = some (.cells C 29 (0, 0))) (hn : n * 15 ≤ C.size) (hone : C.all (·.oneCell') = true) (hm : n ≤ 1000000)
    (h : ∀ i, i < n → ∀ W, Below w.heap.size w W → Calls Tryz.prog 20 #[.agg (C.extract (i * 15) (i * 15 + 15)), .int .i64 d] W fun e W' => e = .returned (.bool (bs i)) ∧ Below W.heap.size W W') :
    Calls Tryz.prog 22 #[.slice (some ⟨g, 0, none⟩) n c, .int .i64 d] w fun e w' => e = .returned (.bool (allB bs n)) ∧ Below w.heap.size w w' := by
  have HC : Hid _ := hC
  have HO : Hid _ := hone
  have HH : Hid _ := h
  clear hC hone h
  go_enter Tryz.func22, Tryz.ntmps22
  go_wp2_with fail
  go_loopw [9] (fun i wr => ∃ k : Nat, k ≤ n ∧ i = .int .i64 k ∧ allB bs k = true ∧ Below w.heap.size w wr) (fun i _ => n - (intOf i).toNat)
  case atStart => exact ⟨0, by omega, rfl, rfl, Below.refl _ _⟩
  case round =>
    obtain ⟨k, hk, rfl, hall, hb⟩ := hrel
    have HB : Hid _ := hb
    have HALL : Hid _ := hall
    clear hb hall
    by_cases hlt : k < n
    · have hkI : (k : Int) < n := by omega
      have hk0 : (0 : Int) ≤ k := by omega
      have hsz : (C.extract (k * 15) (k * 15 + 15)).size = 15 := by rw [Array.size_extract]; omega
      obtain ⟨A, hA⟩ : ∃ A, C.extract (k * 15) (k * 15 + 15) = A := ⟨_, rfl⟩
      have hone := extract_one HO.out (k * 15) (k * 15 + 15)
      rw [hA] at hsz hone
      have HAE : Hid _ := hA
      have HS : Hid _ := hsz
      have H1 : Hid _ := hone
      have HG : Hid (wr.heap[g]? = some (.cells C 29 (0, 0))) := (HB.out.block _ (lt_of_heap HC.out)).trans HC.out
      have HN : Hid _ := heap_alloc_new wr (.cells A 29)
      clear hA hsz hone
      go_wp2_with (first
        | refine wpList_load_as rfl 29 _ rfl g (k * 15) 15 rfl C A 29 _ HG.out Tryz.underlying29 rfl HAE.out HS.out size15 ?_
        | refine wpList_store_new rfl 29 _ _ rfl _ A wr.heap.size rfl rfl rfl (info15 HS.out) (Eq.trans (b := 15) rfl HS.out.symm) H1.out ?_
        | refine wpList_load_row rfl 29 _ rfl wr.heap.size rfl 29 A (0, 0) _ HN.out Tryz.underlying29 rfl (info15 HS.out) ?_
        | fail)
      rw [← HAE.out]
      have hb2 : Below w.heap.size w (wr.alloc (.cells A 29)) := HB.out.trans ((below1 wr _).mono HB.out.size)
      rw [← HAE.out] at hb2
      refine (HH.out k hlt _ hb2).mono ?_
      rw [HAE.out]
      rintro e W1 ⟨rfl, hb1⟩
      rw [HAE.out] at hb2
      have HB1 : Hid (Below w.heap.size w W1) := hb2.trans (hb1.mono hb2.size)
      clear hb1 hb2
      cases hbk : bs k
      · have HF : Hid _ := allB_false hlt hbk
        go_wp2
        go_ret
        exact ⟨by rw [HF.out]; rfl, HB1.out⟩
      · have HF : Hid (allB bs (k + 1) = true) := by show _ = _; rw [allB_succ, HALL.out, hbk]; rfl
        go_wp2
        go_roundw
        case rel => exact ⟨k + 1, by omega, by go_num, HF.out, HB1.out⟩
        case measure => simp [intOf]; omega
    · obtain rfl : k = n := by omega
      go_wp2
      go_ret
      exact ⟨by rw [HALL.out]; rfl, HB.out⟩
/-- A Clone of a list. -/
def cloneA (s : Value) : Array Value := #[.int .i64 5, .int .i64 0, .int .i64 0, .int .u64 0, .int .u64 0, .int .i64 0, .int .i64 0, s, .slice none 0 0, .int .u64 0, .int .u32 0, .int .u32 0, .int .u32 0, .int .u32 0, .int .u32 0]
theorem cloneA_one (a : Option Addr) (n c : Nat) : (cloneA (.slice a n c)).all (·.oneCell') = true := by kernel_rfl
theorem kind5 (a : Option Addr) (n c : Nat) : KindOf (cloneA (.slice a n c)) (leafA 5) 62 58 true true where
  size := rfl
  size' := rfl
  one := cloneA_one a n c
  callR := fun args W => by simp [go_sem]
  callS := fun args W => by simp [go_sem]
  right := fun W => isAny_any _ W
  strip := fun _ W b h => (strip_acts b W _ (cell_row h 7) (frozen_of_row W b 7 _ _ h)).mono fun e W' ⟨he, hw⟩ => ⟨he, by rw [hw]; exact row_setCell h 7 _, by rw [hw]; exact (Below.refl b W).setCell (Nat.le_refl _) _⟩
  bare := fun _ W => isBare_yes 5 none none 0 0 W
theorem right_clone (a : Option Addr) (n c : Nat) (d : Int) (hd : d ≤ 4) (hd0 : 0 ≤ d) (rr : Bool) (w : World)
    (h : ∀ W, Below w.heap.size w W → Calls Tryz.prog 22 #[.slice a n c, .int .i64 (d + 1)] W fun e W' => e = .returned (.bool rr) ∧ Below W.heap.size W W') :
    Calls Tryz.prog 20 #[.agg (cloneA (.slice a n c)), .int .i64 d] w fun e w' => e = .returned (.bool rr) ∧ Below w.heap.size w w' :=
  isRight_gen 5 (by omega) (cloneA (.slice a n c)) (leafA 5) 62 58 .nilFunc true true rr d hd hd0 a n c w (by kernel_rfl) rfl rfl (kind5 a n c) (fun _ _ W hW => h W hW)
/-- A hop within so many Clones, their lists in blocks behind block b. -/
def Nest (b : Nat) (W : World) : Nat → Array Value → Prop
  | 0, A => A = leafA 3
  | j + 1, A => ∃ g A0, b < g ∧ A = cloneA (.slice (some ⟨g, 0, none⟩) 1 1) ∧ W.heap[g]? = some (.cells A0 29 (0, 0)) ∧ A0.size = 15 ∧ A0.all (·.oneCell') = true ∧ Nest b W j A0
theorem Nest.keep {b : Nat} {W W' : World} (hb : ∀ k, b < k → k < W.heap.size → W'.heap[k]? = W.heap[k]?) : ∀ {j : Nat} {A : Array Value}, Nest b W j A → Nest b W' j A
  | 0, _, h => h
  | _ + 1, _, ⟨g, A0, h0, h1, h2, h3, h4, h5⟩ => ⟨g, A0, h0, h1, (hb g h0 (lt_of_heap h2)).trans h2, h3, h4, Nest.keep hb h5⟩
theorem Nest.below {b : Nat} {W W' : World} (hb : Below W.heap.size W W') {j : Nat} {A : Array Value} (h : Nest b W j A) : Nest b W' j A := h.keep (fun k _ hk => hb.block k hk)
theorem extract_all {A : Array Value} (h : A.size = 15) : A.extract (0 * 15) (0 * 15 + 15) = A := by
  rw [show 0 * 15 + 15 = A.size by omega, Nat.zero_mul]; exact Array.extract_size
theorem nest_right (b : Nat) : ∀ (j : Nat) (A : Array Value) (d : Int) (w : World), 0 ≤ d → d ≤ 5 → Nest b w j A → Calls Tryz.prog 20 #[.agg A, .int .i64 d] w fun e w' => e = .returned (.bool (decide (d + j ≤ 4))) ∧ Below w.heap.size w w'
  | 0, A, d, w, h0, h5, hN => by
    have hA : A = leafA 3 := hN
    subst hA
    by_cases h : d ≤ 4
    · rw [show decide (d + ((0 : Nat) : Int) ≤ 4) = true by simp; omega]
      exact right_hop d h h0 w
    · rw [show decide (d + ((0 : Nat) : Int) ≤ 4) = false by simp; omega]
      exact right_deep (leafA 3) 3 (by omega) (fnV 50) (fnV 58) (fnV 59) rfl (by kernel_rfl) d (by omega) w
  | j + 1, A, d, w, h0, h5, hN => by
    obtain ⟨g, A0, _, rfl, hg, hs, ho, hN0⟩ := hN
    by_cases h : d ≤ 4
    · refine right_clone _ 1 1 d h h0 _ w (fun W hW => ?_)
      have hg' := (hW.block _ (lt_of_heap hg)).trans hg
      have := areRight_list g 1 1 A0 (fun _ => decide (d + ((j + 1 : Nat) : Int) ≤ 4)) (d + 1) W hg' (by omega) ho (by omega) (fun i hi W2 hW2 => by
        obtain rfl : i = 0 := by omega
        rw [extract_all hs]
        have hn := nest_right b j A0 (d + 1) W2 (by omega) (by omega) (Nest.below hW2 (Nest.below hW hN0))
        rw [show d + ((j + 1 : Nat) : Int) = d + 1 + (j : Int) by omega]
        exact hn)
      rw [show allB (fun _ => decide (d + ((j + 1 : Nat) : Int) ≤ 4)) 1 = decide (d + ((j + 1 : Nat) : Int) ≤ 4) by simp [allB]] at this
      exact this
    · rw [show decide (d + ((j + 1 : Nat) : Int) ≤ 4) = false by simp; omega]
      exact right_deep (cloneA (.slice (some ⟨g, 0, none⟩) 1 1)) 5 (by omega) (fnV 62) (fnV 58) .nilFunc rfl (by kernel_rfl) d (by omega) w
set_option maxHeartbeats 400000 in
theorem count_nil (a : Option Addr) (c : Nat) (w : World) : Calls Tryz.prog 23 #[.slice a 0 c] w fun e w' => e = .returned (.int .i64 0) ∧ w' = w := by
  go_enter Tryz.func23, Tryz.ntmps23
  go_wp2
  go_loop [3, 10] (fun s i => s = .int .i64 0 ∧ i = .int .i64 0) (fun _ _ => 0)
  case atStart => exact ⟨rfl, rfl⟩
  case round =>
    obtain ⟨rfl, rfl⟩ := hrel
    go_wp2
    go_ret
    exact ⟨rfl, rfl⟩
def sumF (f : Nat → Nat) : Nat → Nat
  | 0 => 0
  | k + 1 => sumF f k + f k
theorem sumF_le (f : Nat → Nat) : ∀ (n k : Nat), k ≤ n → sumF f k ≤ sumF f n
  | 0, k, h => by obtain rfl : k = 0 := by omega
                  exact Nat.le_refl _
  | n + 1, k, h => by
    by_cases e : k = n + 1
    · subst e; exact Nat.le_refl _
    · have := sumF_le f n k (by omega); simp only [sumF]; omega
set_option maxRecDepth 20000 in
set_option maxHeartbeats 2000000 in
theorem count_list (g n c : Nat) (C : Array Value) (f : Nat → Nat) (ss : Nat → Value) (w : World) (hC : w.heap[g]? = some (.cells C 29 (0, 0))) (hn : n * 15 ≤ C.size) (hone : C.all (·.oneCell') = true) (hm : n + sumF f n ≤ 1000000)
    (h7 : ∀ i, i < n → C[i * 15 + 7]? = some (ss i)) (h : ∀ i, i < n → ∀ W, Below w.heap.size w W → Calls Tryz.prog 23 #[ss i] W fun e W' => e = .returned (.int .i64 (f i)) ∧ Below W.heap.size W W') :
    Calls Tryz.prog 23 #[.slice (some ⟨g, 0, none⟩) n c] w fun e w' => e = .returned (.int .i64 ((n + sumF f n : Nat) : Int)) ∧ Below w.heap.size w w' := by
  have HC : Hid _ := hC
  have HO : Hid _ := hone
  have HH : Hid _ := h
  have H7 : Hid _ := h7
  clear hC hone h h7
  go_enter Tryz.func23, Tryz.ntmps23
  go_wp2_with fail
  go_loopw [3, 10] (fun s i wr => ∃ k : Nat, k ≤ n ∧ i = .int .i64 k ∧ s = .int .i64 ((n + sumF f k : Nat) : Int) ∧ Below w.heap.size w wr) (fun _ i _ => n - (intOf i).toNat)
  case atStart => exact ⟨0, by omega, rfl, rfl, Below.refl _ _⟩
  case round =>
    obtain ⟨k, hk, rfl, rfl, hb⟩ := hrel
    have HB : Hid _ := hb
    clear hb
    have hsl := sumF_le f n k hk
    by_cases hlt : k < n
    · have hsl2 := sumF_le f n (k + 1) hlt
      simp only [sumF] at hsl2
      have hkI : (k : Int) < n := by omega
      have hk0 : (0 : Int) ≤ k := by omega
      have hsz : (C.extract (k * 15) (k * 15 + 15)).size = 15 := by rw [Array.size_extract]; omega
      have hA7 : (C.extract (k * 15) (k * 15 + 15))[7]? = some (ss k) := by
        rw [Array.getElem?_extract_of_lt (by omega), ← Array.getElem?_eq_getElem]; exact H7.out k hlt
      obtain ⟨A, hA⟩ : ∃ A, C.extract (k * 15) (k * 15 + 15) = A := ⟨_, rfl⟩
      have hone := extract_one HO.out (k * 15) (k * 15 + 15)
      rw [hA] at hsz hone hA7
      have HAE : Hid _ := hA
      have HS : Hid _ := hsz
      have H1 : Hid _ := hone
      have HG : Hid (wr.heap[g]? = some (.cells C 29 (0, 0))) := (HB.out.block _ (lt_of_heap HC.out)).trans HC.out
      obtain ⟨q, hq⟩ : ∃ q : Int, ((n + sumF f k : Nat) : Int) = q := ⟨_, rfl⟩
      have HQ : Hid _ := hq
      have hq0 : 0 ≤ q := by omega
      have hq1 : q ≤ 1000000 := by omega
      have hf0 : (0 : Int) ≤ (f k : Int) := by omega
      have hf1 : (f k : Int) ≤ 1000000 := by omega
      rw [hq]
      clear hA hsz hone hq hsl hsl2
      go_wp2_with (first
        | refine wpList_load_as rfl 29 _ rfl g (k * 15) 15 rfl C A 29 _ HG.out Tryz.underlying29 rfl HAE.out HS.out size15 ?_
        | refine wpList_store_new rfl 29 _ _ rfl _ A wr.heap.size rfl rfl rfl (info15 HS.out) (Eq.trans (b := 15) rfl HS.out.symm) H1.out ?_
        | fail)
      have hb2 : Below w.heap.size w (wr.alloc (.cells A 29)) := HB.out.trans ((below1 wr _).mono HB.out.size)
      refine (HH.out k hlt _ hb2).mono ?_
      rintro e W1 ⟨rfl, hb1⟩
      have HB1 : Hid (Below w.heap.size w W1) := hb2.trans (hb1.mono hb2.size)
      clear hb1 hb2 hA7
      go_wp2
      go_roundw
      case rel => exact ⟨k + 1, by omega, by go_num, by have := HQ.out; simp only [sumF]; congr 1; omega, HB1.out⟩
      case measure => simp [intOf]; omega
    · obtain rfl : k = n := by omega
      go_wp2
      go_ret
      exact ⟨rfl, HB.out⟩
end Go.Proofs.YtikbjckcnidimaaGreatDoor
