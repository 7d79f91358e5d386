/- Rows of connections and their order. Conditions: as said. -/
import Derived.Test.YtjjehncnjcepkaaFC
import Derived.Test.YtjjehncnjcepkaaSH
import Derived.Laws.AppendOwn
import Derived.Lib.Hide
namespace Go.Proofs.Ytjjehncnjcepkaa
open Go.RowKit Go.Sort Go.Shelf Go.Lib
/-! The order. -/
theorem cmpI_neg (a b : Int) : cmpI a b < 0 ↔ a < b := by unfold cmpI; split <;> (try split) <;> omega
theorem cmpI_zero (a b : Int) : cmpI a b = 0 ↔ a = b := by unfold cmpI; split <;> (try split) <;> omega
theorem orI_neg (c : Int) (r : List Int) : orI (c :: r) < 0 ↔ c < 0 ∨ (c = 0 ∧ orI r < 0) := by
  have e : orI (c :: r) = if c = 0 then orI r else c := rfl
  rw [e]
  by_cases h : c = 0
  · simp [h]
  · simp [h]
theorem orI_nil : ¬ orI [] < 0 := by show ¬ (0 : Int) < 0; omega
theorem cfT_neg (x y : Tup) : cfT x y < 0 ↔ x.1 < y.1 ∨ (x.1 = y.1 ∧ (x.2.1 < y.2.1 ∨ (x.2.1 = y.2.1 ∧ (x.2.2.1 < y.2.2.1 ∨ (x.2.2.1 = y.2.2.1 ∧ (x.2.2.2.1 < y.2.2.2.1 ∨ (x.2.2.2.1 = y.2.2.2.1 ∧ x.2.2.2.2 < y.2.2.2.2))))))) := by
  unfold cfT
  simp only [orI_neg, cmpI_neg, cmpI_zero, orI_nil, and_false, or_false]
theorem swo_cfT : SWO (ltOf cfT) where
  irrefl x := by unfold ltOf; rw [decide_eq_false_iff_not, cfT_neg]; omega
  trans x y z h1 h2 := by
    unfold ltOf at *
    rw [decide_eq_true_iff, cfT_neg] at *
    omega
  ntrans x y z h1 h2 := by
    unfold ltOf at *
    rw [decide_eq_false_iff_not, cfT_neg] at *
    omega
theorem tot_cfT (x y : Tup) (h1 : ltOf cfT x y = false) (h2 : ltOf cfT y x = false) : x = y := by
  unfold ltOf at h1 h2
  rw [decide_eq_false_iff_not, cfT_neg] at h1 h2
  obtain ⟨x0, x1, x2, x3, x4⟩ := x
  obtain ⟨y0, y1, y2, y3, y4⟩ := y
  dsimp only at *
  obtain rfl : x0 = y0 := by omega
  obtain rfl : x1 = y1 := by omega
  obtain rfl : x2 = y2 := by omega
  obtain rfl : x3 = y3 := by omega
  obtain rfl : x4 = y4 := by omega
  rfl
def srtT (l : List Tup) : List Tup := l.mergeSort fun x y => !(ltOf cfT) y x
theorem srtT_len (l : List Tup) : (srtT l).length = l.length := by simp [srtT]
theorem srtT_pair (l : List Tup) : (srtT l).Pairwise fun x y => (!(ltOf cfT) y x) = true := by
  refine List.pairwise_mergeSort ?_ ?_ _
  · intro a b c h1 h2
    simp only [Bool.not_eq_true'] at h1 h2 ⊢
    exact swo_cfT.ntrans c b a h2 h1
  · intro a b
    cases h : ltOf cfT b a with
    | false => simp
    | true => simp [swo_cfT.asymmA h]
theorem srtT_perm {l m : List Tup} (h : l.Perm m) : srtT l = srtT m := by
  refine List.Perm.eq_of_pairwise (le := fun x y => (!(ltOf cfT) y x) = true) ?_ (srtT_pair l) (srtT_pair m) (((List.mergeSort_perm _ _).trans h).trans (List.mergeSort_perm _ _).symm)
  intro a b _ _ h1 h2
  simp only [Bool.not_eq_true'] at h1 h2
  exact tot_cfT a b h2 h1
/-! Rows. -/
def rowC (z : Int) (l : List Tup) : List Value := l.flatMap (encT z)
theorem rowC_cons (z : Int) (t : Tup) (r : List Tup) : rowC z (t :: r) = encT z t ++ rowC z r := by simp [rowC]
theorem rowC_append (z : Int) (a b : List Tup) : rowC z (a ++ b) = rowC z a ++ rowC z b := by simp [rowC]
theorem rowC_length (z : Int) (l : List Tup) : (rowC z l).length = l.length * 13 := by
  induction l with
  | nil => rfl
  | cons t r ih => rw [rowC_cons, List.length_append, ih, List.length_cons, encT_len]; omega
theorem rowC_at (z : Int) : ∀ (l : List Tup) (i : Nat) (t : Tup), l[i]? = some t → ∀ k, k < 13 → (rowC z l)[i * 13 + k]? = (encT z t)[k]?
  | [], _, _, h, _, _ => by simp at h
  | x :: r, 0, t, h, k, hk => by
    simp at h; subst h
    rw [rowC_cons, List.getElem?_append_left (by rw [encT_len]; omega)]
    simp
  | x :: r, i + 1, t, h, k, hk => by
    rw [rowC_cons, List.getElem?_append_right (by rw [encT_len]; omega), encT_len]
    rw [show (i + 1) * 13 + k - 13 = i * 13 + k by omega]
    exact rowC_at z r i t (by simpa using h) k hk
theorem rowC_one (z : Int) (l : List Tup) : ∀ u ∈ rowC z l, u.oneCell' = true := by
  intro u hu
  simp only [rowC, List.mem_flatMap] at hu
  obtain ⟨t, _, h⟩ := hu
  exact encT_one z t u h
theorem rowC_flat (z : Int) (l : List Tup) (j : Nat) (hj : j < l.length * 13) : (rowC z l)[j]? = some ((flatK (encT z) 13 l.toArray)[j]!) := by
  rw [get_flatK _ _ _ _ (by simpa using hj)]
  have hi : j / 13 < l.length := by omega
  have h := rowC_at z l (j / 13) l[j / 13] (List.getElem?_eq_getElem hi) (j % 13) (by omega)
  rw [show j / 13 * 13 + j % 13 = j by omega] at h
  rw [h]
  have h2 : l.toArray[j / 13]! = l[j / 13] := by simp [hi]
  rw [h2, List.getElem?_eq_getElem (by rw [encT_len]; omega)]
  congr 1
  rw [getElem!_pos _ _ (by rw [encT_len]; omega)]
theorem infoC : ∃ i : TypeInfo, Try.prog.info? 51 = some i ∧ i.zero = some (.agg (connC 0 (0, 0, 0, 0, 0) (0, 0, 0, 0, 0) false 0)) ∧ i.size = 13 ∧ i.bytes = 88 := by
  obtain ⟨i, h1, h2, h3, h4⟩ := info_parts (show (Try.prog.info? 51).map (fun i => (i.zero, i.size, i.bytes)) = some (some (.agg (connC 0 (0, 0, 0, 0, 0) (0, 0, 0, 0, 0) false 0)), 13, 88) from by kernel_rfl)
  exact ⟨i, h1, h2, h3, h4⟩
theorem plain_add3 (b off i : Nat) : (⟨b, off, none⟩ : Addr).add i = ⟨b, off + i, none⟩ := by unfold Addr.add; split <;> simp_all
/-- One connection behind a row of one's own. -/
theorem run_append_c (z : Int) (w : World) (base : Nat) (v : Value) (l : List Tup) (hown : w.ownsRow base 51 13 v l.length (rowC z l)) (b : Nat) (t : Tup) (h : w.rangeAt b 0 (encT z t))
    (hsum : l.length < 1000000) (hbase : base ≤ w.heap.size) :
    ∃ v' w', (Builtin.append_ #[28, 28] 28 #[v, .slice (some ⟨b, 0, none⟩) 1 1]).run Try.prog w = .ok v' w' ∧ w'.ownsRow base 51 13 v' (l ++ [t]).length (rowC z (l ++ [t])) ∧ w.grownBy w' v.ownBlock := by
  obtain ⟨i, hi, hz, hs, hby⟩ := infoC
  obtain ⟨v', w', h1, h2, h3, _⟩ := run_append_own (P := Try.prog) w base 28 28 51 i _ 13 88 Try.underlying28 hi hz hs hby rfl (by decide) v l.length _ hown ⟨b, 0, none⟩ 1 1 (encT z t) (by rw [encT_len]) (fun j u hj => by
    rw [plain_add3]
    exact h j u hj) (encT_one z t) (by unfold maxLen; omega) (by omega) hbase
  exact ⟨v', w', h1, by rw [rowC_append, List.length_append]; simpa [rowC] using h2, h3⟩
theorem agg_conn (w : World) : (isAgg 51).run Try.prog w = .ok true w := Try.isAgg51 w
theorem size_conn (w : World) : (Go.sizeOf 51).run Try.prog w = .ok 13 w := Try.sizeOf51 w
theorem heap_mapBlock (w : World) (blk k : Nat) (f : Array Value → Array Value) (h : k ≠ blk) : (mapBlock w blk f).heap[k]? = w.heap[k]? := by
  unfold mapBlock
  show (w.heap.modify blk _)[k]? = _
  rw [Array.getElem?_modify]
  simp [Ne.symm h]
theorem sort_below (enc : Tup → List Value) (k : Nat) (w : World) (blk off n : Nat) (d : Array Tup) (os : Array Obj) (hb : blk < w.heap.size) : Below blk w (sortWorldK enc k w blk off n d os) := by
  refine ⟨rfl, rfl, rfl, size_sortWorldK_c enc k w blk off n d os, fun j hj => ?_⟩
  unfold sortWorldK grow
  show (_ ++ os)[j]? = _
  have hz : j < (putRowK enc k (Sort.ahead w n) blk off d).heap.size := by
    rw [size_putRowK]; show j < w.heap.size; omega
  rw [Array.getElem?_append_left hz]
  exact heap_mapBlock (Sort.ahead w n) blk j _ (by omega)
/-- slices.SortFunc of a row of connections. -/
theorem sort_conns (z : Int) (w : World) (base g cap : Nat) (l : List Tup) (hown : w.ownsRow base 51 13 (.slice (some ⟨g, 0, none⟩) l.length cap) l.length (rowC z l)) (hlen : l.length < 1000000) (hg : g < w.heap.size) :
    Calls Try.prog 16 #[.slice (some ⟨g, 0, none⟩) l.length cap, .func (.func 17) #[] #[]] w fun e w' => e = .returned (.tuple #[]) ∧ w'.rangeAt g 0 (rowC z (srtT l)) ∧ Below g w w' := by
  have eg : ∀ args w, (callFunc 17 args).run Try.prog w = .ok (.enter 17 args) w := enters_of Try.func17 (by kernel_rfl) rfl
  have hH : HoldsK (encT z) 13 w g 0 l.toArray := by
    intro j hj
    have hj' : j < l.length * 13 := by simpa using hj
    refine ⟨?_, ?_⟩
    · have h1 := hown.cellAt j (by omega)
      simp only [Nat.zero_add]
      rw [h1, rowC_flat z l j hj']
      rfl
    · obtain ⟨_, hown2⟩ := hown
      rcases hown2 with ⟨h0, _⟩ | ⟨g', cap', cur, e1, _, hc, _⟩
      · cases h0
      · cases e1
        simp [World.frozen?, hc]
  have hcmp : CmpLays Try.prog 17 #[] (encT z) 13 cfT g 0 l.toArray.size w := fun m os dk _ x y => by
    have := all_closure z x y (sortWorldK (encT z) 13 w g 0 m dk os)
    simpa using this
  have hcon := AnyQ.slices_SortFunc_total Try.sortConns 13 agg_conn size_conn (encT z) (encT_len z) (encT_one z) cfT swo_cfT 17 #[] g 0 cap l.toArray w eg hcmp hH hg (by simp; omega) tot_cfT
  refine Calls.mono (show Calls Try.prog 16 #[.slice (some ⟨g, 0, none⟩) l.toArray.size cap, .func (.func 17) #[] #[]] w _ from hcon) ?_
  rintro e w' ⟨rfl, n, os, rfl⟩
  refine ⟨rfl, ?_, sort_below _ _ _ _ _ _ _ _ hg⟩
  intro j v hj
  have hs : (srtT l).length = l.length := srtT_len l
  have hj9 : j < (srtT l).length * 13 := by
    have := (List.getElem?_eq_some_iff.1 hj).1
    rw [rowC_length] at this; exact this
  have hk := holdsK_sortWorldK_c (encT z) 13 w g 0 l.toArray (srtT l).toArray n os hH hg (by simp [hs])
  have h9 := (hk j (by simpa using hj9)).1
  rw [rowC_flat z (srtT l) j hj9] at hj
  simp only [id] at h9
  rw [← hj]
  exact h9
theorem sort_none (w : World) : Calls Try.prog 16 #[.slice none 0 0, .func (.func 17) #[] #[]] w fun e w' => e = .returned (.tuple #[]) ∧ w' = w :=
  AnyF.slices_SortFunc_none (P := Try.prog) (ρ := Try.sortConns_ren) Try.sortConns none 0 _ w
end Go.Proofs.Ytjjehncnjcepkaa
