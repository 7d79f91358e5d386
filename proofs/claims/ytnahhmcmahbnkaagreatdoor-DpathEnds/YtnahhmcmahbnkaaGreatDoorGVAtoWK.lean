/- The values of a map, one by one: maps.Values and its iterator. Conditions: the map can be read. -/
import Derived.Test.YtnahhmcmahbnkaaGreatDoorGWGtoQV
import Derived.Test.YtnahhmcmahbnkaaGreatDoorGQPtoQQ
import Derived.Lib.Hide
import Derived.RangeFuncBox
import Derived.Maps.AppendAt
import Derived.Shelf.SlSortCmp.Whole1
import Derived.Shelf.SlSortCmp.QuietGrown
import Derived.Shelf.SlSortCmp.NoneTotal
import Derived.Shelf.Lay
import Derived.Ground.SlsfProg
namespace Go.Proofs.YtnahhmcmahbnkaaGreatDoor
open Go.RowKit Go.Shelf
attribute [local go_sem] Oper.semAt_some
def pv (e : Nat) : Value := .pointer (some ⟨e, 0, none⟩)
set_option maxHeartbeats 1000000 in
theorem values_pdpathrow (m : Option Nat) (w : World) : Calls Tryz.prog 14 #[.map m] w fun e w' => e = .returned (.func (Fn.func 29) #[] #[.pointer (some ⟨w.heap.size, 0, none⟩)]) ∧ w' = w.alloc (.cells #[.map m] 68) := by
  go_enter Tryz.func14, Tryz.ntmps14
  go_wp2
  go_ret
  exact ⟨rfl, rfl⟩
set_option maxRecDepth 20000 in
set_option maxHeartbeats 4000000 in
theorem vals1_pdpathrow {l : List (ByteArray × Value × Nat)} {c rb Bn n₀ : Nat} {w : World} (n : Nat) (hc : w.cell? ⟨Bn, 0, none⟩ = some (.map (some rb))) (hm : w.heap[rb]? = some (.map (entG sv l).toArray c)) (hrb : rb < n₀) (hn0 : n₀ ≤ w.heap.size)
    (hborn : ∀ x ∈ l, x.2.2 < c) (hnb : (l.map (·.2.2)).Nodup) (hptr : ∀ x ∈ l, ∃ e, x.2.1 = .pointer (some ⟨e, 0, none⟩)) (hn : 1 ≤ n) :
    SeqStopsK Fence.wide n Tryz.prog 29 #[.pointer (some ⟨Bn, 0, none⟩)] (fun e : Nat => #[pv e]) (fun A B => Below n₀ A B ∧ KeepsWalks A B) (fun xs => ∃ ys : List (ByteArray × Value × Nat), ys.Perm l ∧ ys.map (·.2.1) = xs.map pv) (fun _ => True) l.length w := by
  intro lp J Jx W hW hJ hJx hY h0
  have hlt := cell_lt hc
  have hc' : W.cell? ⟨Bn, 0, none⟩ = some (.map (some rb)) := (hW.cell (p := ⟨Bn, 0, none⟩) hlt).trans hc
  have hm' : W.heap[rb]? = some (.map (entG sv l).toArray c) := (hW.block _ (lt_of_heap hm)).trans hm
  have HBN : Hid _ := hborn
  have HNB : Hid _ := hnb
  have HY : Hid _ := hY
  have HPT : Hid _ := hptr
  have hrg := run_range_map (P := Tryz.prog) W 68 _ _ rb _ c Tryz.underlying68 hm'
  have HN : Hid (n₀ ≤ W.heap.size) := by have := hW.size; show _ ≤ _; omega
  have HM : Hid _ := hm'
  clear hW hc hm hborn hnb hm' hY hn0 hptr
  refine callsIn_of_wp Tryz.func29 rfl trivial ?_ rfl
  simp only [Tryz.ntmps29, List.size_toArray, List.length_cons, List.length_nil, Nat.reduceAdd, Nat.reduceSub, Array.replicate_succ, Array.replicate_zero, List.push_toArray, List.append_toArray, List.nil_append, List.cons_append]
  gi_wp2_with fail
  clear hrg hc'
  obtain ⟨it, hit⟩ : ∃ it, W.heap.size = it := ⟨_, rfl⟩
  have HIT : Hid (W.heap.size ≤ it) := by show _ ≤ _; omega
  have I0 : Hid ((W.alloc (.mapIter (some rb) c #[] c)).heap[it]? = some (.mapIter (some rb) c #[] c)) := by rw [← hit]; exact heap_alloc_new _ _
  have J0 : Hid (J [] (W.alloc (.mapIter (some rb) c #[] c))) := hJ [] W _ none h0 (World.grownBy_alloc _ _ _) (fun r e => by cases e)
  have HJ : Hid _ := hJ
  have B0 : Hid (Below n₀ W (W.alloc (.mapIter (some rb) c #[] c))) := (Below.refl _ _).alloc HN.out _
  rw [hit]
  clear hJ hJx h0 hit
  gi_loopw [4] (fun _ wr => ∃ (seen : Array Nat) (pre rest : List (ByteArray × Value × Nat)) (es : List Nat), Hid (pre.map (·.2.1) = es.map pv) ∧ Hid ((pre ++ rest).Perm l) ∧ Hid ((∀ x ∈ pre, seen.contains x.2.2 = true) ∧ ∀ x ∈ rest, seen.contains x.2.2 = false) ∧ Hid (wr.heap[it]? = some (.mapIter (some rb) c seen c)) ∧ Hid (J es wr) ∧ Hid (Below n₀ W wr)) (fun _ wr => wr.rangeLeft rb it)
  case atStart => exact ⟨#[], [], l, [], rfl, List.Perm.refl _, ⟨fun x hx => by simp at hx, fun x _ => by simp⟩, I0.out, J0.out, B0.out⟩
  case round =>
    clear I0 J0 B0
    obtain ⟨seen, pre, rest, es, he, hp, hs, hi, hj, hb⟩ := hrel
    have HML : Hid (wr.heap[rb]? = some (.map (entG sv l).toArray c)) := (hb.out.block _ hrb).trans HM.out
    have HLF : Hid (wr.rangeLeft rb it = (leftOf (entG sv l).toArray seen).size) := by
      show _ = _
      unfold World.rangeLeft
      rw [HML.out, hi.out]
    rcases iter_step hi.out HML.out HBN.out HNB.out 0 with ⟨hnx, hall⟩ | ⟨x, hx, W2, hsx, hnx, hen, i1, i2, i3⟩
    · have hend : rest = [] := by
        cases rest with
        | nil => rfl
        | cons y r =>
          have h1 := hall y (hp.out.subset (by simp))
          rw [hs.out.2 y (by simp)] at h1
          cases h1
      subst hend
      have HP : Hid (pre.Perm l) := by show List.Perm _ _; have := hp.out; rwa [List.append_nil] at this
      clear hall hp hs
      gi_wp2
      go_end0
      exact ⟨⟨_, rfl⟩, .inl ⟨es, ⟨pre, HP.out, he.out⟩, hj.out⟩⟩
    · obtain ⟨s, t, hst⟩ : ∃ s t, rest = s ++ x :: t := by
        have h1 : x ∈ pre ++ rest := hp.out.symm.subset hx
        rcases List.mem_append.1 h1 with h2 | h2
        · rw [hs.out.1 x h2] at hsx; cases hsx
        · exact List.append_of_mem h2
      subst hst
      have HP2 : Hid (((pre ++ [x]) ++ (s ++ t)).Perm l) := by
        show List.Perm _ _
        refine List.Perm.trans ?_ hp.out
        rw [List.append_assoc]
        exact List.Perm.append_left _ (by simpa using (List.perm_middle (a := x) (l₁ := s) (l₂ := t)).symm)
      have HS2 : Hid ((∀ y ∈ pre ++ [x], (seen.push x.2.2).contains y.2.2 = true) ∧ ∀ y ∈ s ++ t, (seen.push x.2.2).contains y.2.2 = false) := by
        refine ⟨fun y hy => ?_, fun y hy => ?_⟩
        · rcases List.mem_append.1 hy with h | h
          · exact seen_old (hs.out.1 y h)
          · rw [List.mem_singleton] at h; subst h; exact seen_new _
        · cases hq : (seen.push x.2.2).contains y.2.2 with
          | false => rfl
          | true =>
            exfalso
            rcases seen_push hq with h | h
            · rw [hs.out.2 y (by rcases List.mem_append.1 hy with h | h; exact List.mem_append_left _ h; exact List.mem_append_right _ (List.mem_cons_of_mem _ h))] at h; cases h
            · have hnd : (((pre ++ [x]) ++ (s ++ t)).map (·.2.2)).Nodup := (HP2.out.map (fun z : ByteArray × Value × Nat => z.2.2)).nodup_iff.2 HNB.out
              rw [List.map_append, List.nodup_append] at hnd
              exact hnd.2.2 x.2.2 (List.mem_map_of_mem (by simp)) y.2.2 (List.mem_map_of_mem hy) h.symm
      have hlen : es.length < l.length := by have := HP2.out.length_eq; have h2 := congrArg List.length he.out; simp at this h2 ⊢; omega
      obtain ⟨k, d, ux⟩ := x
      obtain ⟨e0, he0⟩ := HPT.out _ hx
      dsimp only at he0
      subst he0
      have b2 : Below n₀ wr W2 := (i2.below (Nat.le_of_lt (lt_of_heap hi.out))).mono (by have := HN.out; have := HIT.out; omega)
      have J2 : J es W2 := HJ.out _ wr W2 (some it) hj.out ⟨i2.os, i2.tape, i2.output, i2.size, fun k hk hne => i2.keep k hk (fun e => hne (by rw [e]))⟩ (fun r e => by cases e; exact ⟨HIT.out, _, hi.out, rfl⟩)
      obtain ⟨fn, tmps, assign, body, hy, hR⟩ := HY.out es e0 W2 J2 hlen
      dsimp only [pv] at hy
      have HB2 : Hid (Below n₀ W W2) := hb.out.trans b2
      have I2 : Hid _ := i1
      have HSH : Hid _ := i3
      have HE2 : Hid ((pre ++ [(k, Value.pointer (some ⟨e0, 0, none⟩), ux)]).map (·.2.1) = (es ++ [e0]).map pv) := by show _ = _; rw [List.map_append, List.map_append, he.out]; rfl
      dsimp only at hnx hen
      clear he hp hs hi hj hb hsx b2 J2 i1 i2 i3 HML hlen
      gi_wp2
      refine hR.mono ?_
      rintro e W3 (⟨rfl, hJ3, hb3, hk3⟩ | ⟨rfl, hJx3⟩)
      · have I3 : Hid _ := hk3.same _ _ I2.out rfl
        have HJ3 : Hid (J (es ++ [e0]) W3) := hJ3
        have HB3 : Hid _ := HB2.out.trans hb3
        have HLG : Hid (W3.rangeLeft rb it < wr.rangeLeft rb it) := by
          show _ < _
          rw [HLF.out]
          refine Nat.lt_of_le_of_lt (Nat.le_of_eq ?_) HSH.out
          unfold World.rangeLeft
          rw [(HB3.out.block _ hrb).trans HM.out, I3.out]
        clear hk3 hb3 hJ3
        gi_wp2
        go_roundw
        case rel => exact ⟨seen.push ux, pre ++ [(k, Value.pointer (some ⟨e0, 0, none⟩), ux)], s ++ t, es ++ [e0], HE2.out, HP2.out, HS2.out, I3.out, HJ3.out, HB3.out⟩
        case measure => exact HLG.out
      · gi_wp2
        refine bodyPost_ret (results_none rfl _ _ _) rfl ?_
        exact ⟨⟨_, rfl⟩, .inr ⟨_, trivial, hJx3⟩⟩

end Go.Proofs.YtnahhmcmahbnkaaGreatDoor
/- What an iterator gives, in a slice: slices.AppendSeq, slices.Collect. Conditions: as said. -/
namespace Go.Proofs.YtnahhmcmahbnkaaGreatDoor
open Go.RowKit Go.Shelf
attribute [local go_sem] Oper.semAt_some
theorem info3_pdpathrow : (Tryz.prog.info? 73).map (fun i => (i.zero, i.size, i.bytes)) = some (some (.pointer none), 1, 8) := by kernel_rfl
set_option maxRecDepth 100000 in
set_option maxHeartbeats 4000000 in
theorem appendSeq_pdpathrow {gf : Nat} {lb : Array Value} {S : List Nat → Prop} {N : Nat} (w : World) (hN : N ≤ 1000000) (eg : ∀ args w, (callFunc gf args).run Tryz.prog w = .ok (.enter gf args) w)
    (hseq : ∀ W, Below w.heap.size w W → SeqStopsK Fence.wide 5 Tryz.prog gf lb (fun e : Nat => #[pv e]) (fun A B => Below w.heap.size A B ∧ KeepsWalks A B) S (fun _ => True) N W) :
    CallsIn Fence.wide 6 Tryz.prog 50 #[.slice none 0 0, .func (.func gf) #[] lb] w fun e W' => ∃ v xs, e = .returned v ∧ S xs ∧ W'.ownsRow w.heap.size 73 1 v xs.length (xs.map pv) ∧ Below w.heap.size w W' := by
  obtain ⟨i0, hi, hz0, hz1, hz2⟩ := info_parts info3_pdpathrow
  have bO : Hid (Boxed (w.alloc (.cells #[.slice none 0 0] 71)) w.heap.size 71 (.slice none 0 0)) := Boxed.new w 71 (.slice none 0 0)
  have hB0 : Hid (Below w.heap.size w (w.alloc (.cells #[.slice none 0 0] 71))) := below1 _ _
  refine callsIn_of_wp_marks Tryz.func50 rfl trivial ?_ rfl
  simp only [Tryz.ntmps50, List.size_toArray, List.length_cons, List.length_nil, Nat.reduceAdd, Nat.reduceSub, Array.replicate_succ, Array.replicate_zero, List.push_toArray, List.append_toArray, List.nil_append, List.cons_append]
  gi_wp2_with fail
  refine wpIn_rangeFunc_ownF (α := Nat) rfl (by omega) (gf := gf) (lb := lb) rfl trivial eg
    (hseq _ hB0.out) (fun h k => ⟨h.1.trans k.1, h.2.trans k.2⟩) (fun W l o o' h1 h2 h3 h4 => ⟨belowK_b (w := w.alloc (.cells #[.slice none 0 0] 71)) (by simp) W l o o' h1 h2 h3 h4, walksK_b (w := w.alloc (.cells #[.slice none 0 0] 71)) W l o o' h1 h2 h3 h4⟩) (Below.refl _ _) (fun _ => rfl)
    (fun pre W => (∃ v, Boxed W w.heap.size 71 v ∧ W.ownsRow w.heap.size 73 1 v pre.length (pre.map pv) ∧ True) ∧ Below w.heap.size w W)
    (fun _ _ _ => False)
    (OwnFrom.and (Own.from (holdsRow_own w.heap.size w.heap.size 71 73 1 (fun pre : List Nat => pre.length) (fun pre => pre.map pv) (fun _ _ => True)) _) (ownFrom_below (Nat.le_refl _) (by simp)))
    (fun _ _ _ _ _ hs _ _ => hs)
    ⟨⟨_, bO.out, World.ownsRow_nil _ _ _ _, trivial⟩, hB0.out⟩ ?a1 ?assign ?body ?done ?stop
  case assign =>
    intro l x W K hK
    gi_wp2
    exact hK
  case stop =>
    rintro D c pre W _ _ h _
    exact h.elim
  case body =>
    rintro l pre x W ⟨⟨v, hv, hrow, _⟩, hB⟩ hlt
    have hc := hv.cell
    obtain ⟨sa, sc, rfl⟩ : ∃ a c, v = .slice a pre.length c := by
      rcases hrow.2 with ⟨e, h0⟩ | ⟨g, c, _, e, _⟩
      · exact ⟨none, 0, by rw [e, h0]⟩
      · exact ⟨_, c, e⟩
    have HROW : Hid (W.ownsRow w.heap.size 73 1 (.slice sa pre.length sc) pre.length (pre.map pv)) := hrow
    have HV : Hid (Boxed W w.heap.size 71 (.slice sa pre.length sc)) := hv
    have HB : Hid (Below w.heap.size w W) := hB
    clear hrow hv hB
    unfold pv
    gi_wp2_with (gi_at_builtin; refine wpListIn_append_own _ rfl _ _ 71 rfl w.heap.size 73 i0 (.pointer none) 1 8 Tryz.underlying71 hi hz0 hz1 hz2 rfl (by decide) _ _ _ rfl (HROW.out.alloc _) ⟨W.heap.size, 0, none⟩ 1 1 [.pointer (some ⟨x, 0, none⟩)] rfl rfl (cell_one_new _ _ _) (by simp [Value.oneCell']) (Nat.le_trans (by omega) (by decide +kernel : (1000001 : Nat) ≤ maxLen)) (by omega) (by have := HB.out.size; simp; omega) ?_; intro v' w1 hown' hgrow _; obtain ⟨g', cap', rfl⟩ := ownsRow_succ hown'; obtain ⟨hv1, hv2, hr2, hk2, hb2⟩ := HV.out.appended (by decide) HROW.out HB.out.size (Nat.le_refl _) hown' hgrow; have hc1 := hv1.cell; have hf1 := hv1.frozen)
    refine ⟨hk2, ⟨hb2, hk2.walks⟩, ⟨_, hv2, by rw [List.length_append, List.map_append]; exact hr2, trivial⟩, HB.out.trans hb2⟩
  case done =>
    rintro D ys W hD hS ⟨⟨v, hv, hrow, _⟩, hB⟩ hK
    have hc := hv.cell
    obtain ⟨sa, sc, rfl⟩ : ∃ a c, v = .slice a ys.length c := by
      rcases hrow.2 with ⟨e, h0⟩ | ⟨g, c, _, e, _⟩
      · exact ⟨none, 0, by rw [e, h0]⟩
      · exact ⟨_, c, e⟩
    have HROW : Hid (W.ownsRow w.heap.size 73 1 (.slice sa ys.length sc) ys.length (ys.map pv)) := hrow
    have HB : Hid (Below w.heap.size w W) := hB
    clear hrow hB hv
    gi_wp2
    refine ⟨by simp, .inl ⟨_, _, rfl, run_takeDeferred hK, ?_⟩⟩
    exact ⟨_, results_tmp rfl _ _ _, _, ys, rfl, hS, ownsRow_putObj HROW.out _ hK rfl, HB.out.trans (belowK_b (w := w) (Nat.le_refl _) W D _ _ (by simp at hD; omega) hK rfl rfl)⟩
set_option maxHeartbeats 1000000 in
theorem collect_pdpathrow {gf : Nat} {lb : Array Value} {S : List Nat → Prop} {N : Nat} (w : World) (hN : N ≤ 1000000) (eg : ∀ args w, (callFunc gf args).run Tryz.prog w = .ok (.enter gf args) w)
    (hseq : ∀ W, Below w.heap.size w W → SeqStopsK Fence.wide 5 Tryz.prog gf lb (fun e : Nat => #[pv e]) (fun A B => Below w.heap.size A B ∧ KeepsWalks A B) S (fun _ => True) N W) :
    Calls Tryz.prog 27 #[.func (.func gf) #[] lb] w fun e W' => ∃ v xs, e = .returned v ∧ S xs ∧ W'.ownsRow w.heap.size 73 1 v xs.length (xs.map pv) ∧ Below w.heap.size w W' := by
  have HA : Hid _ := callsIn_wide.1 (appendSeq_pdpathrow w hN eg hseq)
  clear hseq eg
  go_enter Tryz.func27, Tryz.ntmps27
  go_wp2_with fail
  refine Calls.mono HA.out ?_
  rintro e W1 ⟨v, xs, rfl, hS, hown, hb⟩
  obtain ⟨sa, sc, rfl⟩ : ∃ a c, v = .slice a xs.length c := by
    rcases hown.2 with ⟨e, h0⟩ | ⟨g, c, _, e, _⟩
    · exact ⟨none, 0, by rw [e, h0]⟩
    · exact ⟨_, c, e⟩
  have HO : Hid (W1.ownsRow w.heap.size 73 1 (.slice sa xs.length sc) xs.length (xs.map pv)) := hown
  have HB : Hid (Below w.heap.size w W1) := hb
  have HS : Hid (S xs) := hS
  clear hown hb hS HA
  go_wp2
  go_ret
  exact ⟨_, xs, rfl, HS.out, HO.out, HB.out⟩

end Go.Proofs.YtnahhmcmahbnkaaGreatDoor
/- The order of rules, with the world that it leaves; slices.SortFunc of a classifier's entries. Conditions: as said. -/
namespace Go.Proofs.YtnahhmcmahbnkaaGreatDoor
open Go.RowKit Go.Shelf Go.Sort
shelf_lay_g SlLaysF.n6 Slsf 6 at Tryz 28 as sort_pdpathrow
end Go.Proofs.YtnahhmcmahbnkaaGreatDoor
/- slices.SortedFunc of pointers. Conditions: as said. -/
namespace Go.Proofs.YtnahhmcmahbnkaaGreatDoor
open Go.RowKit Go.Shelf Go.Sort
section
variable {α : Type} [Inhabited α]
theorem holds_row {enc : α → Value} {w : World} {g : Nat} {cur : Array Value} {e : TypeId} {l : List α} (hb : w.heap[g]? = some (.cells cur e (0, 0))) (ht : cur.toList.take l.length = l.map enc) : Holds enc w g 0 l.toArray := by
  intro j hj
  have hj' : j < l.length := by simpa using hj
  refine ⟨?_, by simp [World.frozen?, hb]⟩
  rw [Nat.zero_add, cell_row hb]
  have h1 : (cur.toList.take l.length)[j]? = (l.map enc)[j]? := by rw [ht]
  rw [List.getElem?_take_of_lt hj', Array.getElem?_toList] at h1
  rw [h1]
  simp [hj']
theorem sorted_own {enc : α → Value} {w : World} {B g cap n : Nat} {e : TypeId} {os : Array Obj} {cur : Array Value} {l : List α} {d : Array α} (hl : d.size = l.length) (hB : B ≤ g) (hb : w.heap[g]? = some (.cells cur e (0, 0))) (h1 : l.length ≤ cap) (h2 : cap ≤ maxLen) (h3 : cur.size = cap * 1) :
    (sortWorld enc w g 0 n d os).ownsRow B e 1 (.slice (some ⟨g, 0, none⟩) d.size cap) d.size (d.toList.map enc) ∧ Below B w (sortWorld enc w g 0 n d os) := by
  have hg : g < w.heap.size := lt_of_heap hb
  have hh : (sortWorld enc w g 0 n d os).heap[g]? = some (.cells (putCells enc 0 d cur) e (0, 0)) := by
    unfold sortWorld
    rw [heap_grow_old _ _ (by simpa using hg)]
    simp [putRow, mapBlock, Sort.ahead, Array.getElem?_modify, hb, onCells]
  refine ⟨⟨by simp, .inr ⟨g, cap, _, rfl, hB, hh, by omega, h2, by simp [putCells, h3], ?_⟩⟩, ⟨rfl, rfl, rfl, by simp [sortWorld], fun k hk => ?_⟩⟩
  · apply List.ext_getElem?
    intro j
    by_cases hj : j < d.size
    · rw [List.getElem?_take_of_lt (by omega), Array.getElem?_toList]
      simp [putCells, hj, show j < cur.size by omega]
    · rw [List.getElem?_take_eq_none (by omega), List.getElem?_eq_none (by simp; omega)]
  · unfold sortWorld
    rw [heap_grow_old _ _ (by simp; omega)]
    have : g ≠ k := by omega
    simp [putRow, mapBlock, Sort.ahead, Array.getElem?_modify, this]
end
set_option maxHeartbeats 2000000 in
theorem sortedFunc_pdpathrow {gf G : Nat} {lb : Array Value} {S : List Nat → Prop} {N : Nat} (w : World) (hN : N ≤ 1000000) (eg : ∀ args w, (callFunc gf args).run Tryz.prog w = .ok (.enter gf args) w)
    (hseq : ∀ W, Below w.heap.size w W → SeqStopsK Fence.wide 5 Tryz.prog gf lb (fun e : Nat => #[pv e]) (fun A B => Below w.heap.size A B ∧ KeepsWalks A B) S (fun _ => True) N W)
    (E : Nat → Prop) (K : Nat → Nat → Int) (egG : ∀ args w, (callFunc G args).run Tryz.prog w = .ok (.enter G args) w) (hE : ∀ xs, S xs → xs.length ≤ 1000000 ∧ ∀ y ∈ xs, E y)
    (hcmp : ∀ W, Below w.heap.size w W → ∀ a b, E a → E b → Calls Tryz.prog G #[pv a, pv b] W fun e w' => e = .returned (.int .i64 (K a b)) ∧ ∃ n os, w' = grow (W.drewN n) os)
    (hO : SWO (fun a b : {e : Nat // E e} => decide (K a.1 b.1 < 0))) :
    Calls Tryz.prog 13 #[.func (.func gf) #[] lb, .func (.func G) #[] #[]] w fun e W' => ∃ (v : Value) (xs ys : List Nat), e = .returned v ∧ S xs ∧ ys.Perm xs ∧ ys.Pairwise (fun a b => 0 ≤ K b a) ∧ W'.ownsRow w.heap.size 73 1 v ys.length (ys.map pv) ∧ Below w.heap.size w W' := by
  have HC : Hid _ := collect_pdpathrow w hN eg hseq
  have HE : Hid _ := hE
  have HCMP : Hid _ := hcmp
  have HO : Hid _ := hO
  have HG : Hid _ := egG
  clear hseq eg hE hcmp hO egG
  go_enter Tryz.func13, Tryz.ntmps13
  go_wp2_with fail
  refine Calls.mono HC.out ?_
  rintro e W1 ⟨v, xs, rfl, hS, hown, hb⟩
  have HS : Hid (S xs) := hS
  have HB : Hid (Below w.heap.size w W1) := hb
  rcases hown.2 with ⟨rfl, h0⟩ | ⟨g, cap, cur, rfl, q1, q2, q3, q4, q5, q6⟩
  · have HOWN : Hid (W1.ownsRow w.heap.size 73 1 (.slice none 0 0) xs.length (xs.map pv)) := hown
    have HN : Hid _ := AnyF.slices_SortFunc_none { sort_pdpathrow with } none 0 (.func (.func G) #[] #[]) W1
    have hx : xs = [] := List.length_eq_zero_iff.1 h0
    clear hown hb hS HC h0
    go_wp2_with fail
    refine Calls.mono HN.out ?_
    rintro e W2 ⟨rfl, hw2⟩
    rw [hw2]
    clear hw2
    go_wp2
    go_ret
    subst hx
    exact ⟨_, [], [], rfl, HS.out, List.Perm.refl _, List.Pairwise.nil, HOWN.out, HB.out⟩
  · by_cases hx0 : xs = []
    · subst hx0
      have HOWN : Hid (W1.ownsRow w.heap.size 73 1 (.slice (some ⟨g, 0, none⟩) ([] : List Nat).length cap) ([] : List Nat).length (([] : List Nat).map pv)) := hown
      have HN : Hid _ := AnyF.slices_SortFunc_none { sort_pdpathrow with } (some ⟨g, 0, none⟩) cap (.func (.func G) #[] #[]) W1
      clear hown hb hS HC q1 q2 q3 q4 q5 q6
      go_wp2_with fail
      refine Calls.mono HN.out ?_
      rintro e W2 ⟨rfl, hw2⟩
      rw [hw2]
      clear hw2
      go_wp2
      go_ret
      exact ⟨_, [], [], rfl, HS.out, List.Perm.refl _, List.Pairwise.nil, HOWN.out, HB.out⟩
    obtain ⟨hx6, hEx⟩ := HE.out xs hS
    obtain ⟨l, hl⟩ : ∃ l : List {e : Nat // E e}, l.map (·.1) = xs := ⟨xs.attachWith E hEx, by simp⟩
    haveI : Inhabited {e : Nat // E e} := ⟨⟨xs.head hx0, hEx _ (List.head_mem hx0)⟩⟩
    have hll : l.length = xs.length := by rw [← hl, List.length_map]
    have ht : cur.toList.take l.length = l.map (fun a => pv a.1) := by rw [hll]; rw [Nat.mul_one] at q6; rw [q6, ← hl, List.map_map]; rfl
    have hcon := Any.slices_SortFunc sort_pdpathrow (fun a : {e : Nat // E e} => pv a.1) (fun _ => rfl) (fun a b => K a.1 b.1) HO.out G #[] g 0 cap l.toArray W1 HG.out
      (fun m os dk hs a b => HCMP.out _ (HB.out.trans (sorted_own (l := l) (by simpa using hs) q1 q2 (by omega) q4 q5).2) a.1 b.1 a.2 b.2)
      (holds_row q2 ht) (lt_of_heap q2) (by simp; omega)
    have hsz : l.toArray.size = xs.length := by simpa using hll
    rw [hsz] at hcon
    have HCON : Hid _ := hcon
    have Q : Hid (w.heap.size ≤ g ∧ W1.heap[g]? = some (.cells cur 73 (0, 0)) ∧ l.length ≤ cap ∧ cap ≤ maxLen ∧ cur.size = cap * 1) := ⟨q1, q2, by omega, q4, q5⟩
    have HL : Hid (l.map (·.1) = xs) := hl
    have HZ : Hid _ := hsz
    have HLL : Hid _ := hll
    clear hcon hown hb hS HC q1 q2 q3 q4 q5 q6 hl hsz hll ht hx6 hEx hx0
    go_wp2_with fail
    refine Calls.mono HCON.out ?_
    rintro e W2 ⟨rfl, d', n, os, hp, hs, hw2⟩
    obtain ⟨q1, q2, q3, q4, q5⟩ := Q.out
    have hd : d'.size = l.length := by have := hp.1; simpa using this
    have HSO := sorted_own (enc := fun a : {e : Nat // E e} => pv a.1) (n := n) (os := os) hd q1 q2 q3 q4 q5
    rw [← hw2] at HSO
    have HS2 : Hid _ := HSO
    have HP : Hid _ := hp
    have HSS : Hid _ := hs
    have HD : Hid (d'.size = xs.length) := by show _ = _; rw [hd, HLL.out]
    clear HSO hp hs hd hw2 q1 q2 q3 q4 q5
    go_wp2
    go_ret
    refine ⟨_, xs, d'.toList.map (·.1), rfl, HS.out, ?_, ?_, ?_, HB.out.trans HS2.out.2⟩
    · have h3 := HP.out.2.2
      have e1 : d'.extract 0 xs.length = d' := by rw [← HD.out]; simp
      have e2 : l.toArray.extract 0 xs.length = l.toArray := by rw [← HZ.out]; simp
      rw [e1, e2] at h3
      have := h3.map (·.1)
      rwa [show (l.toArray.toList.map (·.1)) = xs from HL.out] at this
    · rw [List.pairwise_iff_getElem]
      intro i j hi hj hij
      simp only [List.length_map, Array.length_toList] at hi hj
      have := HSS.out i j (Nat.zero_le _) hij (by rw [← HD.out]; exact hj)
      rw [getElem!_pos d' i hi, getElem!_pos d' j hj] at this
      simp only [ltOf, decide_eq_false_iff_not] at this
      simp only [List.getElem_map, Array.getElem_toList]
      omega
    · have h4 := HS2.out.1
      rw [HD.out] at h4
      simp only [List.length_map, Array.length_toList, List.map_map]
      rw [HD.out]
      exact h4

end Go.Proofs.YtnahhmcmahbnkaaGreatDoor
/- dpath.rowsOf of no flow. No condition. -/
namespace Go.Proofs.YtnahhmcmahbnkaaGreatDoor
open Go.RowKit
theorem run_makeRows (n : Int) (w : World) : (Instr.makeMap 68 (some (.int .i64 n))).run Tryz.prog w = .ok (.map (some w.heap.size)) (w.alloc (.map #[] 0)) := by
  unfold Instr.makeMap
  simp only [Sem.run_bind, run_underlying Tryz.underlying68, Result.andThen_ok, asInt, Sem.run_pure]
  rfl
set_option maxRecDepth 20000 in
set_option maxHeartbeats 1000000 in
theorem rowsOf_nil (w : World) : Calls Tryz.prog 12 #[.slice none 0 0] w fun e w' => e = .returned (.tuple #[.map (some w.heap.size), .int .i64 0]) ∧ w' = w.alloc (.map #[] 0) := by
  have hmm := run_makeRows
  go_enter Tryz.func12, Tryz.ntmps12
  go_wp2
  go_rounds 1
  all_goals go_wp2
  all_goals go_ret2
  all_goals exact ⟨rfl, rfl⟩
end Go.Proofs.YtnahhmcmahbnkaaGreatDoor
/- dpath.New of no flow. No condition. -/
namespace Go.Proofs.YtnahhmcmahbnkaaGreatDoor
open Go.RowKit Go.Shelf Go.Sort
abbrev pgC (m : Nat) (o : Value) (cs : List Value) : Array Value := (.map (some m) :: o :: cs).toArray
theorem built_prog (m : Nat) (a : Option Addr) (n c : Nat) : Tryz.prog.built 81 [(0, .map (some m)), (1, .slice a n c)] = some (pgC m (.slice a n c) (List.replicate 64 (.pointer none))) := by kernel_rfl
set_option maxRecDepth 100000 in
set_option maxHeartbeats 4000000 in
theorem sorted_none {m : Nat} {w : World} (hm : w.heap[m]? = some (.map #[] 0)) (hB : m < w.heap.size) :
    Calls Tryz.prog 13 #[.func (Fn.func 29) #[] #[.pointer (some ⟨w.heap.size, 0, none⟩)], .func (Fn.func 15) #[] #[]] (w.alloc (.cells #[.map (some m)] 68)) fun e w' => ∃ a c, e = .returned (.slice a 0 c) ∧ Below w.heap.size w w' := by
  have hcell : (w.alloc (.cells #[.map (some m)] 68)).cell? ⟨w.heap.size, 0, none⟩ = some (.map (some m)) := cell_row (heap_alloc_new w _) 0
  have b1 := below1 w (.cells #[.map (some m)] 68)
  have := sortedFunc_pdpathrow (gf := 29) (G := 15) (lb := #[.pointer (some ⟨w.heap.size, 0, none⟩)]) (S := fun xs => ∃ ys : List (ByteArray × Value × Nat), ys.Perm [] ∧ ys.map (·.2.1) = xs.map pv) (N := 0) (w.alloc (.cells #[.map (some m)] 68)) (by omega)
    (enters_of Tryz.func29 (by kernel_rfl) rfl)
    (fun W hW => vals1_pdpathrow (l := []) (c := 0) (rb := m) 5 ((hW.cell (p := ⟨w.heap.size, 0, none⟩) (by simp)).trans hcell) ((hW.block m (by simp; omega)).trans ((heap_alloc_old _ _ hB).trans hm)) (by simp; omega) hW.size (fun x hx => by simp at hx) (by simp) (fun x hx => by simp at hx) (by omega))
    (fun _ => False) (fun _ _ => 0) (enters_of Tryz.func15 (by kernel_rfl) rfl)
    (fun xs hxs => by
      obtain ⟨ys, hp, he⟩ := hxs
      have h0 : ys = [] := List.Perm.eq_nil hp
      subst h0
      have hx : xs = [] := by simpa using he.symm
      subst hx
      exact ⟨by simp, fun y hy => by simp at hy⟩)
    (fun W _ a b ha _ => ha.elim)
    ⟨fun x => x.2.elim, fun x => x.2.elim, fun x => x.2.elim⟩
  refine Calls.mono this ?_
  rintro e W' ⟨v, xs, ys, rfl, ⟨zs, hp, he⟩, hperm, _, hown, hb⟩
  have h0 : zs = [] := List.Perm.eq_nil hp
  subst h0
  have hx : xs = [] := by simpa using he.symm
  subst hx
  have hy : ys = [] := List.Perm.eq_nil hperm
  subst hy
  have hb2 : Below w.heap.size w W' := b1.trans (hb.mono (by simp))
  rcases hown.2 with ⟨rfl, _⟩ | ⟨g, cap, cur, rfl, _⟩
  · exact ⟨none, 0, rfl, hb2⟩
  · exact ⟨some ⟨g, 0, none⟩, cap, rfl, hb2⟩
set_option maxRecDepth 100000 in
set_option maxHeartbeats 4000000 in
theorem new_nil (w : World) : Calls Tryz.prog 7 #[.slice none 0 0] w fun e w' => ∃ p m, e = .returned (.tuple #[.pointer (some ⟨p, 0, none⟩), .int .i64 0]) ∧ w'.cell? ⟨p, 0, none⟩ = some (.map (some m)) ∧ Below w.heap.size w w' := by
  obtain ⟨V, hV⟩ : ∃ V, V = w.alloc (.map #[] 0) := ⟨_, rfl⟩
  have M0 : Hid (V.heap[w.heap.size]? = some (.map #[] 0)) := by show _ = _; rw [hV]; exact heap_alloc_new _ _
  have B0 : Hid (Below w.heap.size w V) := by rw [hV]; exact below1 _ _
  have HS : Hid _ := sorted_none M0.out (lt_of_heap M0.out)
  have HV : Hid _ := values_pdpathrow (some w.heap.size) V
  go_enter Tryz.func7, Tryz.ntmps7
  go_wp2_with fail
  refine Calls.mono (rowsOf_nil w) ?_
  rintro e W1 ⟨rfl, hw1⟩
  rw [hw1, ← hV]
  clear hw1 hV
  go_wp2_with fail
  refine Calls.mono HV.out ?_
  rintro e W2 ⟨rfl, hw2⟩
  rw [hw2]
  clear hw2 HV
  go_wp2_with fail
  refine Calls.mono HS.out ?_
  rintro e W3 ⟨a, c, rfl, hb3⟩
  have B3 : Hid (Below w.heap.size w W3) := B0.out.trans (hb3.mono B0.out.size)
  clear hb3 B0 M0 HS
  go_wp2_with (first
    | refine wpList_build_as rfl 81 _ rfl (pgC w.heap.size (.slice a 0 c) (List.replicate 64 (.pointer none))) (by rw [List.map_toArray]; exact built_prog _ _ _ _) ?_
    | fail)
  generalize hV4 : W3.alloc (Obj.cells _ _) = V4
  have B4 : Hid (RowKit.Below w.heap.size w V4) := by rw [← hV4]; exact B3.out.alloc B3.out.size _
  have c0 : Hid (V4.cell? ⟨W3.heap.size, 0, none⟩ = some (.map (some w.heap.size))) := by rw [← hV4]; exact cell_row (heap_alloc_new _ _) 0
  clear hV4 B3
  go_rounds 1
  all_goals go_wp2
  all_goals go_ret2
  all_goals first | exact ⟨_, _, rfl, c0.out, B4.out⟩ | exact ⟨_, rfl, _, c0.out, B4.out⟩ | exact ⟨_, rfl, ⟨_, c0.out⟩, B4.out⟩
end Go.Proofs.YtnahhmcmahbnkaaGreatDoor
/- DpathNobody's walk, out of what lives answers. Conditions: as said. -/
namespace Go.Proofs.YtnahhmcmahbnkaaGreatDoor
open Go.RowKit
set_option maxRecDepth 100000 in
set_option maxHeartbeats 4000000 in
theorem nobody_walk (la : Option Addr) (ln lc : Nat) (cs : Array Value) (t : Int) (w : World) (hcs : cs.size = 49)
    (hL : ∀ W, Below w.heap.size w W → Calls Tryz.prog 6 #[] W fun e w' => e = .returned (.bool true) ∧ Below W.heap.size W w') :
    Calls Tryz.prog 4 #[.slice la ln lc, .agg cs, .int .i64 t] w fun e w' => e = .returned (.bool true) ∧ Below w.heap.size w w' := by
  have HL : Hid _ := hL
  have HI : Hid _ := info_size hcs
  have S0 : Hid _ := heap_alloc_new w (.cells cs 38)
  have B0 : Hid (Below w.heap.size w (w.alloc (.cells cs 38))) := below1 _ _
  have q := eql_pprog
  clear hL hcs
  go_enter Tryz.func4, Tryz.ntmps4
  go_wp2_with fail
  refine Calls.mono (ctnew_any 1 (by omega) (by omega) _) ?_
  rintro e W1 ⟨rfl, hb⟩
  have B1 : Hid (Below w.heap.size w W1) := B0.out.trans (hb.mono B0.out.size)
  have S1 : Hid _ := (hb.block _ (lt_of_heap S0.out)).trans S0.out
  clear hb
  go_wp2_with (first
    | refine wpList_load_row rfl 38 _ rfl w.heap.size rfl 38 cs (0, 0) _ S1.out Tryz.underlying38 rfl HI.out ?_
    | fail)
  refine Calls.mono (run_nil _ t cs W1) ?_
  rintro e W2 ⟨rfl, hb⟩
  have B2 : Hid (Below w.heap.size w W2) := B1.out.trans (hb.mono B1.out.size)
  have S2 : Hid _ := (hb.block _ (lt_of_heap S1.out)).trans S1.out
  clear hb S0 S1 B0 B1
  go_wp2_with fail
  refine Calls.mono (set_nil _ W2) ?_
  rintro e W3 ⟨rfl, hw3⟩
  rw [hw3]
  clear hw3
  go_wp2_with fail
  refine Calls.mono (new_nil W2) ?_
  rintro e W4 ⟨p, m, rfl, hc, hb⟩
  have B4 : Hid (Below w.heap.size w W4) := B2.out.trans (hb.mono B2.out.size)
  have S4 : Hid _ := (hb.block _ (lt_of_heap S2.out)).trans S2.out
  have C4 : Hid _ := hc
  clear hb hc S2 B2
  go_wp2_with fail
  refine Calls.mono (HL.out W4 B4.out) ?_
  rintro e W5 ⟨rfl, hb⟩
  have B5 : Hid (Below w.heap.size w W5) := B4.out.trans (hb.mono B4.out.size)
  have S5 : Hid _ := (hb.block _ (lt_of_heap S4.out)).trans S4.out
  have C5 : Hid (W5.cell? ⟨p, 0, none⟩ = some (.map (some m))) := (hb.cell (p := ⟨p, 0, none⟩) (cell_lt C4.out)).trans C4.out
  clear hb S4 B4 C4 HL
  go_wp2_with (first
    | refine wpList_load_row rfl 38 _ rfl w.heap.size rfl 38 cs (0, 0) _ S5.out Tryz.underlying38 rfl HI.out ?_
    | fail)
  refine Calls.mono (run_notab t cs W5 C5.out) ?_
  rintro e W6 ⟨rfl, hb⟩
  have B6 : Hid (Below w.heap.size w W6) := B5.out.trans (hb.mono B5.out.size)
  clear hb S5 B5 C5
  go_wp2_with (first
    | (go_at_call 11; refine (flows_nil _).mono ?_; rintro e w9 ⟨rfl, hw9⟩; rw [hw9]; clear hw9)
    | fail)
  go_ret
  exact ⟨rfl, B6.out⟩
end Go.Proofs.YtnahhmcmahbnkaaGreatDoor
