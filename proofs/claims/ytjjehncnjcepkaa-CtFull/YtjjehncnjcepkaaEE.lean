/- Drop of a zone: the walk. Conditions: as said. -/
import Derived.Test.YtjjehncnjcepkaaED
import Derived.Lib.Hide
namespace Go.Proofs.Ytjjehncnjcepkaa
open Go.RowKit
open Go.ChangeMaps (setBlock)
set_option linter.unusedSimpArgs false in
set_option maxRecDepth 20000 in
set_option maxHeartbeats 4000000 in
theorem drop_any {w : World} {tb zb qg qc : Nat} {room z : Int} {Q : Array Value} {E : List Nat} {O : Nat → Tup} {g1 g2 zs cz c1 : Nat} {l1 : List (Tup × Value × Nat)} (h : QB w tb zb qg qc room 0 Q E z O 30)
    (hz : w.heap[zb]? = some (.map (entG iv [(z, .agg #[.map (some g1), .map (some g2)], zs)]).toArray cz)) (h1 : w.heap[g1]? = some (.map (entG tv l1).toArray c1)) (hgz : g1 ≠ zb) (hborn : ∀ x ∈ l1, x.2.2 < c1) (hnb : (l1.map (·.2.2)).Nodup)
    (hptr : ∀ x ∈ l1, ∃ e ∈ E, x.2.1 = .pointer (some ⟨e, 0, none⟩)) (hv : ∀ a ∈ l1, ∀ b ∈ l1, a.2.1 = b.2.1 → a.2.2 = b.2.2) :
    Calls Try.prog 11 #[.pointer (some ⟨tb, 0, none⟩), .int .i64 z] w fun x w' => x = .returned (.int .i64 l1.length) ∧ (∃ q, w'.heap[tb]? = some (.cells (tabV room 0 zb q) 65 (0, 0))) ∧ w'.heap[zb]? = some (.map (entG iv []).toArray cz) ∧ ∀ B, B ≤ w.heap.size → B ≤ tb → B ≤ qg → B ≤ zb → (∀ x ∈ E, B ≤ x) → Below B w w' := by
  have H : Hid _ := h
  have HM : Hid _ := isMade_any tb zb room 0 _ w h.t
  have c2 : w.cell? ⟨tb, 2, none⟩ = some (.map (some zb)) := cell_row h.t 2
  have hlk : (Instr.lookup 61 (.map (some zb)) (iv z) false).run Try.prog w = .ok (.agg #[.map (some g1), .map (some g2)]) w := by
    have := look_any intK Try.underlying61 (.agg #[.map none, .map none]) zero_zone hz z
    simpa [findG] using this
  unfold iv at hlk
  have hfz := field_zone
  have hrg := run_range_map (P := Try.prog) w 58 _ _ g1 _ c1 Try.underlying58 h1
  have D0 : DR w (w.alloc (.mapIter (some g1) c1 #[] c1)) tb zb qg qc room z E O w.heap.size g1 g2 zs cz c1 l1 #[] := by
    have o : ∀ {k : Nat} {x : Obj}, w.heap[k]? = some x → (w.alloc (.mapIter (some g1) c1 #[] c1)).heap[k]? = some x := fun {k x} hk => (heap_alloc_old w _ (lt_of_heap hk)).trans hk
    exact ⟨heap_alloc_new w _, o h1, o hz, ⟨Q, E, ⟨o h.t, o h.q, h.cap, h.room, h.row, fun i e hi => o (h.en i e hi)⟩, fun x hx _ => hptr x hx, fun x hx => hx⟩, fun B b _ _ _ => (below1 w _).mono b, by simp⟩
  have HD0 : Hid _ := D0
  have HB : Hid _ := hborn
  have HN : Hid _ := hnb
  have HV : Hid _ := hv
  clear h hz h1 hborn hnb hptr hv D0
  go_enter Try.func11, Try.ntmps11
  go_wp2_with fail
  refine Calls.mono HM.out ?_
  rintro x W1 ⟨rfl, hW1⟩
  rw [hW1]
  clear hW1 HM
  go_wp2_with fail
  clear hrg hlk c2
  go_loopw [7] (fun _ wr => ∃ seen, DR w wr tb zb qg qc room z E O w.heap.size g1 g2 zs cz c1 l1 seen) (fun _ wr => wr.rangeLeft g1 w.heap.size)
  case atStart => exact ⟨_, HD0.out⟩
  case round =>
    obtain ⟨seen, hd⟩ := hrel
    have HDL : Hid _ := hd.left
    have HDR : Hid _ := hd
    rcases hd.step HB.out HN.out (Nat.le_refl _) 0 with hn | ⟨x, hx, e, W, hxe, hs, hn, hen, hdW, hlt, QQ, EE, q1, q2, q3⟩
    · obtain ⟨Q9, E9, q9, _, _⟩ := hd.qb
      have c2 : wr.cell? ⟨tb, 2, none⟩ = some (.map (some zb)) := cell_row q9.t 2
      have Q9 : Hid _ := q9
      have hdel := del_one intK Try.underlying61 (l := [(z, .agg #[.map (some g1), .map (some g2)], zs)]) (c := cz) hd.zm z (i := 0) (v := .agg #[.map (some g1), .map (some g2)]) (by simp [findG]) 0 #[61, 3] rfl
      obtain ⟨wd, hwd⟩ : ∃ wd, wd = putObj wr zb (.map (entG iv ([(z, Value.agg #[.map (some g1), .map (some g2)], zs)].eraseIdx 0)).toArray cz) := ⟨_, rfl⟩
      rw [← hwd] at hdel
      unfold iv at hdel
      have ntz : tb ≠ zb := ne_map q9.t hd.zm
      have wt : wd.heap[tb]? = some (.cells (tabV room 0 zb (.slice (some ⟨qg, 0, none⟩) E9.length qc)) 65 (0, 0)) := by rw [hwd]; exact (putObj_other _ ntz _).trans q9.t
      have wz : wd.heap[zb]? = some (.map (entG iv []).toArray cz) := by rw [hwd]; exact putObj_same (lt_of_heap hd.zm) _
      have w1 : wd.heap[g1]? = some (.map (entG tv l1).toArray c1) := by
        rw [hwd, putObj_other _ hgz]; exact hd.m1
      have wb : ∀ B, B ≤ w.heap.size → B ≤ tb → B ≤ qg → B ≤ zb → (∀ x ∈ E, B ≤ x) → Below B w wd := fun B b1 b2 b3 b4 b5 => by rw [hwd]; exact (hd.low B b1 b2 b3 b5).trans ((putObj_below wr zb _).mono b4)
      have hlen := len_some w1
      have WT : Hid _ := wt
      have WZ : Hid _ := wz
      have WB : Hid _ := wb
      clear hd q9 hwd wt wz w1 wb
      go_wp2
      go_ret
      exact ⟨rfl, ⟨_, WT.out⟩, WZ.out, WB.out⟩
    · have HQ : Hid _ := q1
      have HW : Hid _ := hdW
      have HL : Hid _ := hlt
      have HC := Lib.hid (qremove_eq q1 (e := e) (by obtain ⟨e', he', hq⟩ := q2 x hx hs; rw [hxe] at hq; cases hq; exact he'))
      have H2 : Hid _ := q2
      have H3 : Hid _ := q3
      have HX : Hid _ := hx
      have HXE : Hid _ := hxe
      clear hd hdW hlt q1 q2 q3 hx hxe hs
      go_wp2_with fail
      refine Calls.mono HC.out ?_
      rintro y W2 ⟨rfl, hw2⟩
      have HR : Hid _ := hw2
      clear hw2 HC hn hen
      go_wp2
      go_roundw
      case rel => exact ⟨_, HW.out.next HQ.out H2.out H3.out HX.out HXE.out HV.out HR.out⟩
      case measure =>
        rw [(HW.out.next HQ.out H2.out H3.out HX.out HXE.out HV.out HR.out).left, HDL.out]
        exact HL.out
theorem del_none {K : Type} [DecidableEq K] {KT MT ET : TypeId} {kv : K → Value} (hK : KeyK KT kv) (hu : Try.prog.underlying MT = some (.map KT ET)) {w : World} {r c : Nat} {l : List (K × Value × Nat)} (hb : w.heap[r]? = some (.map (entG kv l).toArray c)) (t : K) (hf : findG t l 0 = none) (ty : TypeId) (ats : Array TypeId) (ha : ats[0]? = some MT) :
    (Builtin.delete_ ats ty #[.map (some r), kv t]).run Try.prog w = .ok (.tuple #[]) w := by
  simp only [Builtin.delete_, ha, List.getElem?_toArray, List.getElem?_cons_zero, List.getElem?_cons_succ, Sem.run_bind, run_underlying hu, Result.andThen_ok, MapKept.run_getObj_map hb, hK.check, hK.find, hf, MapKept.run_setObj_map _ hb, Sem.run_pure]
  have e9 : w.heap.setIfInBounds r (.map (entG kv l).toArray c) = w.heap := by
    have hv := (Array.getElem?_eq_some_iff.1 hb).2
    apply Array.ext_getElem?; intro i; rw [← hv]; by_cases hi : i = r
    · subst hi; rw [Array.getElem?_setIfInBounds_self_of_lt (lt_of_heap hb)]; exact (Array.getElem?_eq_getElem _).symm
    · exact Array.getElem?_setIfInBounds_ne (Ne.symm hi)
  simp [e9]
set_option linter.unusedSimpArgs false in
set_option maxRecDepth 20000 in
set_option maxHeartbeats 4000000 in
theorem drop_empty {w : World} {tb zb cz : Nat} {room z : Int} {q : Value} {l : List (Int × Value × Nat)} (h : w.heap[tb]? = some (.cells (tabV room 0 zb q) 65 (0, 0))) (hz : w.heap[zb]? = some (.map (entG iv l).toArray cz)) (hf : findG z l 0 = none) :
    Calls Try.prog 11 #[.pointer (some ⟨tb, 0, none⟩), .int .i64 z] w fun x w' => x = .returned (.int .i64 0) ∧ Below w.heap.size w w' := by
  have HM : Hid _ := isMade_any tb zb room 0 _ w h
  have c2 : w.cell? ⟨tb, 2, none⟩ = some (.map (some zb)) := cell_row h 2
  have hlk : (Instr.lookup 61 (.map (some zb)) (iv z) false).run Try.prog w = .ok (.agg #[.map none, .map none]) w := by
    have := look_any intK Try.underlying61 (.agg #[.map none, .map none]) zero_zone hz z
    simpa [hf] using this
  unfold iv at hlk
  have hfz := field_zone
  have hrg := run_range_nilMap (P := Try.prog) w 58 _ _ Try.underlying58
  have hnx : ∀ ty, (Instr.next (.pointer (some ⟨w.heap.size, 0, none⟩)) false ty).run Try.prog (w.alloc (.mapIter none 0 #[] 0)) = _ := fun ty => run_next_nilMap w ty 0 0 #[]
  have hdel := del_none intK Try.underlying61 (w := w.alloc (.mapIter none 0 #[] 0)) ((heap_alloc_old w _ (lt_of_heap hz)).trans hz) z hf 0 #[61, 3] rfl
  unfold iv at hdel
  have hln := len_none
  have c2' : (w.alloc (.mapIter none 0 #[] 0)).cell? ⟨tb, 2, none⟩ = some (.map (some zb)) := cell_row ((heap_alloc_old w _ (lt_of_heap h)).trans h) 2
  have hb := below1 w (.mapIter none 0 #[] 0)
  have hlt := lt_of_heap h
  clear h hz
  go_enter Try.func11, Try.ntmps11
  go_wp2_with fail
  refine Calls.mono HM.out ?_
  rintro x W1 ⟨rfl, hW1⟩
  rw [hW1]
  clear hW1 HM
  go_wp2_with fail
  refine wp_loop_rounds 1 ?_
  rw [rounds_succ]
  go_wp2
  go_ret
  exact ⟨rfl, hb⟩
end Go.Proofs.Ytjjehncnjcepkaa
