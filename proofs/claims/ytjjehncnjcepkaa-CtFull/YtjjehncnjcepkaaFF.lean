/- All of a zone. Conditions: as said. -/
import Derived.Test.YtjjehncnjcepkaaFE
import Derived.Maps.AppendAt
import Derived.Deep.MidRow
import Derived.Lib.Hide
namespace Go.Proofs.Ytjjehncnjcepkaa
open Go.RowKit
open Go.ChangeMaps (setBlock)
/-- The answer of All: a slice with these connections, in their order. -/
def CR (w : World) (z : Int) (a : Option Addr) (L : List Tup) : Prop := L = [] ∨ ∃ g, a = some ⟨g, 0, none⟩ ∧ g < w.heap.size ∧ w.rangeAt g 0 (rowC z L)
theorem run_listc (z : Int) (t : Tup) (w : World) : (Instr.buildSlice 28 1 #[(0, .agg (connC z t (turn t) false 30))]).run Try.prog w = .ok (.slice (some ⟨w.heap.size, 0, none⟩) 1 1) (w.alloc (.cells (connC z t (turn t) false 30) 51)) := by
  kernel_rfl
theorem wpList_buildc {ops : Array Oper} {rest : List Oper} {op : Oper} {a : Act} {w : World} {Q : Exit → Act → World → Prop} (hgd : op.guard = none) (x : Operand) (ho : op.op = .buildSlice 28 1 #[(0, x)])
    (A : Array Value) (hx : a.eval x = .agg A) (hb : (Instr.buildSlice 28 1 #[(0, .agg A)]).run Try.prog w = .ok (.slice (some ⟨w.heap.size, 0, none⟩) 1 1) (w.alloc (.cells A 51)))
    (h : wpList Try.prog ops Q rest (a.put op.dst (.slice (some ⟨w.heap.size, 0, none⟩) 1 1)) (w.alloc (.cells A 51))) : wpList Try.prog ops Q (op :: rest) a w := by
  refine wpList_plain hgd fun K hK => ?_
  unfold Oper.wp execOp
  simp only [ho, List.map_toArray, List.map_cons, List.map_nil, hx, Sem.run_bind, hb, Result.andThen_ok]
  exact hK _ _ h
theorem infoCn : (Try.prog.info? 51).map (·.size) = some 13 := by kernel_rfl
theorem ent_rng {w : World} {e : Nat} {z : Int} {t : Tup} {i : Int} (h : w.heap[e]? = some (.cells (entC z t (turn t) false 30 i) 68 (0, 0))) : w.rangeAt e 0 (connC z t (turn t) false 30).toList := by
  have := World.rangeAt_of_block h 0 13
  exact this
theorem own_sl {w : World} {B : Nat} {e : TypeId} {s : Nat} {v : Value} {n : Nat} {xs : List Value} (h : w.ownsRow B e s v n xs) : ∃ a c, v = .slice a n c := by
  rcases h.2 with ⟨e, rfl⟩ | ⟨g, cap, cur, e, _⟩
  · exact ⟨none, 0, e⟩
  · exact ⟨_, _, e⟩
theorem rowC_one1 (z : Int) (t : Tup) : rowC z [t] = encT z t := by simp [rowC]
theorem rows9_fst (f : Nat → Tup) : ∀ (E : List Nat) (i : Nat), (rows9 f E i).map (·.1) = E.map f
  | [], _ => rfl
  | _ :: r, i => by simp [rows9, rows9_fst f r (i + 1)]
set_option linter.unusedSimpArgs false in
set_option maxRecDepth 20000 in
set_option maxHeartbeats 4000000 in
theorem tz_all {w : World} {B tb zb : Nat} {room z : Int} {q : Value} {E : List Nat} {O : Nat → Tup} {g1 g2 zs cz : Nat} (h : TZ w B tb zb room q E z O g1 g2 zs cz) :
    Calls Try.prog 7 #[.pointer (some ⟨tb, 0, none⟩), .int .i64 z] w fun x w' => ∃ a c, x = .returned (.slice a E.length c) ∧ CR w' z a (srtT (E.map O)) ∧ Below w.heap.size w w' := by
  have ht := h.qs.t
  have HM : Hid _ := isMade_any tb zb room 0 _ w ht
  have c2 : w.cell? ⟨tb, 2, none⟩ = some (.map (some zb)) := cell_row ht 2
  have hlk : (Instr.lookup 61 (.map (some zb)) (iv z) false).run Try.prog w = .ok (.agg #[.map (some g1), .map (some g2)]) w := by
    have := look_any intK Try.underlying61 (.agg #[.map none, .map none]) zero_zone h.zm z
    simpa [findG] using this
  unfold iv at hlk
  have hfz := field_zone
  have hrg := run_range_map (P := Try.prog) w 58 _ _ g1 _ E.length Try.underlying58 h.m1
  obtain ⟨l1, hl1⟩ : ∃ l1, rows9 O E 0 = l1 := ⟨_, rfl⟩
  obtain ⟨c1, hc1⟩ : ∃ c1, E.length = c1 := ⟨_, rfl⟩
  have hm1 : w.heap[g1]? = some (.map (entG tv l1).toArray c1) := by rw [← hl1, ← hc1]; exact h.m1
  have hborn : ∀ x ∈ l1, x.2.2 < c1 := fun x hx => by
    rw [← hl1] at hx
    obtain ⟨j, y, h1, rfl⟩ := rows9_mem hx
    have := (List.getElem?_eq_some_iff.1 h1).1
    rw [← hc1]; simpa using this
  have hnb : (l1.map (·.2.2)).Nodup := by rw [← hl1, rows9_born]; exact List.nodup_range'
  have hfst : l1.map (·.1) = E.map O := by rw [← hl1]; exact rows9_fst O E 0
  have hent : ∀ x ∈ l1, ∃ e, x.2.1 = .pointer (some ⟨e, 0, none⟩) ∧ ∀ W, Below w.heap.size w W → W.rangeAt e 0 (connC z x.1 (turn x.1) false 30).toList := fun x hx => by
    rw [← hl1] at hx
    obtain ⟨j, y, h1, rfl⟩ := rows9_mem hx
    have he := h.qs.en j y h1
    exact ⟨y, rfl, fun W hW => ent_rng ((hW.block _ (lt_of_heap he)).trans he)⟩
  have hlen9 : E.length ≤ 100000 := h.qs.room
  have hll : l1.length = E.length := by rw [← hl1, rows9_len]
  rw [hc1] at hrg
  obtain ⟨i0, hi, hz0, hz1, hz2⟩ := infoC
  have HL9 : Hid (l1.length ≤ 100000) := by show _ ≤ _; omega
  have D0 : Hid (AR w (w.alloc (.mapIter (some g1) c1 #[] c1)) z E O g1 c1 l1 (.slice none 0 0) [] #[]) :=
    ⟨heap_alloc_new w _, below1 w _, ⟨rfl, .inl ⟨rfl, rfl⟩⟩, by simp, by simp⟩
  have HM1 : Hid _ := hm1
  have HB : Hid _ := hborn
  have HN : Hid _ := hnb
  have HF : Hid _ := hfst
  have HE : Hid _ := hent
  have HCL : Hid (c1 = E.length) := hc1.symm
  have hlw := lt_of_heap hm1
  clear h ht hl1 hc1 hm1 hborn hnb hfst hent hlen9 hll
  go_enter Try.func7, Try.ntmps7
  go_wp2_with fail
  refine Calls.mono HM.out ?_
  rintro x W1 ⟨rfl, hW1⟩
  rw [hW1]
  clear hW1 HM
  go_wp2_with fail
  clear hrg hlk c2
  go_loopw [5, 7] (fun v _ wr => ∃ seen L a c, v = .slice a L.length c ∧ L.length ≤ 100000 ∧ AR w wr z E O g1 c1 l1 (.slice a L.length c) L seen) (fun _ _ wr => wr.rangeLeft g1 w.heap.size)
  case atStart => exact ⟨#[], [], none, 0, rfl, by simp, D0.out⟩
  case round =>
    obtain ⟨seen, L, a, c, rfl, hL9, hd⟩ := hrel
    have HDL : Hid _ := hd.left HM1.out
    rcases hd.step HM1.out HB.out HN.out 0 with ⟨hn, hp⟩ | ⟨x, hx, W, hn, hen, p1, p2, p3, p4, p5, p6⟩
    · have HP : Hid _ := hp
      have HO : Hid _ := hd.own
      have HLW : Hid _ := hd.low
      have hsort : Hid (Calls Try.prog 16 #[.slice a L.length c, .func (.func 17) #[] #[]] wr fun e w' => e = .returned (.tuple #[]) ∧ CR w' z a (srtT L) ∧ Below w.heap.size w w') := by
        show Calls _ _ _ _ _
        rcases hd.own.2 with ⟨e0, h0⟩ | ⟨g, cap, cur, e0, h1, h2, h3⟩
        · simp only [Value.slice.injEq] at e0
          obtain ⟨rfl, _, rfl⟩ := e0
          have hnil : L = [] := List.length_eq_zero_iff.1 h0
          subst hnil
          refine (sort_none wr).mono ?_
          rintro e w' ⟨rfl, rfl⟩
          exact ⟨rfl, .inl (List.length_eq_zero_iff.1 (by rw [srtT_len]; rfl)), HLW.out⟩
        · simp only [Value.slice.injEq] at e0
          obtain ⟨rfl, _, rfl⟩ := e0
          refine (sort_conns z wr (w.heap.size + 1) g _ L hd.own (by omega) (lt_of_heap h2)).mono ?_
          rintro e w' ⟨rfl, h4, h5⟩
          have := h5.size
          exact ⟨rfl, .inr ⟨g, rfl, by have := lt_of_heap h2; omega, h4⟩, HLW.out.trans (h5.mono (by omega))⟩
      have HLL : Hid (L.length = E.length) := by
        show L.length = E.length
        have := hp.length_eq
        rw [HF.out] at this
        simpa using this
      clear hd hp
      go_wp2_with fail
      refine Calls.mono hsort.out ?_
      rintro e W2 ⟨rfl, h1, h2⟩
      have H1 : Hid _ := h1
      have H2 : Hid _ := h2
      clear h1 h2 hsort
      go_wp2
      go_ret
      refine ⟨a, c, by rw [HLL.out]; rfl, ?_, H2.out⟩
      rw [← HF.out, ← srtT_perm HP.out]
      exact H1.out
    · obtain ⟨e, hxe, her⟩ := HE.out x hx
      rw [hxe] at hn hen
      obtain ⟨A, hA⟩ : ∃ A, connC z x.1 (turn x.1) false 30 = A := ⟨_, rfl⟩
      have hAs : A.size = 13 := by rw [← hA]; rfl
      have hAe : encT z x.1 = A.toList := by rw [← hA]; rfl
      have hr := her W p2
      have hls := run_listc z x.1 W
      rw [hA] at hr hls
      obtain ⟨T, hT⟩ : ∃ T, tv x.1 = T := ⟨_, rfl⟩
      rw [hT] at hn hen
      have HR : Hid _ := hr
      have HLS : Hid _ := hls
      have HAS : Hid _ := hAs
      have HAE : Hid _ := hAe
      have HX : Hid _ := hx
      have P1 : Hid _ := p1
      have P2 : Hid _ := p2
      have P3 : Hid _ := p3
      have P4 : Hid _ := p4
      have P5 : Hid _ := p5
      have P6 : Hid _ := p6
      have HOW : Hid _ := World.ownsRow.alloc p3 (.cells A 51)
      have HC1 : Hid (∀ j u, A.toList[j]? = some u → (W.alloc (.cells A 51)).cell? ((⟨W.heap.size, 0, none⟩ : Addr).add j) = some u) := by
        show ∀ j u, _
        intro j u hj
        rw [plain_add3, cell_row (heap_alloc_new _ _), Nat.zero_add, ← Array.getElem?_toList]
        exact hj
      have H1C : Hid (∀ u ∈ A.toList, u.oneCell' = true) := by
        show ∀ u ∈ _, _
        rw [← hAe]
        exact encT_one z x.1
      have HL1 : Hid (L.length + 1 ≤ 100000) := by
        show _ ≤ _
        have h1 := p5.length_eq
        have h2 := List.length_filter_le (fun y : Tup × Value × Nat => (seen.push x.2.2).contains y.2.2) l1
        have h3 := HL9.out
        simp at h1 h2
        omega
      have HLA : Hid (A.toList.length = 1 * 13) := by show _ = _; rw [Array.length_toList, hAs]
      clear hd hr hls hA hAs hAe hx hT p1 p2 p3 p4 p5 p6 her hxe hL9
      have hL1 := HL1.out
      go_wp2_with (first
        | refine wpList_load_mid rfl 51 _ rfl e 0 rfl A.toList _ HR.out Try.underlying51 rfl (by rw [Array.length_toList, HAS.out]; exact infoCn) ?_
        | refine wpList_buildc rfl _ rfl A rfl HLS.out ?_
        | (at_builtin; refine wpList_append_own_at _ rfl _ _ 28 rfl (w.heap.size + 1) 51 i0 _ 13 88 Try.underlying28 hi hz0 hz1 hz2 rfl (by decide) (.slice a L.length c) L.length (rowC z L) rfl HOW.out ⟨W.heap.size, 0, none⟩ 1 1 A.toList rfl HLA.out HC1.out H1C.out (by unfold maxLen; omega) (by omega) (Nat.le_trans P4.out (by simp)) ?_)
        | fail)
      intro v' W1 ho1 hg _ _
      have own1 : W1.ownsRow (w.heap.size + 1) 51 13 v' (L ++ [x.1]).length (rowC z (L ++ [x.1])) := by
        rw [rowC_append, rowC_one1, HAE.out, List.length_append]
        exact ho1
      have own1' := own1
      obtain ⟨a1, c1', rfl⟩ := own_sl own1
      have HOF : Hid _ := own1'
      have HAR : Hid (AR w W1 z E O g1 c1 l1 (.slice a1 (L ++ [x.1]).length c1') (L ++ [x.1]) (seen.push x.2.2)) := by
        have al : ∀ {k : Nat} {o : Obj}, W.heap[k]? = some o → (W.alloc (.cells A 51)).heap[k]? = some o := fun {k o} hk => (heap_alloc_old W _ (lt_of_heap hk)).trans hk
        exact AR.next (al P1.out) (P2.out.alloc P2.out.size _) HOW.out (Nat.le_trans P4.out (by simp)) P5.out own1' hg
      have HLE : Hid ((L ++ [x.1]).length ≤ 100000) := by show _ ≤ _; simpa using hL1
      obtain ⟨L2, hL2⟩ : ∃ L2, L ++ [x.1] = L2 := ⟨_, rfl⟩
      rw [hL2] at HAR HLE
      have hlen2 : L2.length = (L ++ [x.1]).length := by rw [hL2]
      rw [← hlen2]
      clear hlen2 hL2 HOF own1 own1' ho1 hg
      clear hn hen
      go_wp2
      go_roundw
      case rel => exact ⟨_, L2, a1, c1', rfl, HLE.out, HAR.out⟩
      case measure =>
        rw [HAR.out.left HM1.out, HDL.out]
        exact P6.out
end Go.Proofs.Ytjjehncnjcepkaa
