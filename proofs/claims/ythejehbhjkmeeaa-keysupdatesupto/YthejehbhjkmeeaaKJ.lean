/- kept: the walk. Conditions: keys and rows can be read. -/
import Derived.Test.YthejehbhjkmeeaaKI
namespace Go.Proofs.Ythejehbhjkmeeaa
open Go.RowKit Go.Maps Go.Sort
theorem info13 {R : Array Value} (h : R.size = 13) : (Try.prog.info? 47).map (·.size) = some R.size := by rw [h]; exact size13
theorem fr_below {mb : Nat} {w wr wr' : World} (hb : Below w.heap.size w wr) (h : Fr mb wr wr') (hm : w.heap.size ≤ mb) : Below w.heap.size w wr' := hb.trans (h.below.mono hm)
theorem wpList_append_run {ops : Array Oper} {rest : List Oper} {op : Oper} {a : Act} {w w' : World} {Q : Exit → Act → World → Prop} (hgd : op.guard = none) (s x : Operand) (t : TypeId) (ho : op.op = Op.call { callee := Callee.builtin Builtin.append, args := #[s, x], argTypes := #[t, t] })
    (sv xv : Value) (hs : a.eval s = sv) (hx : a.eval x = xv) (v : Value) (hr : (Builtin.append_ #[t, t] op.type #[sv, xv]).run Try.prog w = .ok v w')
    (h : wpList Try.prog ops Q rest (a.put op.dst v) w') : wpList Try.prog ops Q (op :: rest) a w := by
  refine wpList_plain hgd fun K hK => ?_
  unfold Oper.wp
  simp [execOp, ho, resolve, invoke, builtin, hs, hx, hr, Result.andThen]
  exact hK _ _ h
theorem own_base {w : World} {base base' : Nat} {e : TypeId} {k : Nat} {v : Value} {n : Nat} {xs : List Value} (h : w.ownsRow base e k v n xs) (hb : base' ≤ base) : w.ownsRow base' e k v n xs := by
  refine ⟨h.1, ?_⟩
  rcases h.2 with h' | ⟨g, cap, cur, e1, e2, e3⟩
  · exact .inl h'
  · exact .inr ⟨g, cap, cur, e1, Nat.le_trans hb e2, e3⟩
theorem own_strs {w : World} {base : Nat} {v : Value} {m : Nat} {N : List ByteArray} (h : w.ownsRow base 9 1 v m (N.map Value.string)) : ∃ a c, v = .slice a m c ∧ ∀ i nm, N[i]? = some nm → ∃ g, a = some ⟨g, 0, none⟩ ∧ w.cell? ⟨g, i, none⟩ = some (.string nm) ∧ g < w.heap.size := by
  have hlen : N.length = m := by have := h.1; simpa using this
  rcases h.2 with ⟨h0, h1⟩ | ⟨g, cap, cur, e1, hb, hcells, hnc, _, hsz, htk⟩
  · refine ⟨none, 0, by rw [h0, h1], fun i nm hi => ?_⟩
    have := (List.getElem?_eq_some_iff.1 hi).1
    omega
  · refine ⟨some ⟨g, 0, none⟩, cap, e1, fun i nm hi => ⟨g, rfl, ?_, lt_of_heap hcells⟩⟩
    subst e1
    have hi' := (List.getElem?_eq_some_iff.1 hi).1
    have := h.cellAt i (by omega)
    rw [this]; simp [hi]
theorem srt_cells {N : List ByteArray} {ss : List (List UInt8)} (h : ss.Perm (N.map (·.data.toList))) : (ss.mergeSort (fun x y => decide (x ≤ y))).map encStr = (srt N).map Value.string := by
  rw [show ss.mergeSort (fun x y => decide (x ≤ y)) = (N.map (·.data.toList)).mergeSort leB from mergeSort_of_perm h]
  simp [srt, Function.comp_def]
/-- The names that were sorted, in memory. -/
structure Srtd (w : World) (a : Option Addr) (N : List ByteArray) : Prop where
  at_ : ∀ i nm, N[i]? = some nm → ∃ g, a = some ⟨g, 0, none⟩ ∧ w.cell? ⟨g, i, none⟩ = some (.string nm) ∧ g < w.heap.size
theorem names_short {kind : Int} {w : World} {b : Nat} {f : ByteArray → Int} {rs : List Rw} (h : SMap w b (namesOf kind rs) f) : ∀ nm ∈ namesOf kind rs, nm.size ≤ maxLen := by
  obtain ⟨l, c, _, _, _, _, _, h6⟩ := h
  exact h6
set_option maxRecDepth 20000 in
set_option maxHeartbeats 4000000 in
theorem kept_any (a : Option Addr) (n c : Nat) (ks : List Ky) (a2 : Option Addr) (n2 c2 : Nat) (rs : List Rw) (kind : Int) (w : World) (hK : KS w a n ks) (hR : RS w a2 n2 rs) :
    Calls Try.prog 19 #[.slice a n c, .slice a2 n2 c2, .int .i64 kind] w fun e w' => ∃ v, e = .returned v ∧ w'.ownsRow w.heap.size 37 2 v (keptS ks kind rs).length (rowK (keptS ks kind rs)) ∧ Below w.heap.size w w' := by
  have hl := hK.len
  have hr := hK.room
  have hl2 := hR.len
  have hr2 := hR.room
  have HK : Hid _ := hK
  have HR : Hid _ := hR
  clear hK hR
  have hmm := @run_makeMap Try.prog
  go_enter Try.func19, Try.ntmps19
  go_wp2_with fail
  go_loopw [20] (fun i wr => ∃ k : Nat, k ≤ n2 ∧ i = .int .i64 k ∧ Hid (SMap wr w.heap.size (namesOf kind (rs.take k)) (fun _ => 0)) ∧ Hid (Below w.heap.size w wr)) (fun i _ => n2 - (intOf i).toNat)
  case atStart => exact ⟨0, by omega, rfl, SMap.new _ (heap_alloc_new _ _), below1 _ _⟩
  case round =>
    obtain ⟨k, hk, rfl, HM, HB⟩ := hrel
    by_cases hlt : k < n2
    · have hkI : (k : Int) < n2 := by omega
      obtain ⟨o, ho⟩ := getK (os := rs) (k := k) (by omega)
      obtain ⟨b, off, rfl, hrg, hok, hbl⟩ := (HR.out.below HB.out).at ho
      have HRG : Hid _ := hrg
      obtain ⟨R, hRE⟩ : ∃ R, o.cs.toArray = R := ⟨_, rfl⟩
      have hR0 : R[0]? = some (.int .i64 o.k) := by rw [← hRE]; simpa using hok.kind
      have hR1 : R[1]? = some (.string o.n) := by rw [← hRE]; simpa using hok.name
      have HRS : Hid (R.size = 13) := by show _ = _; rw [← hRE]; simpa using hok.len
      have HRO : Hid (R.all (·.oneCell') = true) := by
        show _ = _
        rw [Array.all_eq_true_iff_forall_mem, ← hRE]
        intro x hx
        exact hok.one x (by simpa using hx)
      have d0 : (wr.alloc (.cells R 47)).cell? ⟨wr.heap.size, 0, none⟩ = some (.int .i64 o.k) := (cell_row (heap_alloc_new _ _) 0).trans hR0
      have d1 : (wr.alloc (.cells R 47)).cell? ⟨wr.heap.size, 1, none⟩ = some (.string o.n) := (cell_row (heap_alloc_new _ _) 1).trans hR1
      have HRE : Hid _ := hRE
      have HLEN : Hid _ := hok.len
      have HSN : Hid (namesOf kind (rs.take (k + 1)) = if o.k = kind then addN (namesOf kind (rs.take k)) o.n else namesOf kind (rs.take k)) := by show _ = _; rw [take_snoc ho, namesOf_snoc]
      have HM2 : Hid (SMap (wr.alloc (.cells R 47)) w.heap.size (namesOf kind (rs.take k)) (fun _ => 0)) := HM.out.below (below1 _ _)
      have HB2 : Hid (Below w.heap.size w (wr.alloc (.cells R 47))) := HB.out.trans ((below1 _ _).mono HB.out.size)
      have hsh := hok.short
      clear hrg hok hRE hR0 hR1 ho
      by_cases hkd : o.k = kind
      · obtain ⟨w3, hput, hS3, hF3⟩ := HM2.out.put o.n 0 hsh
        have HS3 : Hid (SMap w3 w.heap.size (namesOf kind (rs.take (k + 1))) (fun _ => 0)) := by
          show SMap _ _ _ _
          rw [HSN.out, if_pos hkd, ← upF_zero o.n]; exact hS3
        have HB3 : Hid (Below w.heap.size w w3) := fr_below HB2.out hF3 (Nat.le_refl _)
        have he : (o.k == kind) = true := by simp [hkd]
        clear hS3 hF3 hkd HSN
        generalize o.n = on at *
        generalize o.k = ok at *
        go_wp2_with (first
          | (refine wpList_load_mid rfl 47 _ rfl b (off + k * 13) rfl o.cs _ HRG.out Try.underlying47 rfl (by rw [HLEN.out]; exact size13) ?_; rw [HRE.out])
          | refine wpList_store_new rfl 47 _ _ rfl _ R wr.heap.size rfl rfl rfl (info13 HRS.out) (Eq.trans (b := 13) rfl HRS.out.symm) HRO.out ?_
          | fail)
        go_roundw
        case rel => exact ⟨k + 1, by omega, by go_num, HS3, HB3⟩
        case measure => simp [intOf]; omega
      · have HS3 : Hid (SMap (wr.alloc (.cells R 47)) w.heap.size (namesOf kind (rs.take (k + 1))) (fun _ => 0)) := by
          show SMap _ _ _ _
          rw [HSN.out, if_neg hkd]; exact HM2.out
        have he : (o.k == kind) = false := by simp [hkd]
        clear hkd HSN
        generalize o.n = on at *
        generalize o.k = ok at *
        go_wp2_with (first
          | (refine wpList_load_mid rfl 47 _ rfl b (off + k * 13) rfl o.cs _ HRG.out Try.underlying47 rfl (by rw [HLEN.out]; exact size13) ?_; rw [HRE.out])
          | refine wpList_store_new rfl 47 _ _ rfl _ R wr.heap.size rfl rfl rfl (info13 HRS.out) (Eq.trans (b := 13) rfl HRS.out.symm) HRO.out ?_
          | fail)
        go_roundw
        case rel => exact ⟨k + 1, by omega, by go_num, HS3, HB2⟩
        case measure => simp [intOf]; omega
    · obtain rfl : k = n2 := by omega
      have HD : Hid (SMap wr w.heap.size (namesOf kind rs) (valL (namesOf kind rs) (ks.take 0))) := by
        show SMap _ _ _ _
        have := HM.out
        rw [List.take_of_length_le (by omega)] at this
        exact this
      clear HM
      go_wp2_with fail
      rename World => wo
      go_loopw [34] (fun i wr => ∃ k : Nat, k ≤ n ∧ i = .int .i64 k ∧ Hid (SMap wr w.heap.size (namesOf kind rs) (valL (namesOf kind rs) (ks.take k))) ∧ Hid (Below w.heap.size w wr)) (fun i _ => n - (intOf i).toNat)
      case atStart => exact ⟨0, by omega, rfl, HD, HB⟩
      case round =>
        obtain ⟨k, hk, rfl, HM, HB⟩ := hrel
        by_cases hlt : k < n
        · have hkI : (k : Int) < n := by omega
          obtain ⟨o, ho⟩ := getK (os := ks) (k := k) (by omega)
          obtain ⟨b, off, rfl, c0, c1, hbl⟩ := (HK.out.below HB.out).at ho
          have HSN : Hid (valL (namesOf kind rs) (ks.take (k + 1)) = if o.n ∈ namesOf kind rs then upF (valL (namesOf kind rs) (ks.take k)) o.n o.v else valL (namesOf kind rs) (ks.take k)) := by show _ = _; rw [take_snoc ho, valL_snoc]
          have HM2 : Hid (SMap (wr.alloc (.cells #[.string o.n, .int .i64 o.v] 37)) w.heap.size (namesOf kind rs) (valL (namesOf kind rs) (ks.take k))) := HM.out.below (below1 _ _)
          have HB2 : Hid (Below w.heap.size w (wr.alloc (.cells #[.string o.n, .int .i64 o.v] 37))) := HB.out.trans ((below1 _ _).mono HB.out.size)
          have hlk := HM2.out.look o.n
          have hsh := HK.out.short o (List.mem_of_getElem? ho)
          clear ho
          by_cases hmem : o.n ∈ namesOf kind rs
          · obtain ⟨w3, hput, hS3, hF3⟩ := HM2.out.put o.n o.v hsh
            have HS3 : Hid (SMap w3 w.heap.size (namesOf kind rs) (valL (namesOf kind rs) (ks.take (k + 1)))) := by
              show SMap _ _ _ _
              rw [HSN.out, if_pos hmem]
              unfold addN at hS3
              rw [if_pos hmem] at hS3
              exact hS3
            have HB3 : Hid (Below w.heap.size w w3) := fr_below HB2.out hF3 (Nat.le_refl _)
            rw [if_pos hmem, decide_eq_true hmem] at hlk
            clear hS3 hF3 hmem HSN
            generalize hfv : valL (namesOf kind rs) (ks.take k) o.n = fv at *
            generalize o.n = on at *
            generalize o.v = ov at *
            clear hfv
            go_wp2
            go_roundw
            case rel => exact ⟨k + 1, by omega, by go_num, HS3, HB3⟩
            case measure => simp [intOf]; omega
          · have HS3 : Hid (SMap (wr.alloc (.cells #[.string o.n, .int .i64 o.v] 37)) w.heap.size (namesOf kind rs) (valL (namesOf kind rs) (ks.take (k + 1)))) := by
              show SMap _ _ _ _
              rw [HSN.out, if_neg hmem]
              exact HM2.out
            rw [if_neg hmem, decide_eq_false hmem] at hlk
            clear hmem HSN
            generalize o.n = on at *
            generalize o.v = ov at *
            go_wp2
            go_roundw
            case rel => exact ⟨k + 1, by omega, by go_num, HS3, HB2⟩
            case measure => simp [intOf]; omega
        · obtain rfl : k = n := by omega
          have HD2 : Hid (SMap wr w.heap.size (namesOf kind rs) (valL (namesOf kind rs) ks)) := by
            show SMap _ _ _ _
            have := HM.out
            rw [List.take_of_length_le (by omega)] at this
            exact this
          clear HM HD
          have hdl := namesOf_len kind rs
          obtain ⟨D0, hown, hperm, hsize⟩ := HD2.out.keys (by unfold maxLen; omega)
          have HOWN : Hid _ := hown
          have HPERM : Hid _ := hperm
          have HSZ : Hid _ := hsize
          clear hown hperm hsize
          go_wp2_with (first
            | (go_at_call 27; refine (mapsKeys_any _ _).mono ?_; rintro e W3 ⟨rfl, rfl⟩)
            | fail)
          refine (sorted_keys _ _ D0 _ wr HOWN.out (by rw [HSZ.out]; unfold maxLen; omega) (by rw [HSZ.out]; omega)).mono ?_
          rintro e W4 ⟨v4, ss, rfl, hS4, hrow4, hnil4, hb4⟩
          rw [srt_cells (hS4.trans HPERM.out)] at hrow4
          have hlen4 : ss.length = (namesOf kind rs).length := by have := hS4.trans HPERM.out; simpa using this.length_eq
          rw [hlen4] at hrow4
          obtain ⟨a4, c4, rfl, hat4⟩ := own_strs hrow4
          have HSR : Hid (Srtd W4 a4 (srt (namesOf kind rs))) := ⟨hat4⟩
          have hbW : Below wr.heap.size wr W4 := (below1 _ _).trans (hb4.mono (by simp))
          have HBW : Hid (Below w.heap.size w W4) := HB.out.trans (hbW.mono HB.out.size)
          have HM4 : Hid (SMap W4 w.heap.size (namesOf kind rs) (valL (namesOf kind rs) ks)) := HD2.out.below hbW
          obtain ⟨m, hm⟩ : ∃ m, (namesOf kind rs).length = m := ⟨_, rfl⟩
          have HML : Hid _ := hm
          rw [hm] at hdl
          rw [hm]
          clear hS4 hrow4 hnil4 hb4 hat4 hbW hlen4 HOWN HPERM HSZ HD2 hm
          have HSH : Hid _ := names_short HM4.out
          go_wp2_with fail
          go_loopw [14, 56] (fun out i wr => ∃ (k : Nat) (a' : Option Addr) (c' : Nat), k ≤ m ∧ i = .int .i64 k ∧ out = .slice a' k c' ∧ Hid (wr.ownsRow W4.heap.size 37 2 (.slice a' k c') ((keptS ks kind rs).take k).length (rowK ((keptS ks kind rs).take k))) ∧ Hid (Below W4.heap.size W4 wr)) (fun _ i _ => m - (intOf i).toNat)
          case atStart => exact ⟨0, none, 0, by omega, rfl, rfl, ⟨by simp [rowK], .inl ⟨rfl, by simp⟩⟩, Below.refl _ _⟩
          case round =>
            obtain ⟨k, a', c', hk, rfl, rfl, HOW, HBL⟩ := hrel
            have hkl : (keptS ks kind rs).length = m := by unfold keptS; rw [List.length_map, srt_length]; exact HML.out
            by_cases hlt : k < m
            · have hkI : (k : Int) < m := by omega
              have hsl : (srt (namesOf kind rs)).length = m := by rw [srt_length]; exact HML.out
              obtain ⟨nm, hnm⟩ := getK (os := srt (namesOf kind rs)) (k := k) (by omega)
              obtain ⟨g, rfl, c0, hg⟩ := HSR.out.at_ k nm hnm
              have c1 := (HBL.out.cell (p := ⟨g, k, none⟩) hg).trans c0
              have hmem : nm ∈ namesOf kind rs := srt_mem.1 (List.mem_of_getElem? hnm)
              have hlk := (HM4.out.below HBL.out).look1 hmem
              have hgk : (keptS ks kind rs)[k]? = some ⟨nm, valL (namesOf kind rs) ks nm⟩ := by unfold keptS; rw [List.getElem?_map, hnm]; rfl
              have hsh := HSH.out nm hmem
              obtain ⟨fv, hfv⟩ : ∃ fv, valL (namesOf kind rs) ks nm = fv := ⟨_, rfl⟩
              rw [hfv] at hlk hgk
              have HTK : Hid ((keptS ks kind rs).take (k + 1) = (keptS ks kind rs).take k ++ [⟨nm, fv⟩]) := take_snoc hgk
              have hx1 := own_below HOW.out (below1 wr (.cells #[.string nm, .int .i64 fv] 37))
              have htl : ((keptS ks kind rs).take k).length = k := by rw [List.length_take]; omega
              obtain ⟨a5, c5, w5, hap, hrow5, hgr5⟩ := run_append_ks _ W4.heap.size _ _ hx1 _ 1 1 [⟨nm, fv⟩] (ks_one wr ⟨nm, fv⟩ hsh) (by rw [htl]; omega) (by have := HBL.out.size; simp; omega)
              rw [htl] at hap
              have HR5 : Hid (w5.ownsRow W4.heap.size 37 2 (.slice a5 (k + 1) c5) ((keptS ks kind rs).take (k + 1)).length (rowK ((keptS ks kind rs).take (k + 1)))) := by
                show World.ownsRow _ _ _ _ _ _ _
                rw [HTK.out]; rw [htl] at hrow5; exact hrow5
              have HB5 : Hid (Below W4.heap.size W4 w5) := (HBL.out.alloc HBL.out.size _).grown hgr5 (by have := HBL.out.size; simp; omega) (fun q hq => (World.ownsRow.lt hx1 q hq).1)
              have HAP : Hid _ := hap
              clear hnm c0 hmem hgk hfv hx1 hrow5 hgr5 HTK hsl htl hap
              go_wp2_with (first
                | (at_builtin; refine wpList_append_run rfl _ _ 22 rfl _ _ rfl rfl _ HAP.out ?_)
                | fail)
              go_roundw
              case rel => exact ⟨k + 1, a5, c5, by omega, by go_num, rfl, HR5, HB5⟩
              case measure => simp [intOf]; omega
            · obtain rfl : k = m := by omega
              have HFIN : Hid (wr.ownsRow w.heap.size 37 2 (.slice a' k c') (keptS ks kind rs).length (rowK (keptS ks kind rs))) := by
                show World.ownsRow _ _ _ _ _ _ _
                have := HOW.out
                rw [List.take_of_length_le (by omega)] at this
                exact own_base this HBW.out.size
              go_wp2
              go_ret
              exact ⟨_, rfl, HFIN.out, HBW.out.trans (HBL.out.mono HBW.out.size)⟩
end Go.Proofs.Ythejehbhjkmeeaa
