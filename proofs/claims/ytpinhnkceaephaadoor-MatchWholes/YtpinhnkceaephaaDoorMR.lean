/- The reference's term, And, Implies, Meet. Conditions: the terms can be read. -/
import Derived.Test.YtpinhnkceaephaaDoorMQ
namespace Go.Proofs.YtpinhnkceaephaaDoor
open Go.RowKit
theorem look_drop {ts : List Tm} {k : Nat} {t : Tm} {f : Int} (h : ts[k]? = some t) : lv (ts.drop k) f = (if t.f = f then t.v else lv (ts.drop (k + 1)) f) ∧ lm (ts.drop k) f = (if t.f = f then t.m else lm (ts.drop (k + 1)) f) := by
  rw [drop_consT h]; exact ⟨rfl, rfl⟩
set_option maxHeartbeats 1000000 in
set_option maxRecDepth 20000 in
theorem rterm_any (v : Value) (ts : List Tm) (f : Int) (w : World) (h : TV w v ts) : Calls Tryd.prog 22 #[v, .int .i64 f] w fun e w' => e = .returned (.agg #[.int .i64 f, .int .u64 ((lv ts f).toNat : Int), .int .u64 ((lm ts f).toNat : Int)]) ∧ Below w.heap.size w w' := by
  obtain ⟨a, n, c, rfl, hc, h⟩ := h
  have hl := h.len
  have hr := h.room
  have H : Hid _ := h
  clear h
  go_enter Tryd.func22, Tryd.ntmps22
  go_wp2_with fail
  go_loopw [5] (fun s wr => ∃ k : Nat, k ≤ n ∧ s = .int .i64 k ∧ Hid (lv (ts.drop k) f = lv ts f ∧ lm (ts.drop k) f = lm ts f) ∧ wr = w.alloc (.cells #[.int .i64 0, .int .u64 0, .int .u64 0] 55)) (fun s _ => n - (intOf s).toNat)
  case atStart => exact ⟨0, by omega, rfl, ⟨rfl, rfl⟩, rfl⟩
  case round =>
    obtain ⟨k, hk, rfl, HF, rfl⟩ := hrel
    by_cases hlt : k < n
    · have hkI : (k : Int) < (n : Int) := by omega
      obtain ⟨t, ht⟩ : ∃ t, ts[k]? = some t := ⟨ts[k]'(by omega), List.getElem?_eq_getElem (by omega)⟩
      obtain ⟨b, off, rfl, c0, c1, c2, hbl⟩ := H.out.at ht
      have hD := look_drop (f := f) ht
      by_cases hfe : t.f = f
      · have HE : Hid (t.v = lv ts f ∧ t.m = lm ts f) := by
          have := HF.out
          rw [hD.1, hD.2, if_pos hfe, if_pos hfe] at this
          exact this
        have e1 : (t.f == f) = true := by simp [hfe]
        clear HF hD ht hfe
        have hfe2 : t.f = f := by simpa using e1
        rw [hfe2] at c0
        have e2 : (f == f) = true := by simp
        clear e1 hfe2
        go_wp2_with (first
          | refine wpList_store_new rfl 55 _ _ rfl #[.int .i64 0, .int .u64 0, .int .u64 0] #[.int .i64 f, .int .u64 (t.v.toNat : Int), .int .u64 (t.m.toNat : Int)] w.heap.size rfl rfl rfl infoTerm rfl (by simp [Value.oneCell']) ?_
          | fail)
        exact bodyPost_ret (results_cell_row (p := 4) (ty := 55) rfl _ _ w.heap.size 55 _ (0, 0) _ rfl (heap_alloc_new _ _) Tryd.underlying55 rfl infoTerm) rfl ⟨by rw [HE.out.1, HE.out.2], below1 w _⟩
      · have HE : Hid (lv (ts.drop (k + 1)) f = lv ts f ∧ lm (ts.drop (k + 1)) f = lm ts f) := by
          have := HF.out
          rw [hD.1, hD.2, if_neg hfe, if_neg hfe] at this
          exact this
        have e1 : (t.f == f) = false := by simp [hfe]
        clear HF hD ht hfe
        generalize t.f = tf at *
        go_wp2_with fail
        go_roundw
        case rel => exact ⟨k + 1, by omega, by go_num, HE, by first | rfl | trivial⟩
        case measure => simp [intOf]; omega
    · have HE : Hid (lv ts f = 0 ∧ lm ts f = 0) := by
        have := HF.out
        rw [List.drop_of_length_le (by omega)] at this
        exact ⟨this.1.symm, this.2.symm⟩
      clear HF
      obtain rfl : k = n := by omega
      go_wp2_with (first
        | refine wpList_store_new rfl 55 _ _ rfl #[.int .i64 0, .int .u64 0, .int .u64 0] #[.int .i64 f, .int .u64 0, .int .u64 0] w.heap.size rfl rfl rfl infoTerm rfl (by simp [Value.oneCell']) ?_
        | fail)
      exact bodyPost_ret (results_cell_row (p := 4) (ty := 55) rfl _ _ w.heap.size 55 _ (0, 0) _ rfl (heap_alloc_new _ _) Tryd.underlying55 rfl infoTerm) rfl ⟨by rw [HE.out.1, HE.out.2]; rfl, below1 w _⟩

theorem ts_one2 (w : World) (A B : Obj) (t : Tm) : TS (((w.alloc A).alloc B).alloc (.cells #[.int .i64 t.f, .int .u64 (t.v.toNat : Int), .int .u64 (t.m.toNat : Int)] 55)) (some ⟨w.heap.size + 1 + 1, 0, none⟩) 1 [t] := by
  have := ts_one ((w.alloc A).alloc B) t
  rw [show ((w.alloc A).alloc B).heap.size = w.heap.size + 1 + 1 from by simp] at this
  exact this
theorem rj_step {la lb acc : List Tm} {f : Nat} (hf : f ≤ 28) (h : rj la lb 1 28 = (rj la lb f (29 - f)).map (acc ++ ·)) :
    (cfl (tm0 la f) (tm0 lb f) = true → rj la lb 1 28 = none) ∧
    (cfl (tm0 la f) (tm0 lb f) = false → ((lm la f ||| lm lb f) != 0) = true → rj la lb 1 28 = (rj la lb (f + 1) (29 - (f + 1))).map ((acc ++ [⟨f, lv la f ||| lv lb f, lm la f ||| lm lb f⟩]) ++ ·)) ∧
    (cfl (tm0 la f) (tm0 lb f) = false → ((lm la f ||| lm lb f) != 0) = false → rj la lb 1 28 = (rj la lb (f + 1) (29 - (f + 1))).map (acc ++ ·)) := by
  generalize rj la lb 1 28 = X at h ⊢
  obtain ⟨n, hn⟩ : ∃ n, 29 - f = n + 1 := ⟨28 - f, by omega⟩
  rw [hn, rj] at h
  rw [show 29 - (f + 1) = n from by omega]
  refine ⟨fun hc => ?_, fun hc hm => ?_, fun hc hm => ?_⟩
  · rw [h, if_pos hc]; rfl
  · rw [h, if_neg (by simp [hc]), if_pos hm, Option.map_map]
    congr 1
    funext l
    simp
  · rw [h, if_neg (by simp [hc]), if_neg (by rw [hm]; exact Bool.false_ne_true)]
theorem cfl_bits (x y : Tm) : (bits BinOp.and IntKind.u64 (bits BinOp.and IntKind.u64 (bits BinOp.xor IntKind.u64 (x.v.toNat : Int) (y.v.toNat : Int)) (x.m.toNat : Int)) (y.m.toNat : Int) != 0) = cfl x y := by
  have := agree_eq x y
  unfold bne
  rw [this]; simp
set_option linter.unusedSimpArgs false in
set_option maxHeartbeats 2000000 in
set_option maxRecDepth 20000 in
theorem rand_yes (va vb : Value) (la lb : List Tm) (w : World) (ha : TV w va la) (hb : TV w vb lb) (hca : chk abV 0 la = true) (hcb : chk abV 0 lb = true) :
    Calls Tryd.prog 8 #[va, vb] w fun e w' => ∃ x, e = .returned (.tuple #[x, .bool (rj la lb 1 28).isSome, .int .i64 0]) ∧ TV w' x ((rj la lb 1 28).getD []) ∧ Below w.heap.size w w' := by
  have HA : Hid (TV w va la) := ha
  have HBb : Hid (TV w vb lb) := hb
  have HEa : Hid (chkE la = 0) := if_pos hca
  have HEb : Hid (chkE lb = 0) := if_pos hcb
  clear ha hb hca hcb
  go_enter Tryd.func8, Tryd.ntmps8
  go_wp2_with fail
  refine (rcheck_any va la _ HA.out).mono ?_
  rw [HEa.out]
  rintro e W1 ⟨rfl, hb⟩
  have HB1 : Hid (Below w.heap.size w W1) := hb
  clear hb
  go_wp2_with fail
  refine (rcheck_any vb lb _ (HBb.out.below HB1.out)).mono ?_
  rw [HEb.out]
  rintro e W2 ⟨rfl, hb⟩
  have HB2 : Hid (Below w.heap.size w W2) := HB1.out.trans (hb.mono HB1.out.size)
  clear hb HB1
  go_wp2_with fail
  go_loopw [7, 8] (fun s7 s8 wr => ∃ (f : Nat) (vo : Value) (acc : List Tm), vo = s7 ∧ s8 = .int .i64 f ∧ 1 ≤ f ∧ f ≤ 29 ∧ acc.length + 1 ≤ f ∧ Hid (wr.ownsRow w.heap.size 55 3 vo acc.length (rowT acc)) ∧ Hid (rj la lb 1 28 = (rj la lb f (29 - f)).map (acc ++ ·)) ∧ Hid (Below w.heap.size w wr)) (fun _ s _ => 29 - (intOf s).toNat)
  case atStart => exact ⟨1, _, [], rfl, rfl, by omega, by omega, by simp, World.ownsRow_nil _ _ _ _, by show _ = _; simp, HB2.out⟩
  case round =>
    obtain ⟨f, vo, acc, rfl, rfl, hf1, hf2, hacc, HO, HJ, HB⟩ := hrel
    by_cases hlt : f ≤ 28
    · have hfI : (f : Int) ≤ 28 := by omega
      obtain ⟨j1, j2, j3⟩ := rj_step hlt HJ.out
      have hbc := cfl_bits (tm0 la f) (tm0 lb f)
      simp only [tm0] at hbc j1 j2 j3
      have HJ1 : Hid _ := j1
      have HJ2 : Hid _ := j2
      have HJ3 : Hid _ := j3
      clear j1 j2 j3 HJ
      go_wp2_with fail
      refine (rterm_any va la f _ (HA.out.below HB.out)).mono ?_
      rintro e W3 ⟨rfl, hb⟩
      have HB3 : Hid (Below w.heap.size w W3) := HB.out.trans (hb.mono HB.out.size)
      have HO3 : Hid (W3.ownsRow w.heap.size 55 3 vo acc.length (rowT acc)) := own_below HO.out hb
      clear hb HB HO
      go_wp2_with fail
      refine (rterm_any vb lb f _ (HBb.out.below HB3.out)).mono ?_
      rintro e W4 ⟨rfl, hb⟩
      have HB4 : Hid (Below w.heap.size w W4) := HB3.out.trans (hb.mono HB3.out.size)
      have HO4 : Hid (W4.ownsRow w.heap.size 55 3 vo acc.length (rowT acc)) := own_below HO3.out hb
      have hs4 := HB4.out.size
      clear hb HB3 HO3
      have hov : bits BinOp.or IntKind.u64 ((lv la f).toNat : Int) ((lv lb f).toNat : Int) = ((lv la f ||| lv lb f).toNat : Int) := by rw [bits_or, bv_nat, bv_nat]
      have hom : bits BinOp.or IntKind.u64 ((lm la f).toNat : Int) ((lm lb f).toNat : Int) = ((lm la f ||| lm lb f).toNat : Int) := by rw [bits_or, bv_nat, bv_nat]
      generalize lv la f ||| lv lb f = ov at *
      generalize lm la f ||| lm lb f = om at *
      have hon := bne0 om
      cases hc : cfl ⟨f, lv la f, lm la f⟩ ⟨f, lv lb f, lm lb f⟩
      · rw [hc] at hbc
        cases hm : (om != 0)
        · have HN : Hid _ := HJ3.out hc hm
          rw [hm] at hon
          clear HJ1 HJ2 HJ3 hc hm
          generalize ((lv la f).toNat : Int) = av at *
          generalize ((lm la f).toNat : Int) = am at *
          generalize ((lv lb f).toNat : Int) = bv' at *
          generalize ((lm lb f).toNat : Int) = bm at *
          go_wp2_with fail
          go_roundw
          case rel => exact ⟨f + 1, vo, acc, rfl, by go_num, by omega, by omega, by omega, (HO4.out.alloc _).alloc _, HN, (HB4.out.alloc hs4 _).alloc (by simp; omega) _⟩
          case measure => simp [intOf]; omega
        · have HN : Hid _ := HJ2.out hc hm
          rw [hm] at hon
          clear HJ1 HJ2 HJ3 hc hm
          generalize ((lv la f).toNat : Int) = av at *
          generalize ((lm la f).toNat : Int) = am at *
          generalize ((lv lb f).toNat : Int) = bv' at *
          generalize ((lm lb f).toNat : Int) = bm at *
          go_wp2_with (at_builtin; go_must (refine wpList_append_ts (by rfl) (.tmp 47) (.tmp 60) rfl rfl w.heap.size vo acc rfl (((HO4.out.alloc _).alloc _).alloc _) (some ⟨W4.heap.size + 1 + 1, 0, none⟩) 1 1 [(⟨f, ov, om⟩ : Tm)] rfl (ts_one2 W4 _ _ ⟨f, ov, om⟩) (by omega) (by simp; omega) ?_))
          intro a' cap' w2 ho2 hg2
          have HO2 : Hid (w2.ownsRow w.heap.size 55 3 (.slice a' (acc.length + 1) cap') (acc ++ [(⟨f, ov, om⟩ : Tm)]).length (rowT (acc ++ [(⟨f, ov, om⟩ : Tm)]))) := by
            show w2.ownsRow w.heap.size 55 3 (.slice a' (acc.length + 1) cap') (acc ++ [(⟨f, ov, om⟩ : Tm)]).length (rowT (acc ++ [(⟨f, ov, om⟩ : Tm)]))
            first | exact ho2 | (rw [List.length_append]; exact ho2)
          have HBn : Hid (Below w.heap.size w w2) := grown_below (((HB4.out.alloc hs4 _).alloc (by simp; omega) _).alloc (by simp; omega) _) (((HO4.out.alloc _).alloc _).alloc _) hg2
          clear ho2 hg2
          go_wp2_with fail
          go_roundw
          case rel => exact ⟨f + 1, _, acc ++ [(⟨f, ov, om⟩ : Tm)], rfl, by go_num, by omega, by omega, by simp; omega, HO2.out, HN, HBn.out⟩
          case measure => simp [intOf]; omega
      · rw [hc] at hbc
        have HN : Hid _ := HJ1.out hc
        clear HJ1 HJ2 HJ3 hc hon
        generalize ((lv la f).toNat : Int) = av at *
        generalize ((lm la f).toNat : Int) = am at *
        generalize ((lv lb f).toNat : Int) = bv' at *
        generalize ((lm lb f).toNat : Int) = bm at *
        go_wp2_with fail
        go_ret3
        exact ⟨_, by rw [HN.out]; rfl, by rw [HN.out]; exact TV.nil, (HB4.out.alloc hs4 _).alloc (by simp; omega) _⟩
    · obtain rfl : f = 29 := by omega
      have HN : Hid (rj la lb 1 28 = some acc) := by
        show _ = _
        rw [HJ.out]
        show some (acc ++ []) = some acc
        simp
      clear HJ
      go_wp2_with fail
      go_ret3
      exact ⟨_, by rw [HN.out]; rfl, by rw [HN.out]; exact (show TV _ vo acc from own_tv HO.out (by omega)), HB.out⟩
set_option maxHeartbeats 400000 in
theorem rand_no (va vb : Value) (la lb : List Tm) (w : World) (ha : TV w va la) (hb : TV w vb lb) (hc : (chk abV 0 la && chk abV 0 lb) = false) :
    Calls Tryd.prog 8 #[va, vb] w fun e w' => ∃ x, e = .returned (.tuple #[x, .bool false, .int .i64 90]) ∧ TV w' x [] ∧ Below w.heap.size w w' := by
  have HA : Hid (TV w va la) := ha
  have HBb : Hid (TV w vb lb) := hb
  clear ha hb
  cases hca : chk abV 0 la
  · have HEa : Hid (chkE la = 90) := if_neg (by simp [hca])
    clear hc hca
    go_enter Tryd.func8, Tryd.ntmps8
    go_wp2_with fail
    refine (rcheck_any va la _ HA.out).mono ?_
    rw [HEa.out]
    rintro e W1 ⟨rfl, hb⟩
    have HB1 : Hid (Below w.heap.size w W1) := hb
    clear hb
    go_wp2_with fail
    go_ret3
    exact ⟨_, rfl, TV.nil, HB1.out⟩
  · have HEa : Hid (chkE la = 0) := if_pos hca
    have HEb : Hid (chkE lb = 90) := if_neg (by rw [hca] at hc; simpa using hc)
    clear hc hca
    go_enter Tryd.func8, Tryd.ntmps8
    go_wp2_with fail
    refine (rcheck_any va la _ HA.out).mono ?_
    rw [HEa.out]
    rintro e W1 ⟨rfl, hb⟩
    have HB1 : Hid (Below w.heap.size w W1) := hb
    clear hb
    go_wp2_with fail
    refine (rcheck_any vb lb _ (HBb.out.below HB1.out)).mono ?_
    rw [HEb.out]
    rintro e W2 ⟨rfl, hb⟩
    have HB2 : Hid (Below w.heap.size w W2) := HB1.out.trans (hb.mono HB1.out.size)
    clear hb HB1
    go_wp2_with fail
    go_ret3
    exact ⟨_, rfl, TV.nil, HB2.out⟩
theorem rand_any (va vb : Value) (la lb : List Tm) (w : World) (ha : TV w va la) (hb : TV w vb lb) : Calls Tryd.prog 8 #[va, vb] w fun e w' =>
    ∃ x, e = .returned (.tuple #[x, .bool (andOf la lb).isSome, .int .i64 (errOf la lb)]) ∧ TV w' x ((andOf la lb).getD []) ∧ Below w.heap.size w w' := by
  cases hc : (chk abV 0 la && chk abV 0 lb)
  · rw [show andOf la lb = none from if_neg (by simp [hc]), show errOf la lb = 90 from if_neg (by simp [hc])]
    exact rand_no va vb la lb w ha hb hc
  · rw [show errOf la lb = 0 from if_pos hc, show andOf la lb = jn la lb from if_pos hc]
    rw [Bool.and_eq_true] at hc
    rw [← rj_eq hc.1 hc.2]
    exact rand_yes va vb la lb w ha hb hc.1 hc.2
set_option maxHeartbeats 400000 in
theorem rmeet_any (v u : Value) (la lb : List Tm) (w : World) (ha : TV w v la) (hb : TV w u lb) : Calls Tryd.prog 14 #[v, u] w fun e w' => e = .returned (.bool (andOf la lb).isSome) ∧ Below w.heap.size w w' := by
  have HA : Hid (TV w v la) := ha
  have HB : Hid (TV w u lb) := hb
  clear ha hb
  go_enter Tryd.func14, Tryd.ntmps14
  go_wp2_with fail
  refine (rand_any v u la lb _ HA.out HB.out).mono ?_
  rintro e W1 ⟨x, rfl, _, hb1⟩
  have HB1 : Hid _ := hb1
  clear hb1
  generalize hq : (andOf la lb).isSome = q
  generalize errOf la lb = q2
  have HQ : Hid _ := hq
  clear hq
  go_wp2_with fail
  go_ret
  exact ⟨by rw [HQ.out]; rfl, HB1.out⟩
theorem rim_drop {la ts : List Tm} {k : Nat} {t : Tm} (h : ts[k]? = some t) : rim la (ts.drop k) = (rimT la t && rim la (ts.drop (k + 1))) := by
  rw [drop_consT h]; rfl
theorem beqN (x y : BitVec 64) : (((x.toNat : Nat) : Int) == (y.toNat : Nat)) = (x == y) := by
  rw [Bool.eq_iff_iff]
  simp only [beq_iff_eq]
  constructor
  · intro h
    apply BitVec.eq_of_toNat_eq
    omega
  · rintro rfl; rfl
set_option maxHeartbeats 2000000 in
set_option maxRecDepth 20000 in
theorem rimplies_any (va vb : Value) (la lb : List Tm) (w : World) (ha : TV w va la) (hb : TV w vb lb) : Calls Tryd.prog 12 #[va, vb] w fun e w' => e = .returned (.bool (impOf la lb)) ∧ Below w.heap.size w w' := by
  have HA : Hid (TV w va la) := ha
  have HBb : Hid (TV w vb lb) := hb
  clear ha hb
  cases hca : chk abV 0 la
  · have HEa : Hid (chkE la = 90) := if_neg (by simp [hca])
    have HR : Hid (impOf la lb = false) := by
      show _ = _
      simp [impOf, hca]
    clear hca
    go_enter Tryd.func12, Tryd.ntmps12
    go_wp2_with fail
    refine (rcheck_any va la _ HA.out).mono ?_
    rw [HEa.out]
    rintro e W1 ⟨rfl, hb⟩
    have HB1 : Hid (Below w.heap.size w W1) := hb
    clear hb
    go_wp2_with fail
    go_ret
    exact ⟨by rw [HR.out]; rfl, HB1.out⟩
  cases hcb : chk abV 0 lb
  · have HEa : Hid (chkE la = 0) := if_pos hca
    have HEb : Hid (chkE lb = 90) := if_neg (by simp [hcb])
    have HR : Hid (impOf la lb = false) := by
      show _ = _
      simp [impOf, hcb]
    clear hca hcb
    go_enter Tryd.func12, Tryd.ntmps12
    go_wp2_with fail
    refine (rcheck_any va la _ HA.out).mono ?_
    rw [HEa.out]
    rintro e W1 ⟨rfl, hb⟩
    have HB1 : Hid (Below w.heap.size w W1) := hb
    clear hb
    go_wp2_with fail
    refine (rcheck_any vb lb _ (HBb.out.below HB1.out)).mono ?_
    rw [HEb.out]
    rintro e W2 ⟨rfl, hb⟩
    have HB2 : Hid (Below w.heap.size w W2) := HB1.out.trans (hb.mono HB1.out.size)
    clear hb HB1
    go_wp2_with fail
    go_ret
    exact ⟨by rw [HR.out]; rfl, HB2.out⟩
  · have HEa : Hid (chkE la = 0) := if_pos hca
    have HEb : Hid (chkE lb = 0) := if_pos hcb
    have HR : Hid (impOf la lb = rim la lb) := by
      show _ = _
      rw [rim_eq hca hcb]; simp [impOf, hca, hcb]
    clear hca hcb
    obtain ⟨a, n, c, rfl, hcap, hts⟩ := HBb.out
    have hl := hts.len
    have hr := hts.room
    have H : Hid (TS w a n lb) := hts
    clear hts
    go_enter Tryd.func12, Tryd.ntmps12
    go_wp2_with fail
    refine (rcheck_any va la _ HA.out).mono ?_
    rw [HEa.out]
    rintro e W1 ⟨rfl, hb⟩
    have HB1 : Hid (Below w.heap.size w W1) := hb
    clear hb
    go_wp2_with fail
    refine (rcheck_any _ lb _ (HBb.out.below HB1.out)).mono ?_
    rw [HEb.out]
    rintro e W2 ⟨rfl, hb⟩
    have HB2 : Hid (Below w.heap.size w W2) := HB1.out.trans (hb.mono HB1.out.size)
    clear hb HB1
    go_wp2_with fail
    go_loopw [5] (fun s wr => ∃ k : Nat, k ≤ n ∧ s = .int .i64 k ∧ Hid (rim la (lb.drop k) = rim la lb) ∧ Hid (Below w.heap.size w wr)) (fun s _ => n - (intOf s).toNat)
    case atStart => exact ⟨0, by omega, rfl, rfl, HB2.out⟩
    case round =>
      obtain ⟨k, hk, rfl, HF, HB⟩ := hrel
      by_cases hlt : k < n
      · have hkI : (k : Int) < (n : Int) := by omega
        obtain ⟨t, ht⟩ : ∃ t, lb[k]? = some t := ⟨lb[k]'(by omega), List.getElem?_eq_getElem (by omega)⟩
        obtain ⟨b, off, rfl, c0, c1, c2, hbl⟩ := (H.out.below HB.out).at ht
        have HD : Hid _ := rim_drop (la := la) ht
        go_wp2_with fail
        refine (rterm_any va la t.f _ (HA.out.below HB.out)).mono ?_
        rintro e W3 ⟨rfl, hb⟩
        have HB3 : Hid (Below w.heap.size w W3) := HB.out.trans (hb.mono HB.out.size)
        have x1 := (hb.cell (p := ⟨b, off + k * 3 + 1, none⟩) hbl).trans c1
        have x2 := (hb.cell (p := ⟨b, off + k * 3 + 2, none⟩) hbl).trans c2
        have hbl3 : b < W3.heap.size := by have := hb.size; omega
        have hs3 := HB3.out.size
        clear hb HB c0 c1 c2 ht
        have q1 : (bits BinOp.andNot IntKind.u64 (t.m.toNat : Int) ((lm la t.f).toNat : Int) != 0) = ((t.m &&& ~~~ lm la t.f) != 0) := by
          rw [bits_andNot, bv_nat, bv_nat, bne0]
        have q2 : (bits BinOp.and IntKind.u64 ((lv la t.f).toNat : Int) (t.m.toNat : Int) != (t.v.toNat : Int)) = ((lv la t.f &&& t.m) != t.v) := by
          unfold bne
          rw [bits_and, bv_nat, bv_nat, beqN]
        cases h1 : ((t.m &&& ~~~ lm la t.f) != 0)
        · rw [h1] at q1
          cases h2 : ((lv la t.f &&& t.m) != t.v)
          · rw [h2] at q2
            have HN : Hid (rim la (lb.drop (k + 1)) = rim la lb) := by
              show _ = _
              rw [← HF.out, HD.out, rimT, h1, h2]; rfl
            clear HF HD h1 h2
            generalize ((lv la t.f).toNat : Int) = av at *
            generalize ((lm la t.f).toNat : Int) = am at *
            generalize (t.v.toNat : Int) = tv at *
            generalize (t.m.toNat : Int) = tm at *
            generalize t.f = tf at *
            go_wp2_with fail
            go_quiet (fail)
            go_wp2_with fail
            go_roundw
            case rel => exact ⟨k + 1, by omega, by go_num, HN, below_drewN (HB3.out.alloc hs3 _) _⟩
            case measure => simp [intOf]; omega
          · rw [h2] at q2
            have HN : Hid (rim la lb = false) := by
              show _ = _
              rw [← HF.out, HD.out, rimT, h1, h2]; rfl
            clear HF HD h1 h2
            generalize ((lv la t.f).toNat : Int) = av at *
            generalize ((lm la t.f).toNat : Int) = am at *
            generalize (t.v.toNat : Int) = tv at *
            generalize (t.m.toNat : Int) = tm at *
            generalize t.f = tf at *
            go_wp2_with fail
            go_quiet (fail)
            go_wp2_with fail
            go_ret
            exact ⟨by rw [HR.out, HN.out]; rfl, below_drewN (HB3.out.alloc hs3 _) _⟩
        · rw [h1] at q1
          have HN : Hid (rim la lb = false) := by
            show _ = _
            rw [← HF.out, HD.out, rimT, h1]; rfl
          clear HF HD h1 q2
          generalize ((lv la t.f).toNat : Int) = av at *
          generalize ((lm la t.f).toNat : Int) = am at *
          generalize (t.v.toNat : Int) = tv at *
          generalize (t.m.toNat : Int) = tm at *
          generalize t.f = tf at *
          go_wp2_with fail
          go_quiet (fail)
          go_wp2_with fail
          go_ret
          exact ⟨by rw [HR.out, HN.out]; rfl, below_drewN (HB3.out.alloc hs3 _) _⟩
      · have HN : Hid (rim la lb = true) := by
          show _ = _
          rw [← HF.out, List.drop_of_length_le (by omega)]; rfl
        clear HF
        obtain rfl : k = n := by omega
        go_wp2_with fail
        go_ret
        exact ⟨by rw [HR.out, HN.out]; rfl, HB.out⟩
end Go.Proofs.YtpinhnkceaephaaDoor
