/- The reference's Whole; a whole match is whole; the walk of MatchWholes. Conditions: the terms can be read; the table of trailing zeros holds 4 at its fifteenth place. -/
import Derived.Test.YtpinhnkceaephaaDoorMS
namespace Go.Proofs.YtpinhnkceaephaaDoor
open Go.RowKit
theorem rneedsT_any (f : Int) (h1 : 1 ≤ f) (h2 : f ≤ 28) (w : World) : Calls Tryd.prog 27 #[.int .i64 f] w fun e w' => ∃ v, e = .returned v ∧ TV w' v (ndT (fOf f.toNat)) ∧ Below w.heap.size w w' := by
  obtain ⟨k, rfl⟩ := Int.eq_ofNat_of_zero_le (show 0 ≤ f by omega)
  refine (rneeds_any k (by omega) (by omega) w).mono ?_
  rintro e w' ⟨v, rfl, hn, hb⟩
  exact ⟨v, rfl, need_tv (fOf_le k) hn, hb⟩
theorem ndk (f : Int) : chk abV 0 (ndT (fOf f.toNat)) = true := nd_chk _ (by have := fOf_le f.toNat; omega)
/-- The needs of a need's field are among the needs. -/
theorem nd_in : ∀ o, o < 6 → ∀ g, g < 29 → 1 ≤ g → (lm (ndT o) (g : Nat) != 0) = true → fol (ndT o) (ndT (fOf g)) = true := by
  have h : ((List.range 6).all fun o => (List.range 29).all fun g => g == 0 || (lm (ndT o) (g : Nat) == 0) || fol (ndT o) (ndT (fOf g))) = true := by decide +kernel
  intro o ho g hg hg1 hm
  have h1 := List.all_eq_true.1 h o (by simpa using ho)
  have h2 := List.all_eq_true.1 h1 g (by simpa using hg)
  simp only [Bool.or_eq_true, beq_iff_eq] at h2
  rcases h2 with (h2 | h2) | h2
  · omega
  · rw [h2] at hm; simp at hm
  · exact h2
theorem fol_refl {k : Int} {a : List Tm} (ha : chk abV k a = true) : fol a a = true := by
  rw [fol_bits ha ha]
  exact fun f i hi => ⟨hi, rfl⟩
/-- What a list implies joined to it changes nothing. -/
theorem jn_implied {a b : List Tm} (ha : chk abV 0 a = true) (hb : chk abV 0 b = true) (h : fol a b = true) : jn a b = some a := by
  have hn : ¬ ∃ f, Cf a b f := fun ⟨f, hf⟩ => ((fol_iff ha hb).1 h f).2 hf
  cases hj : jn a b with
  | none => exact absurd ((jn_none ha hb).1 hj) hn
  | some l =>
    obtain ⟨cl, dl⟩ := jn_some ha hb hj
    rw [fol_bits ha hb] at h
    refine congrArg some (ext cl ha fun f => ⟨bve.2 fun i => ?_, bve.2 fun i => ?_⟩)
    · rw [(dl f).1, BitVec.getLsbD_or]
      have h1 := h f i
      have vb := vm hb f (i := i)
      revert h1 vb
      cases (lv a f).getLsbD i <;> cases (lv b f).getLsbD i <;> cases (lm a f).getLsbD i <;> cases (lm b f).getLsbD i <;> simp
    · rw [(dl f).2.1, BitVec.getLsbD_or]
      have h1 := h f i
      revert h1
      cases (lm a f).getLsbD i <;> cases (lm b f).getLsbD i <;> simp
/-- Does a list imply the needs of a field? -/
def Imp (x : List Tm) (f : Int) : Prop := fol x (ndT (fOf f.toNat)) = true
theorem fol_of_left {a b x : List Tm} {c : List Tm} (ha : chk abV 0 a = true) (hb : chk abV 0 b = true) (hc : chk abV 0 c = true) (hx : jn a b = some x) (h : fol a c = true) : fol x c = true :=
  fol_trans (jn_some ha hb hx).1 ha hc (fol_left ha hb hx) h
/-- What wholeF tells: in form, implies the list that it began with, the needs of all that came, and every field is one that was there, or one of a need. -/
theorem whole_spec : ∀ (r out x : List Tm), chk abV 0 out = true → (∀ t ∈ r, 1 ≤ t.f ∧ t.f ≤ 28) → wholeF out r = some x →
    chk abV 0 x = true ∧ fol x out = true ∧ (∀ t ∈ r, Imp x t.f) ∧
    (∀ f, lm x f ≠ 0 → lm out f ≠ 0 ∨ ∃ t ∈ r, lm (ndT (fOf t.f.toNat)) f ≠ 0) := by
  intro r
  induction r with
  | nil =>
    intro out x ho _ hx
    cases hx
    exact ⟨ho, fol_refl ho, by simp, fun f h => .inl h⟩
  | cons t r ih =>
    intro out x ho hr hx
    rw [wholeF] at hx
    cases hj : jn out (ndT (fOf t.f.toNat)) with
    | none => rw [hj] at hx; cases hx
    | some o =>
      rw [hj] at hx
      obtain ⟨co, do_⟩ := jn_some ho (ndk t.f) hj
      obtain ⟨c1, c2, c3, c4⟩ := ih o x co (fun u hu => hr u (List.mem_cons_of_mem _ hu)) hx
      refine ⟨c1, fol_trans c1 co ho c2 (fol_left ho (ndk t.f) hj), fun u hu => ?_, fun f hf => ?_⟩
      · rcases List.mem_cons.1 hu with rfl | hu
        · exact fol_trans c1 co (ndk _) c2 (fol_right ho (ndk _) hj)
        · exact c3 u hu
      · rcases c4 f hf with h | ⟨u, hu, h⟩
        · rw [(do_ f).2.1] at h
          obtain ⟨i, hi⟩ := bvn.1 h
          rcases (by simpa using hi : (lm out f).getLsbD i = true ∨ (lm (ndT (fOf t.f.toNat)) f).getLsbD i = true) with h1 | h1
          · exact .inl (bvn.2 ⟨i, h1⟩)
          · exact .inr ⟨t, List.mem_cons_self .., bvn.2 ⟨i, h1⟩⟩
        · exact .inr ⟨u, List.mem_cons_of_mem _ hu, h⟩
theorem lm_of_mem {k : Int} {l : List Tm} (h : chk abV k l = true) {t : Tm} (ht : t ∈ l) : lm l t.f ≠ 0 := by
  induction l generalizing k with
  | nil => cases ht
  | cons x r ih =>
    obtain ⟨_, h2, h3⟩ := chk_cons h
    rcases List.mem_cons.1 ht with rfl | ht
    · rw [lm_cons_eq]; exact (okT_m h2).1
    · have := ih h3 ht
      have hne : ¬ x.f = t.f := fun e => this (e ▸ (low h3 (Int.le_refl _)).2)
      rw [lm_cons_ne hne]; exact this
theorem mem_of_lm {k : Int} {l : List Tm} (h : chk abV k l = true) {f : Int} (hf : lm l f ≠ 0) : ∃ t ∈ l, t.f = f := by
  induction l generalizing k with
  | nil => exact absurd rfl hf
  | cons x r ih =>
    obtain ⟨_, _, h3⟩ := chk_cons h
    by_cases e : x.f = f
    · exact ⟨x, List.mem_cons_self .., e⟩
    · rw [lm_cons_ne e] at hf
      obtain ⟨t, ht, he⟩ := ih h3 hf
      exact ⟨t, List.mem_cons_of_mem _ ht, he⟩
theorem mem_field {l : List Tm} (h : chk abV 0 l = true) {t : Tm} (ht : t ∈ l) : 1 ≤ t.f ∧ t.f ≤ 28 := by
  obtain ⟨i, hi⟩ := List.mem_iff_getElem?.1 ht
  exact okT_field (chk_mem h hi)
/-- A whole match implies the needs of all its fields. -/
theorem whole_imp {ts x : List Tm} (hc : chk abV 0 ts = true) (hx : wholeF ts ts = some x) : chk abV 0 x = true ∧ fol x ts = true ∧ ∀ t ∈ x, Imp x t.f := by
  obtain ⟨c1, c2, c3, c4⟩ := whole_spec ts ts x hc (fun t ht => mem_field hc ht) hx
  refine ⟨c1, c2, fun t ht => ?_⟩
  have hf := mem_field c1 ht
  rcases c4 t.f (lm_of_mem c1 ht) with h | ⟨u, hu, h⟩
  · obtain ⟨u, hu, e⟩ := mem_of_lm hc h
    have := c3 u hu
    rw [e] at this
    exact this
  · have hu1 := c3 u hu
    unfold Imp at hu1 ⊢
    obtain ⟨g, hg⟩ := Int.eq_ofNat_of_zero_le (show 0 ≤ t.f by omega)
    rw [hg] at h hf ⊢
    have := nd_in (fOf u.f.toNat) (by have := fOf_le u.f.toNat; omega) g (by omega) (by omega) (by simpa using h)
    refine fol_trans c1 (ndk u.f) (ndk _) hu1 ?_
    simpa using this
/-- .. so that it is its own whole. -/
theorem wholeF_id {x : List Tm} (hc : chk abV 0 x = true) : ∀ r : List Tm, (∀ t ∈ r, Imp x t.f) → wholeF x r = some x := by
  intro r
  induction r with
  | nil => intro _; rfl
  | cons t r ih =>
    intro h
    rw [wholeF, jn_implied hc (ndk t.f) (h t (List.mem_cons_self ..))]
    exact ih fun u hu => h u (List.mem_cons_of_mem _ hu)
theorem whole_again {ts x : List Tm} (h : wholeOf ts = some x) : chk abV 0 ts = true ∧ chk abV 0 x = true ∧ wholeOf x = some x ∧ impOf x ts = true := by
  unfold wholeOf at h
  split at h
  · rename_i hc
    obtain ⟨c1, c2, c3⟩ := whole_imp hc h
    refine ⟨hc, c1, ?_, by simp [impOf, c1, hc, c2]⟩
    unfold wholeOf
    rw [if_pos c1]
    exact wholeF_id c1 x c3
  · cases h
set_option maxRecDepth 20000 in
set_option maxHeartbeats 1000000 in
theorem rwhole_any (v : Value) (ts : List Tm) (w : World) (h : TV w v ts) : Calls Tryd.prog 16 #[v] w fun e w' =>
    ∃ x, e = .returned (.tuple #[x, .bool (wholeOf ts).isSome, .int .i64 (chkE ts)]) ∧ TV w' x ((wholeOf ts).getD []) ∧ Below w.heap.size w w' := by
  have HV : Hid (TV w v ts) := h
  clear h
  cases hc : chk abV 0 ts
  · have hE : chkE ts = 90 := if_neg (by simp [hc])
    have HN : Hid (wholeOf ts = none) := if_neg (by simp [hc])
    rw [hE]
    go_enter Tryd.func16, Tryd.ntmps16
    go_wp2_with fail
    refine (rcheck_any v ts _ HV.out).mono ?_
    rw [hE]
    rintro e W1 ⟨rfl, hb1⟩
    have HB1 : Hid _ := hb1
    clear hb1 hE hc
    go_wp2_with fail
    go_ret3
    exact ⟨_, by rw [HN.out]; rfl, by rw [HN.out]; exact TV.nil, HB1.out⟩
  · have hE : chkE ts = 0 := if_pos hc
    have HN : Hid (wholeOf ts = wholeF ts ts) := if_pos hc
    rw [hE]
    have HC : Hid _ := hc
    clear hc
    obtain ⟨a, n, c, rfl, hcap, hts⟩ := HV.out
    have hl := hts.len
    have hr := hts.room
    have H : Hid (TS w a n ts) := hts
    clear hts
    go_enter Tryd.func16, Tryd.ntmps16
    go_wp2_with fail
    refine (rcheck_any _ ts _ HV.out).mono ?_
    rw [hE]
    rintro e W1 ⟨rfl, hb1⟩
    have HB1 : Hid _ := hb1
    clear hb1 hE
    go_wp2_with (at_builtin; go_must (refine wpList_append_ts (by rfl) (.tmp 16) (.tmp 17) rfl rfl W1.heap.size _ [] rfl (own_emptyT W1 _ rfl) a n c ts rfl ((H.out.below HB1.out).below (below1 W1 _)) (by simp; omega) (by simp) ?_))
    intro b2 d2 W2 ho hg
    have HX2 : Hid (TV W2 (.slice b2 n d2) ts) := copy_tv (base := W1.heap.size) (by simpa [hl] using ho) hl hr
    have hgb : Below W1.heap.size W1 W2 := grown_below (below1 W1 _) (own_emptyT W1 _ rfl) hg
    have HB2 : Hid (Below w.heap.size w W2) := HB1.out.trans (hgb.mono HB1.out.size)
    clear ho hg hgb HB1
    go_wp2_with fail
    go_loopw [6, 7] (fun s6 s wr => ∃ (k : Nat) (out : List Tm) (vo : Value), k ≤ n ∧ vo = s6 ∧ s = .int .i64 k ∧ Hid (TV wr vo out) ∧ Hid (chk abV 0 out = true) ∧ Hid (wholeF ts ts = wholeF out (ts.drop k)) ∧ Below w.heap.size w wr) (fun _ s _ => n - (intOf s).toNat)
    case atStart => exact ⟨0, ts, _, by omega, rfl, rfl, (show TV _ _ ts from by simpa using HX2.out), HC.out, rfl, HB2.out⟩
    case round =>
      obtain ⟨k, out, vo, hk, rfl, rfl, HO, HCO, HF, hb⟩ := hrel
      have HB : Hid (Below w.heap.size w wr) := hb
      have HT : Hid _ := H.out.below hb
      clear hb
      by_cases hlt : k < n
      · have hkI : (k : Int) < (n : Int) := by omega
        obtain ⟨t, ht⟩ : ∃ t, ts[k]? = some t := ⟨ts[k]'(by omega), List.getElem?_eq_getElem (by omega)⟩
        obtain ⟨b, off, rfl, c0, c1, c2, hbl⟩ := HT.out.at ht
        have HD : Hid _ := drop_consT ht
        have hfl := okT_field (chk_mem HC.out ht)
        clear HT ht
        go_wp2_with fail
        refine (rneedsT_any t.f hfl.1 hfl.2 _).mono ?_
        rintro e W3 ⟨vn, rfl, hvn, hb3⟩
        have HVN : Hid (TV W3 vn (ndT (fOf t.f.toNat))) := hvn
        have HOV : Hid (TV W3 vo out) := HO.out.below hb3
        have HB3 : Hid (Below w.heap.size w W3) := HB.out.trans (hb3.mono HB.out.size)
        clear hvn hb3 HB HO c0 c1 c2
        go_wp2_with fail
        refine (rand_any vo vn out _ _ HOV.out HVN.out).mono ?_
        rw [and_of HCO.out (ndk t.f)]
        rintro e W4 ⟨x4, rfl, hx4, hb4⟩
        have HX4 : Hid (TV W4 x4 ((jn out (ndT (fOf t.f.toNat))).getD [])) := hx4
        have HB4 : Hid (Below w.heap.size w W4) := HB3.out.trans (hb4.mono HB3.out.size)
        clear hx4 hb4 HOV HVN HB3
        have HF2 : Hid (wholeF ts ts = match jn out (ndT (fOf t.f.toNat)) with | none => none | some o => wholeF o (ts.drop (k + 1))) := by
          have := HF.out
          rw [HD.out] at this
          exact this
        clear HF HD
        generalize errOf out (ndT (fOf t.f.toNat)) = q
        cases hj : jn out (ndT (fOf t.f.toNat)) with
        | none =>
          rw [hj] at HF2
          have HW : Hid (wholeOf ts = none) := HN.out.trans HF2.out
          clear HF2 hj HX4
          simp only [Option.isSome_none]
          go_wp2_with fail
          go_ret3
          exact ⟨_, by rw [HW.out]; rfl, by rw [HW.out]; exact TV.nil, HB4.out⟩
        | some o =>
          rw [hj] at HF2 HX4
          have HCo : Hid (chk abV 0 o = true) := (jn_some HCO.out (ndk t.f) hj).1
          have HF3 : Hid (wholeF ts ts = wholeF o (ts.drop (k + 1))) := HF2.out
          clear HF2 hj HCO
          simp only [Option.isSome_some]
          go_wp2_with fail
          go_roundw
          case rel => exact ⟨k + 1, o, x4, by omega, rfl, by go_num, HX4, HCo, HF3, HB4.out⟩
          case measure => simp [intOf]; omega
      · have HW : Hid (wholeOf ts = some out) := by
          show _ = _
          rw [HN.out, HF.out, List.drop_of_length_le (by omega)]
          rfl
        clear HF
        obtain rfl : k = n := by omega
        go_wp2_with fail
        go_ret3
        exact ⟨_, by rw [HW.out]; rfl, by rw [HW.out]; exact HO.out, HB.out⟩
set_option maxRecDepth 20000 in
set_option maxHeartbeats 2000000 in
theorem wholes_any (v : Value) (ts : List Tm) (w : World) (hv : TV w v ts) (htab : w.cell? ⟨2, 15, none⟩ = some (.int .u8 4)) :
    Calls Tryd.prog 4 #[v] w fun e w' => e = .returned (.bool true) ∧ Below w.heap.size w w' := by
  have HV : Hid (TV w v ts) := hv
  have HT : Hid _ := htab
  have hgl : 2 < w.heap.size := cell_lt htab
  have HGL : Hid _ := hgl
  obtain ⟨a, n, c, rfl, _, h⟩ := hv
  have hl := h.len
  have hr := h.room
  have H : Hid (TS w a n ts) := h
  clear h htab hgl
  go_enter Tryd.func4, Tryd.ntmps4
  go_wp2_with (at_builtin; go_must (refine wpList_append_ts (by rfl) (.tmp 13) (.tmp 14) rfl rfl w.heap.size _ [] rfl (own_emptyT w _ rfl) a n c ts rfl (H.out.below (below1 w _)) (by simp; omega) (by simp) ?_))
  intro b1 d1 W1 ho hg
  have HX1 : Hid (TV W1 (.slice b1 n d1) ts) := copy_tv (base := w.heap.size) (by simpa [hl] using ho) hl hr
  have HB1 : Hid (Below w.heap.size w W1) := grown_below (below1 w _) (own_emptyT w _ rfl) hg
  clear ho hg
  go_wp2_with fail
  refine (whole_any _ ts _ (by simpa using HX1.out)).mono ?_
  rintro e W2 ⟨x, rfl, hx, hb⟩
  have HX : Hid (TV W2 x ((wholeOf ts).getD [])) := hx
  have HB2 : Hid (Below w.heap.size w W2) := HB1.out.trans (hb.mono HB1.out.size)
  clear hb hx HB1 HX1
  cases hw : wholeOf ts with
  | none =>
    rw [hw] at HX
    have HW : Hid _ := hw
    clear hw
    simp only [Option.isSome_none]
    generalize he : chkE ts = e1
    have HE : Hid _ := he
    clear he
    go_wp2_with fail
    refine (rwhole_any _ ts _ (HV.out.below HB2.out)).mono ?_
    rw [HW.out, HE.out]
    rintro e W3 ⟨y, rfl, hy, hb⟩
    have HY : Hid (TV W3 y []) := hy
    have HX3 : Hid (TV W3 x []) := HX.out.below hb
    have HB3 : Hid (Below w.heap.size w W3) := HB2.out.trans (hb.mono HB2.out.size)
    clear hb hy HB2 HX
    simp only [Option.isSome_none]
    go_wp2_with fail
    refine (lives_any _ ((HB3.out.cell (p := ⟨2, 15, none⟩) HGL.out).trans HT.out)).mono ?_
    rintro e W4 ⟨rfl, hb⟩
    have HY4 : Hid (TV W4 y []) := HY.out.below hb
    have HX4 : Hid (TV W4 x []) := HX3.out.below hb
    have HB4 : Hid (Below w.heap.size w W4) := HB3.out.trans (hb.mono HB3.out.size)
    clear hb HY HX3 HB3
    go_wp2_with fail
    refine (same_yes x y _ _ HX4.out HY4.out).mono ?_
    rintro e W5 ⟨rfl, hb⟩
    have HX5 : Hid (TV W5 x []) := HX4.out.below hb
    have HB5 : Hid (Below w.heap.size w W5) := HB4.out.trans (hb.mono HB4.out.size)
    clear hb HX4 HY4 HB4
    have ee : (e1 != e1) = false := by simp
    go_wp2_with fail
    refine (whole_any x [] _ HX5.out).mono ?_
    rintro e W6 ⟨z, rfl, _, hb⟩
    have HB6 : Hid (Below w.heap.size w W6) := HB5.out.trans (hb.mono HB5.out.size)
    clear hb HX5 HB5
    generalize (wholeOf []).isSome = q1
    generalize chkE [] = q2
    go_wp2_with fail
    go_ret
    exact ⟨rfl, HB6.out⟩
  | some lx =>
    rw [hw] at HX
    have HW : Hid _ := hw
    obtain ⟨k1, k2, k3, k4⟩ := whole_again hw
    have HE : Hid (chkE ts = 0) := if_pos k1
    have HEx : Hid (chkE lx = 0) := if_pos k2
    have HWx : Hid _ := k3
    have HIx : Hid _ := k4
    clear hw k1 k2 k3 k4
    simp only [Option.isSome_some]
    rw [HE.out]
    go_wp2_with fail
    refine (rwhole_any _ ts _ (HV.out.below HB2.out)).mono ?_
    rw [HW.out, HE.out]
    rintro e W3 ⟨y, rfl, hy, hb⟩
    have HY : Hid (TV W3 y lx) := hy
    have HX3 : Hid (TV W3 x lx) := HX.out.below hb
    have HB3 : Hid (Below w.heap.size w W3) := HB2.out.trans (hb.mono HB2.out.size)
    clear hb hy HB2 HX
    simp only [Option.isSome_some]
    go_wp2_with fail
    refine (lives_any _ ((HB3.out.cell (p := ⟨2, 15, none⟩) HGL.out).trans HT.out)).mono ?_
    rintro e W4 ⟨rfl, hb⟩
    have HY4 : Hid (TV W4 y lx) := HY.out.below hb
    have HX4 : Hid (TV W4 x lx) := HX3.out.below hb
    have HB4 : Hid (Below w.heap.size w W4) := HB3.out.trans (hb.mono HB3.out.size)
    clear hb HY HX3 HB3
    go_wp2_with fail
    refine (same_yes x y _ _ HX4.out HY4.out).mono ?_
    rintro e W5 ⟨rfl, hb⟩
    have HX5 : Hid (TV W5 x lx) := HX4.out.below hb
    have HB5 : Hid (Below w.heap.size w W5) := HB4.out.trans (hb.mono HB4.out.size)
    clear hb HX4 HY4 HB4
    go_wp2_with fail
    refine (whole_any x lx _ HX5.out).mono ?_
    rw [HWx.out, HEx.out]
    rintro e W6 ⟨z, rfl, hz, hb⟩
    have HZ : Hid (TV W6 z lx) := hz
    have HX6 : Hid (TV W6 x lx) := HX5.out.below hb
    have HB6 : Hid (Below w.heap.size w W6) := HB5.out.trans (hb.mono HB5.out.size)
    clear hb hz HX5 HB5
    simp only [Option.isSome_some]
    go_wp2_with fail
    refine (same_yes z x _ _ HZ.out HX6.out).mono ?_
    rintro e W7 ⟨rfl, hb⟩
    have HX7 : Hid (TV W7 x lx) := HX6.out.below hb
    have HB7 : Hid (Below w.heap.size w W7) := HB6.out.trans (hb.mono HB6.out.size)
    clear hb HX6 HZ HB6
    go_wp2_with fail
    refine (implies_any x _ lx ts _ HX7.out (HV.out.below HB7.out)).mono ?_
    rw [HIx.out]
    rintro e W8 ⟨rfl, hb⟩
    have HB8 : Hid (Below w.heap.size w W8) := HB7.out.trans (hb.mono HB7.out.size)
    clear hb HB7
    go_wp2_with fail
    go_ret
    exact ⟨rfl, HB8.out⟩
end Go.Proofs.YtpinhnkceaephaaDoor
