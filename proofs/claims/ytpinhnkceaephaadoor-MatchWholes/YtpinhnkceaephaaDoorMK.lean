/- Clone, Needs as terms, Whole, lives. Conditions: the terms can be read; of lives: the table of trailing zeros holds 4 at its fifteenth place. -/
import Derived.Test.YtpinhnkceaephaaDoorMJ
import Derived.Lib.SliceRun
namespace Go.Proofs.YtpinhnkceaephaaDoor
open Go.RowKit
theorem own_emptyT (w : World) (c : Array Value) (hc : c.size = 0) : (w.alloc (.cells c 55)).ownsRow w.heap.size 55 3 (.slice (some ⟨w.heap.size, 0, none⟩) 0 0) ([] : List Tm).length (rowT []) :=
  ⟨rfl, .inr ⟨w.heap.size, 0, c, rfl, Nat.le_refl _, heap_alloc_new w _, Nat.le_refl _, Nat.zero_le _, by simpa using hc, by simp [rowT]⟩⟩
set_option maxRecDepth 20000 in
set_option maxHeartbeats 400000 in
theorem clone_any (v : Value) (ts : List Tm) (w : World) (h : TV w v ts) : Calls Tryd.prog 25 #[v] w fun e w' => ∃ x, e = .returned x ∧ TV w' x ts ∧ Below w.heap.size w w' := by
  obtain ⟨a, n, c, rfl, hc, h⟩ := h
  have hr := h.room
  rcases a with _ | ad
  · have hn : n = 0 := by
      rcases h.cells with h0 | ⟨_, _, h0, _⟩
      · exact h0
      · cases h0
    subst hn
    have HZ : Hid (ts = []) := h.zero
    clear h
    have hnil : ∀ W : World, (binOp .eql 22 (.slice none 0 c) (.slice none 0 0)).run Tryd.prog W = .ok (.bool true) W := fun W => Lib.run_eql_slice_nil W _ _ none 0 c 0 0 Tryd.underlying22
    go_enter Tryd.func25, Tryd.ntmps25
    go_wp2_with fail
    go_ret
    exact ⟨_, rfl, by rw [HZ.out]; exact TV.nil, Below.refl _ _⟩
  · have H : Hid (TS w (some ad) n ts) := h
    have hl := h.len
    clear h
    have hnil : ∀ W : World, (binOp .eql 22 (.slice (some ad) n c) (.slice none 0 0)).run Tryd.prog W = .ok (.bool false) W := fun W => Lib.run_eql_slice_nil W _ _ (some ad) n c 0 0 Tryd.underlying22
    go_enter Tryd.func25, Tryd.ntmps25
    go_wp2_with (at_builtin; go_must (refine wpList_append_ts (by rfl) _ _ rfl rfl w.heap.size _ [] rfl (own_emptyT w _ rfl) (some ad) n c ts rfl (H.out.below (below1 w _)) (by simp; omega) (by simp) ?_))
    intro a' cap' w2 ho2 hg2
    have HO2 : Hid (TV w2 (.slice a' n cap') ts) := by
      have := own_tv' (ts := ts) (a := a') (n := n) (cap := cap') (base := w.heap.size) (w := w2) (by rw [hl]; simpa using ho2) (by omega) hl
      exact this
    have HB2 : Hid (Below w.heap.size w w2) := grown_below (below1 w _) (own_emptyT w _ rfl) hg2
    clear ho2 hg2
    go_wp2_with fail
    go_ret
    exact ⟨_, rfl, by simpa using HO2.out, HB2.out⟩
/-- What the packets of a sort have. -/
def ndT : Nat → List Tm
  | 1 => [⟨3, 2054#64, 65535#64⟩]
  | 2 => [⟨3, 2048#64, 65535#64⟩]
  | 3 => [⟨3, 2048#64, 65535#64⟩, ⟨12, 1#64, 255#64⟩]
  | 4 => [⟨3, 2048#64, 65535#64⟩]
  | 5 => [⟨3, 2048#64, 65535#64⟩, ⟨12, 6#64, 255#64⟩]
  | _ => []
theorem nd_chk : ∀ o, o < 6 → chk abV 0 (ndT o) = true := by decide +kernel
theorem nd_len (o : Nat) : (ndT o).length ≤ 2 := by unfold ndT; split <;> simp
theorem nd_row (o : Nat) (ho : o ≤ 5) : (ndT o).length = needLen o ∧ (needC o).toList = rowT (ndT o) := by
  match o, ho with
  | 0, _ => exact ⟨rfl, rfl⟩
  | 1, _ => exact ⟨rfl, rfl⟩
  | 2, _ => exact ⟨rfl, rfl⟩
  | 3, _ => exact ⟨rfl, rfl⟩
  | 4, _ => exact ⟨rfl, rfl⟩
  | 5, _ => exact ⟨rfl, rfl⟩
theorem row_ts {W : World} {g : Nat} {C : Array Value} {ts : List Tm} (h : W.heap[g]? = some (.cells C 55 (0, 0))) (hC : C.toList = rowT ts) (hr : ts.length ≤ 5864062014805) : TS W (some ⟨g, 0, none⟩) ts.length ts := by
  refine ⟨rfl, hr, .inr ⟨g, 0, rfl, fun i t hi => ?_⟩⟩
  have q : ∀ k, k < 3 → W.cell? ⟨g, i * 3 + k, none⟩ = (cellsT t)[k]? := fun k hk => by
    rw [cell_row h, ← rowT_at ts i t hi k hk, ← hC, Array.getElem?_toList]
  have q0 := q 0 (by omega)
  have q1 := q 1 (by omega)
  have q2 := q 2 (by omega)
  simp only [Nat.zero_add]
  exact ⟨q0, q1, q2⟩
theorem need_tv {W : World} {o : Nat} {v : Value} (ho : o ≤ 5) (h : NeedS W o v) : TV W v (ndT o) := by
  obtain ⟨hl, hrow⟩ := nd_row o ho
  rcases h with ⟨h0, rfl⟩ | ⟨g, rfl, hg⟩
  · rw [List.length_eq_zero_iff.1 (hl.trans h0)]
    exact TV.nil
  · rw [← hl]
    exact ⟨_, _, _, rfl, Nat.le_refl _, row_ts hg hrow (by have := nd_len o; omega)⟩
theorem needsT_any (f : Int) (h1 : 1 ≤ f) (h2 : f ≤ 28) (w : World) : Calls Tryd.prog 26 #[.int .i64 f] w fun e w' => ∃ v, e = .returned v ∧ TV w' v (ndT (fOf f.toNat)) ∧ Below w.heap.size w w' := by
  obtain ⟨k, rfl⟩ := Int.eq_ofNat_of_zero_le (show 0 ≤ f by omega)
  refine (needs_any k (by omega) (by omega) w).mono ?_
  rintro e w' ⟨v, rfl, hn, hb⟩
  exact ⟨v, rfl, need_tv (fOf_le k) hn, hb⟩
theorem chk_mem {k : Int} {ts : List Tm} (h : chk abV k ts = true) {i : Nat} {t : Tm} (hi : ts[i]? = some t) : okT abV t = true := by
  induction ts generalizing k i with
  | nil => simp at hi
  | cons x r ih =>
    obtain ⟨_, h2, h3⟩ := chk_cons h
    cases i with
    | zero => simp at hi; subst hi; exact h2
    | succ i => exact ih h3 (by simpa using hi)
/-- A match with the needs of the fields of a list. -/
def wholeF : List Tm → List Tm → Option (List Tm)
  | out, [] => some out
  | out, t :: r => match jn out (ndT (fOf t.f.toNat)) with
    | none => none
    | some o => wholeF o r
def wholeOf (ts : List Tm) : Option (List Tm) := if chk abV 0 ts = true then wholeF ts ts else none
set_option maxRecDepth 20000 in
set_option maxHeartbeats 1000000 in
theorem whole_any (v : Value) (ts : List Tm) (w : World) (h : TV w v ts) : Calls Tryd.prog 15 #[v] w fun e w' =>
    ∃ x, e = .returned (.tuple #[x, .bool (wholeOf ts).isSome, .int .i64 (chkE ts)]) ∧ TV w' x ((wholeOf ts).getD []) ∧ Below w.heap.size w w' := by
  have HV : Hid (TV w v ts) := h
  clear h
  cases hc : chk abV 0 ts
  · have hE : chkE ts = 90 := if_neg (by simp [hc])
    have HN : Hid (wholeOf ts = none) := if_neg (by simp [hc])
    rw [hE]
    go_enter Tryd.func15, Tryd.ntmps15
    go_wp2_with fail
    refine (check_any v ts _ HV.out).mono ?_
    rw [hE]
    rintro e W1 ⟨rfl, hb1⟩
    have HB1 : Hid _ := hb1
    clear hb1 hE hc
    go_wp2_with fail
    go_ret3
    exact ⟨_, by rw [HN.out]; rfl, by rw [HN.out]; exact TV.nil, HB1.out⟩
  · have hE : chkE ts = 0 := if_pos hc
    have HN : Hid (wholeOf ts = wholeF ts ts) := if_pos hc
    rw [hE]
    have HC : Hid _ := hc
    clear hc
    obtain ⟨a, n, c, rfl, hcap, hts⟩ := HV.out
    have hl := hts.len
    have hr := hts.room
    have H : Hid (TS w a n ts) := hts
    clear hts
    go_enter Tryd.func15, Tryd.ntmps15
    go_wp2_with fail
    refine (check_any _ ts _ HV.out).mono ?_
    rw [hE]
    rintro e W1 ⟨rfl, hb1⟩
    have HB1 : Hid _ := hb1
    clear hb1 hE
    go_wp2_with fail
    refine (clone_any _ ts _ (HV.out.below HB1.out)).mono ?_
    rintro e W2 ⟨x2, rfl, hx2, hb2⟩
    have HX2 : Hid (TV W2 x2 ts) := hx2
    have HB2 : Hid (Below w.heap.size w W2) := HB1.out.trans (hb2.mono HB1.out.size)
    clear hx2 hb2 HB1
    go_wp2_with fail
    go_loopw [6, 7, 19] (fun s6 s7 s wr => ∃ (k : Nat) (out : List Tm) (vo : Value), k ≤ n ∧ vo = s6 ∧ s = .int .i64 k ∧ s7 = .bool true ∧ Hid (TV wr vo out) ∧ Hid (chk abV 0 out = true) ∧ Hid (wholeF ts ts = wholeF out (ts.drop k)) ∧ Below w.heap.size w wr) (fun _ _ s _ => n - (intOf s).toNat)
    case atStart => exact ⟨0, ts, x2, by omega, rfl, rfl, rfl, HX2.out, HC.out, rfl, HB2.out⟩
    case round =>
      obtain ⟨k, out, vo, hk, rfl, rfl, rfl, HO, HCO, HF, hb⟩ := hrel
      have HB : Hid (Below w.heap.size w wr) := hb
      have HT : Hid _ := H.out.below hb
      clear hb
      by_cases hlt : k < n
      · have hkI : (k : Int) < (n : Int) := by omega
        obtain ⟨t, ht⟩ : ∃ t, ts[k]? = some t := ⟨ts[k]'(by omega), List.getElem?_eq_getElem (by omega)⟩
        obtain ⟨b, off, rfl, c0, c1, c2, hbl⟩ := HT.out.at ht
        have HD : Hid _ := drop_consT ht
        have hfl := okT_field (chk_mem HC.out ht)
        clear HT ht
        go_wp2_with fail
        refine (needsT_any t.f hfl.1 hfl.2 _).mono ?_
        rintro e W3 ⟨vn, rfl, hvn, hb3⟩
        have HVN : Hid (TV W3 vn (ndT (fOf t.f.toNat))) := hvn
        have HOV : Hid (TV W3 vo out) := (HO.out.below (below1 _ _)).below hb3
        have HB3 : Hid (Below w.heap.size w W3) := HB.out.trans (((below1 _ _).trans (hb3.mono (by simp))).mono HB.out.size)
        clear hvn hb3 HB HO c0 c1 c2
        go_wp2_with fail
        refine (join_any vo vn out _ _ HOV.out HVN.out (by have := chk_le HCO.out; have := nd_len (fOf t.f.toNat); omega)).mono ?_
        rintro e W4 ⟨x4, rfl, hx4, hb4⟩
        have HX4 : Hid (TV W4 x4 ((jn out (ndT (fOf t.f.toNat))).getD [])) := hx4
        have HB4 : Hid (Below w.heap.size w W4) := HB3.out.trans (hb4.mono HB3.out.size)
        clear hx4 hb4 HOV HVN HB3
        have HF2 : Hid (wholeF ts ts = match jn out (ndT (fOf t.f.toNat)) with | none => none | some o => wholeF o (ts.drop (k + 1))) := by
          have := HF.out
          rw [HD.out] at this
          exact this
        have hnc : chk abV 0 (ndT (fOf t.f.toNat)) = true := nd_chk _ (by have := fOf_le t.f.toNat; omega)
        have HNC : Hid _ := hnc
        clear HF HD hnc
        cases hj : jn out (ndT (fOf t.f.toNat)) with
        | none =>
          rw [hj] at HF2
          have HW : Hid (wholeOf ts = none) := HN.out.trans HF2.out
          clear HF2 hj HX4
          simp only [Option.isSome_none]
          go_wp2_with fail
          go_ret3
          exact ⟨_, by rw [HW.out]; rfl, by rw [HW.out]; exact TV.nil, HB4.out⟩
        | some o =>
          rw [hj] at HF2 HX4
          have HCo : Hid (chk abV 0 o = true) := (jn_some HCO.out HNC.out hj).1
          have HF3 : Hid (wholeF ts ts = wholeF o (ts.drop (k + 1))) := HF2.out
          clear HF2 hj HNC HCO
          simp only [Option.isSome_some]
          go_wp2_with fail
          go_roundw
          case rel => exact ⟨k + 1, o, x4, by omega, rfl, by go_num, rfl, HX4, HCo, HF3, HB4.out⟩
          case measure => simp [intOf]; omega
      · have HW : Hid (wholeOf ts = some out) := by
          show _ = _
          rw [HN.out, HF.out, List.drop_of_length_le (by omega)]
          rfl
        clear HF
        obtain rfl : k = n := by omega
        go_wp2_with fail
        go_ret3
        exact ⟨_, by rw [HW.out]; rfl, by rw [HW.out]; exact HO.out, HB.out⟩

theorem whole_lives : wholeOf [tB] = some [tA, tB] := by kernel_rfl
theorem chk_99 : chkE [⟨99, 0#64, 0#64⟩] = 90 := by kernel_rfl
theorem chk_lives : chkE [tB] = 0 := by kernel_rfl
set_option maxRecDepth 20000 in
set_option maxHeartbeats 1000000 in
theorem lives_any (w : World) (htab : w.cell? ⟨2, 15, none⟩ = some (.int .u8 4)) : Calls Tryd.prog 9 #[] w fun e w' => e = .returned (.bool true) ∧ Below w.heap.size w w' := by
  have HT : Hid _ := htab
  have hgl : 2 < w.heap.size := cell_lt htab
  have HGL : Hid _ := hgl
  clear htab hgl
  have hone : TV (w.alloc (.cells #[.int .i64 19, .int .u64 80, .int .u64 65535] 55)) (.slice (some ⟨w.heap.size, 0, none⟩) 1 1) [tB] := ⟨_, _, _, rfl, Nat.le_refl _, ts_one w tB⟩
  have HONE : Hid _ := hone
  clear hone
  go_enter Tryd.func9, Tryd.ntmps9
  go_wp2_with fail
  refine (whole_any _ [tB] _ HONE.out).mono ?_
  rw [whole_lives, chk_lives]
  rintro e W1 ⟨x, rfl, hx, hb1⟩
  have HX : Hid (TV W1 x [tA, tB]) := hx
  have HB1 : Hid (Below w.heap.size w W1) := (below1 w _).trans (hb1.mono (by simp))
  clear hx hb1 HONE
  simp only [Option.isSome_some]
  go_wp2_with fail
  refine (text_two x _ HX.out ((HB1.out.cell (p := ⟨2, 15, none⟩) HGL.out).trans HT.out)).mono ?_
  rintro e W2 ⟨rfl, hb2⟩
  have HB2 : Hid (Below w.heap.size w W2) := HB1.out.trans (hb2.mono HB1.out.size)
  clear hb2 HX HB1
  have hbad : TV (W2.alloc (.cells #[.int .i64 99, .int .u64 0, .int .u64 0] 55)) (.slice (some ⟨W2.heap.size, 0, none⟩) 1 1) [⟨99, 0#64, 0#64⟩] := ⟨_, _, _, rfl, Nat.le_refl _, ts_one W2 ⟨99, 0#64, 0#64⟩⟩
  have HBAD : Hid _ := hbad
  clear hbad
  go_wp2_with fail
  refine (check_any _ _ _ HBAD.out).mono ?_
  rw [chk_99]
  rintro e W3 ⟨rfl, hb3⟩
  have HB3 : Hid (Below w.heap.size w W3) := HB2.out.trans (((below1 W2 _).trans (hb3.mono (by simp))).mono HB2.out.size)
  clear hb3 HBAD HB2
  go_wp2_with fail
  go_ret
  exact ⟨rfl, HB3.out⟩
end Go.Proofs.YtpinhnkceaephaaDoor
