/- What Hop of the reference for ip answers on any bytes. Condition: a slice of less than 2^47 bytes. -/
import Derived.Test.YtajabhffpeckhaaRDec3
import Derived.Test.YtajabhffpeckhaaHop
namespace Go.Proofs.Ytajabhffpeckhaa
open Go.RowKit

/-- The bytes of a head, with zeros up to its total length. -/
def pad (zs : List Int) : List Int := zs ++ List.replicate ((zs.getD 2 0 * 256 + zs.getD 3 0).toNat - zs.length) 0

theorem pad_len (zs : List Int) : (pad zs).length = zs.length + ((zs.getD 2 0 * 256 + zs.getD 3 0).toNat - zs.length) := by simp [pad]
theorem pad_getD (zs : List Int) (i : Nat) (h : i < zs.length) : (pad zs).getD i 0 = zs.getD i 0 := by
  simp [pad, List.getD_eq_getElem?_getD, List.getElem?_append, h]
theorem pad_bd (zs : List Int) (hz : ∀ i, 0 ≤ zs.getD i 0 ∧ zs.getD i 0 ≤ 255) : ∀ i, 0 ≤ (pad zs).getD i 0 ∧ (pad zs).getD i 0 ≤ 255 :=
  fits_append hz (fun i => by
    simp only [List.getD_eq_getElem?_getD, List.getElem?_replicate]
    split <;> simp)
theorem pad_ok {zs : List Int} (hz : ∀ i, 0 ≤ zs.getD i 0 ∧ zs.getD i 0 ≤ 255) (h20 : 20 ≤ zs.length) {m : Nat} (h : MOk zs 65535 m) : MOk (pad zs) (pad zs).length m := by
  have h2 := hz 2
  have h3 := hz 3
  have hl := h.len
  have ht := h.twenty
  refine ⟨by rw [pad_len]; omega, h.twenty, ?_, ?_, ?_, ?_⟩
  · rw [pad_getD _ _ (by omega)]; exact h.four
  · rw [pad_getD _ _ (by omega), pad_getD _ _ (by omega), pad_len]; omega
  · rw [pad_getD _ _ (by omega), pad_getD _ _ (by omega)]; exact h.total
  · unfold pad
    rw [List.take_append_of_le_length hl]
    exact h.sum
theorem pad_back {zs : List Int} (hz : ∀ i, 0 ≤ zs.getD i 0 ∧ zs.getD i 0 ≤ 255) (h20 : 20 ≤ zs.length) {m : Nat} (h : MOk (pad zs) (pad zs).length m) (hm : m ≤ zs.length) : MOk zs 65535 m := by
  have h2 := hz 2
  have h3 := hz 3
  obtain ⟨a1, a2, a3, a4, a5, a6⟩ := h
  rw [pad_getD _ _ (by omega)] at a3
  rw [pad_getD _ _ (by omega), pad_getD _ _ (by omega)] at a5
  refine ⟨hm, a2, a3, by omega, a5, ?_⟩
  unfold pad at a6
  rw [List.take_append_of_le_length hm] at a6
  exact a6

theorem own_empty2 (w : World) (base B : Nat) (hB : B = w.heap.size) (hb : base ≤ w.heap.size) : (w.alloc (.cells #[] 5)).ownsRow base 5 1 (.slice (some ⟨B, 0, none⟩) 0 0) 0 (([] : List Int).map (Value.int .u8)) := by
  subst hB
  exact own_empty w base hb

theorem rhop_short (w : World) (a : Option Addr) (n cap : Nat) (h : n < 20) :
    Calls Try.prog 19 #[.slice a n cap] w fun e w' => e = .returned hopNo ∧ Below w.heap.size w w' := by
  have h1 : (n : Int) < 20 := by omega
  go_enter Try.func19, Try.ntmps19
  go_wp2
  go_ret2
  exact ⟨rfl, Below.refl _ _⟩

set_option maxHeartbeats 4000000 in
theorem rhop_no (w : World) (b off n cap : Nat) (zs : List Int) (h : BS w (some ⟨b, off, none⟩) n zs) (hcap : n ≤ cap) (hm : cap ≤ 140737488351232) (h20 : 20 ≤ n) (hno : ¬ ∃ m, MOk zs 65535 m ∧ 2 ≤ zs.getD 8 0) :
    Calls Try.prog 19 #[.slice (some ⟨b, off, none⟩) n cap] w fun e w' => e = .returned hopNo ∧ Below w.heap.size w w' := by
  obtain ⟨i0, hi, hz0, hz1, hz2⟩ := info_parts info5
  have hl := h.len
  have h1 : ¬ (n : Int) < 20 := by omega
  have hT : num ((zs.drop 2).take 2) = zs.getD 2 0 * 256 + zs.getD 3 0 := num_two zs 2 (by omega)
  have hTb : 0 ≤ zs.getD 2 0 * 256 + zs.getD 3 0 ∧ zs.getD 2 0 * 256 + zs.getD 3 0 ≤ 65535 := by have := h.fits 2; have := h.fits 3; omega
  have hc4 : (4 : Int) ≤ cap := by omega
  have hne2 : ¬ cap = 2 := by omega
  have H : Hid (BS w (some ⟨b, off, none⟩) n zs) := h
  have Hpl : Hid ((pad zs).length = n + ((zs.getD 2 0 * 256 + zs.getD 3 0).toNat - n)) := by show _ = _; rw [pad_len, hl]
  have Hpb : Hid _ := pad_bd zs h.fits
  have Hp8 : Hid (num (((pad zs).drop 8).take 1) = zs.getD 8 0) := by show _ = _; rw [num_one _ 8 (by rw [pad_len]; omega), pad_getD _ _ (by omega)]
  have Hp : Hid (pad zs = zs ++ List.replicate ((zs.getD 2 0 * 256 + zs.getD 3 0).toNat - n) 0) := by show _ = _; rw [← hl]; rfl
  have hf8 := h.fits 8
  have Hback : Hid (∀ m, MOk (pad zs) (pad zs).length m → m ≤ n → zs.getD 8 0 < 2) := fun m h2 hmn => by
    rcases Int.lt_or_le (zs.getD 8 0) 2 with h8 | h8
    · exact h8
    · exact absurd ⟨m, pad_back h.fits (by omega) h2 (by omega), h8⟩ hno
  clear hno
  clear h
  generalize zs.getD 2 0 * 256 + zs.getD 3 0 = T at *
  obtain ⟨T, rfl⟩ := Int.eq_ofNat_of_zero_le hTb.1
  go_enter Try.func19, Try.ntmps19
  go_wp2_with fail
  refine (rnum_at H.out (Below.refl _ _) 2 2 _ (by omega) (by omega) (by omega)).mono ?_
  rintro e w1 ⟨rfl, hw⟩
  have hw' := hw.symm
  subst hw'
  clear hw
  go_wp2_with (at_builtin; refine wpList_append_bs (by rfl) (.tmp 19) (.tmp 20) 22 rfl w.heap.size 5 i0 Try.underlying22 hi hz0 hz1 hz2 _ 0 [] rfl (own_empty w _ (Nat.le_refl _)) _ n cap zs rfl (H.out.below ((Below.refl _ _).alloc (Nat.le_refl _) _)) (by omega) (by simp) ?_; intro a' cap' w1 hown hgrow)
  have hr0 : RB w w1 (.slice a' n cap') n zs := ⟨by simpa using hown, ((Below.refl _ _).alloc (Nat.le_refl _) _).grown hgrow (by simp) (by rintro k ⟨⟩; exact Nat.le_refl _)⟩
  have R0 : Hid _ := hr0
  clear hr0 hown hgrow
  go_loopw [5] (fun v wr => ∃ (j : Nat) (a2 : Option Addr) (cap2 : Nat), v = .slice a2 (n + j) cap2 ∧ (j = 0 ∨ n + j ≤ T) ∧ Hid (RB w wr (.slice a2 (n + j) cap2) (n + j) (zs ++ List.replicate j 0))) (fun v _ => T - (match v with | .slice _ l _ => l | _ => 0))
  case atStart => exact ⟨0, a', cap', rfl, .inl rfl, by show RB _ _ _ _ _; simpa using R0.out⟩
  case round =>
    obtain ⟨j, a2, cap2, rfl, hj, R⟩ := hrel
    by_cases hlt : n + j < T
    · have hI : ((n + j : Nat) : Int) < T := by omega
      have hI2 : (n : Int) + j < T := by omega
      go_wp2_with (at_builtin; refine wpList_append_rb (w1 := w) Try.underlying22 info5 ?_ (.tmp 26) (.tmp 27) ?_ (.slice a2 (n + j) cap2) (n + j) (zs ++ List.replicate j 0) ?_ ⟨R.out.own.alloc _, R.out.bel.alloc R.out.bel.size _⟩ _ _ 1 [0] ?_ (bs_one wr 0 _ rfl (by omega)) ?_ ?_; rfl; rfl; rfl; rfl; omega; intro a3 c3 W3 r3)
      have R3 : Hid (RB w W3 (.slice a3 (n + (j + 1)) c3) (n + (j + 1)) (zs ++ List.replicate (j + 1) 0)) := by
        have := r3
        rw [List.append_assoc, show List.replicate j (0 : Int) ++ [0] = List.replicate (j + 1) 0 from (List.replicate_succ' ..).symm] at this
        exact this
      clear r3
      go_wp2
      go_roundw
      case rel => exact ⟨j + 1, a3, c3, rfl, .inr (by omega), R3⟩
      case measure => simp; omega
    · have hI : ¬ (((n + j : Nat) : Int) < T) := by omega
      have hI2 : ¬ ((n : Int) + j < T) := by omega
      obtain rfl : j = T - n := by omega
      have BP : Hid (BS wr a2 (n + (T - n)) (pad zs)) := by
        have := R.out.own
        rw [show zs ++ List.replicate (T - n) 0 = pad zs from by rw [Hp.out]; simp] at this
        exact own_bs this Hpb.out (by omega)
      have hB : Below w.heap.size w wr := R.out.bel
      have hcap2 : n + (T - n) ≤ cap2 := by obtain ⟨_, _, e, h⟩ := own_form R.out.own; cases e; exact h
      clear R R0
      go_wp2_with fail
      rcases msr_cases (pad zs) ((n + (T - n) : Nat) : Int) Hpb.out with ⟨f, hf, hms⟩ | ⟨m, hok⟩
      · have hf0 : (f != 0) = true := by simp; omega
        refine ((rdec_any wr a2 _ cap2 (pad zs) BP.out hcap2).1 f hf hms).mono ?_
        rintro e W2 ⟨rfl, hb⟩
        have hb2 : Below w.heap.size w W2 := hB.trans (hb.mono hB.size)
        clear hb hms BP hB
        unfold ip0
        go_wp2
        go_ret2
        exact ⟨rfl, hb2.alloc hb2.size _⟩
      · have hlow : m ≤ n → zs.getD 8 0 < 2 := Hback.out m (by rw [Hpl.out, Int.toNat_natCast]; exact hok)
        have hmI : (m : Int) ≤ 60 := by have := hok.four.2.2; omega
        refine ((rdec_any wr a2 _ cap2 (pad zs) BP.out hcap2).2 m hok).mono ?_
        unfold ipF
        rw [Hp8.out]
        rintro e W2 ⟨rfl, hb⟩
        have hb2 : Below w.heap.size w W2 := hB.trans (hb.mono hB.size)
        clear hb hok BP hB Hback
        generalize zs.getD 8 0 = z8 at *
        by_cases hmn : m ≤ n
        · have hz := hlow hmn
          have hmnI : ¬ (n : Int) < m := by omega
          clear hlow
          go_wp2
          go_ret2
          exact ⟨rfl, hb2.alloc hb2.size _⟩
        · have hmnI : (n : Int) < m := by omega
          clear hlow
          go_wp2
          go_ret2
          exact ⟨rfl, hb2.alloc hb2.size _⟩

set_option maxHeartbeats 4000000 in
theorem rhop_yes (w : World) (b off n cap : Nat) (zs : List Int) (h : BS w (some ⟨b, off, none⟩) n zs) (hcap : n ≤ cap) (hm : cap ≤ 140737488351232) (h20 : 20 ≤ n) (m : Nat) (hok : MOk zs 65535 m) (h8 : 2 ≤ zs.getD 8 0) :
    Calls Try.prog 19 #[.slice (some ⟨b, off, none⟩) n cap] w fun e w' => ∃ a cap, e = .returned (.tuple #[.slice a n cap, .bool true]) ∧ BS w' a n (hopB zs) ∧ Below w.heap.size w w' := by
  obtain ⟨i0, hi, hz0, hz1, hz2⟩ := info_parts info5
  have hl := h.len
  have h1 : ¬ (n : Int) < 20 := by omega
  have hT : num ((zs.drop 2).take 2) = zs.getD 2 0 * 256 + zs.getD 3 0 := num_two zs 2 (by omega)
  have hTb : 0 ≤ zs.getD 2 0 * 256 + zs.getD 3 0 ∧ zs.getD 2 0 * 256 + zs.getD 3 0 ≤ 65535 := by have := h.fits 2; have := h.fits 3; omega
  have hc4 : (4 : Int) ≤ cap := by omega
  have hne2 : ¬ cap = 2 := by omega
  have H : Hid (BS w (some ⟨b, off, none⟩) n zs) := h
  have Hpl : Hid ((pad zs).length = n + ((zs.getD 2 0 * 256 + zs.getD 3 0).toNat - n)) := by show _ = _; rw [pad_len, hl]
  have Hpb : Hid _ := pad_bd zs h.fits
  have Hp8 : Hid (num (((pad zs).drop 8).take 1) = zs.getD 8 0) := by show _ = _; rw [num_one _ 8 (by rw [pad_len]; omega), pad_getD _ _ (by omega)]
  have Hp : Hid (pad zs = zs ++ List.replicate ((zs.getD 2 0 * 256 + zs.getD 3 0).toNat - n) 0) := by show _ = _; rw [← hl]; rfl
  have hf8 := h.fits 8
  have hpok : Hid (MOk (pad zs) (pad zs).length m) := pad_ok h.fits (by omega) hok
  have hmn : (m : Int) ≤ n := by have := hok.len; omega
  have hmI : (m : Int) ≤ 60 := by have := hok.four.2.2; omega
  have hmnI : ¬ (n : Int) < m := by omega
  have hf9 := h.fits 9
  have hf10 := h.fits 10
  have hf11 := h.fits 11
  have Hfits : Hid _ := h.fits
  have hhop : Hid (hopB zs = ((zs.set 8 (zs.getD 8 0 - 1)).set 10 (hopC zs / 256)).set 11 (hopC zs % 256)) := rfl
  have hhC : Hid (65535 - fld (fld (65535 - (zs.getD 10 0 * 256 + zs.getD 11 0) + (65535 - (zs.getD 8 0 * 256 + zs.getD 9 0))) + ((zs.getD 8 0 - 1) * 256 + zs.getD 9 0)) = hopC zs) := rfl
  have hCb := hopC_bd zs h.fits (by omega)
  clear hok
  clear h
  generalize zs.getD 2 0 * 256 + zs.getD 3 0 = T at *
  obtain ⟨T, rfl⟩ := Int.eq_ofNat_of_zero_le hTb.1
  go_enter Try.func19, Try.ntmps19
  go_wp2_with fail
  refine (rnum_at H.out (Below.refl _ _) 2 2 _ (by omega) (by omega) (by omega)).mono ?_
  rintro e w1 ⟨rfl, hw⟩
  have hw' := hw.symm
  subst hw'
  clear hw
  go_wp2_with (at_builtin; refine wpList_append_bs (by rfl) (.tmp 19) (.tmp 20) 22 rfl w.heap.size 5 i0 Try.underlying22 hi hz0 hz1 hz2 _ 0 [] rfl (own_empty w _ (Nat.le_refl _)) _ n cap zs rfl (H.out.below ((Below.refl _ _).alloc (Nat.le_refl _) _)) (by omega) (by simp) ?_; intro a' cap' w1 hown hgrow)
  have hr0 : RB w w1 (.slice a' n cap') n zs := ⟨by simpa using hown, ((Below.refl _ _).alloc (Nat.le_refl _) _).grown hgrow (by simp) (by rintro k ⟨⟩; exact Nat.le_refl _)⟩
  have R0 : Hid _ := hr0
  clear hr0 hown hgrow
  go_loopw [5] (fun v wr => ∃ (j : Nat) (a2 : Option Addr) (cap2 : Nat), v = .slice a2 (n + j) cap2 ∧ (j = 0 ∨ n + j ≤ T) ∧ Hid (RB w wr (.slice a2 (n + j) cap2) (n + j) (zs ++ List.replicate j 0))) (fun v _ => T - (match v with | .slice _ l _ => l | _ => 0))
  case atStart => exact ⟨0, a', cap', rfl, .inl rfl, by show RB _ _ _ _ _; simpa using R0.out⟩
  case round =>
    obtain ⟨j, a2, cap2, rfl, hj, R⟩ := hrel
    by_cases hlt : n + j < T
    · have hI : ((n + j : Nat) : Int) < T := by omega
      have hI2 : (n : Int) + j < T := by omega
      go_wp2_with (at_builtin; refine wpList_append_rb (w1 := w) Try.underlying22 info5 ?_ (.tmp 26) (.tmp 27) ?_ (.slice a2 (n + j) cap2) (n + j) (zs ++ List.replicate j 0) ?_ ⟨R.out.own.alloc _, R.out.bel.alloc R.out.bel.size _⟩ _ _ 1 [0] ?_ (bs_one wr 0 _ rfl (by omega)) ?_ ?_; rfl; rfl; rfl; rfl; omega; intro a3 c3 W3 r3)
      have R3 : Hid (RB w W3 (.slice a3 (n + (j + 1)) c3) (n + (j + 1)) (zs ++ List.replicate (j + 1) 0)) := by
        have := r3
        rw [List.append_assoc, show List.replicate j (0 : Int) ++ [0] = List.replicate (j + 1) 0 from (List.replicate_succ' ..).symm] at this
        exact this
      clear r3
      go_wp2
      go_roundw
      case rel => exact ⟨j + 1, a3, c3, rfl, .inr (by omega), R3⟩
      case measure => simp; omega
    · have hI : ¬ (((n + j : Nat) : Int) < T) := by omega
      have hI2 : ¬ ((n : Int) + j < T) := by omega
      obtain rfl : j = T - n := by omega
      have BP : Hid (BS wr a2 (n + (T - n)) (pad zs)) := by
        have := R.out.own
        rw [show zs ++ List.replicate (T - n) 0 = pad zs from by rw [Hp.out]; simp] at this
        exact own_bs this Hpb.out (by omega)
      have hB : Below w.heap.size w wr := R.out.bel
      have hcap2 : n + (T - n) ≤ cap2 := by obtain ⟨_, _, e, h⟩ := own_form R.out.own; cases e; exact h
      clear R R0
      go_wp2_with fail
      have hok : MOk (pad zs) ((n + (T - n) : Nat) : Int) m := by have := hpok.out; rw [Hpl.out, Int.toNat_natCast] at this; exact this
      refine ((rdec_any wr a2 _ cap2 (pad zs) BP.out hcap2).2 m hok).mono ?_
      unfold ipF
      rw [Hp8.out]
      rintro e W2 ⟨rfl, hb⟩
      have hb2 : Below w.heap.size w W2 := hB.trans (hb.mono hB.size)
      clear hb hok BP hB hpok
      have HZ8 : Hid (zs.getD 8 0 = zs.getD 8 0) := rfl
      generalize hopC zs = C at *
      generalize hz8 : zs.getD 8 0 = z8 at *
      have Hz8 : Hid (zs.getD 8 0 = z8) := hz8
      have hzn : ¬ z8 < 2 := by omega
      clear hz8 HZ8
      have Hh : Hid (BS W2 (some ⟨b, off, none⟩) n zs) := H.out.below hb2
      go_wp2_with (at_builtin; refine wpList_append_bs (by rfl) (.tmp 49) (.tmp 50) 22 rfl W2.heap.size 5 i0 Try.underlying22 hi hz0 hz1 hz2 _ 0 [] rfl (own_empty2 (W2.alloc _) W2.heap.size _ (by simp) (by simp)) _ n cap zs rfl (Hh.out.below (below2 W2 _ _)) (by omega) (by simp; omega) ?_)
      intro a5 c5 W5 hown5 hgrow5
      have hb5 : Below W2.heap.size W2 W5 := (below2 W2 _ _).grown hgrow5 (by simp; omega) (by rintro k ⟨⟩; simp)
      clear hgrow5
      have ho5 : W5.ownsRow W2.heap.size 5 1 (.slice a5 n c5) n (zs.map (Value.int .u8)) := by simpa using hown5
      clear hown5
      obtain ⟨g, rfl, hg1, hg2⟩ := own_some ho5 (by omega)
      have hE : EncS W2 W5 g n c5 zs := ⟨ho5, hb5, Hfits.out, by omega⟩
      have y8 := hE.cell 8 (by omega)
      rw [Hz8.out] at y8
      have y9 := hE.cell 9 (by omega)
      have HE0 : Hid _ := hE
      clear hE ho5 hb5 hg1 hg2
      have hn8 : (8 : Int) < n := by omega
      have hn9 : (9 : Int) < n := by omega
      have hn10 : (10 : Int) < n := by omega
      have hn11 : (11 : Int) < n := by omega
      generalize hz9 : zs.getD 9 0 = z9 at *
      have Hz9 : Hid (zs.getD 9 0 = z9) := hz9
      clear hz9
      go_wp2_with fail
      go_quiet (fail)
      have hE : EncS W2 (W5.drewN nq) g n c5 zs := HE0.out.drewN nq
      clear y8 y9 HE0
      generalize W5.drewN nq = V at *
      have y8 := hE.cell 8 (by omega)
      rw [Hz8.out] at y8
      have u8 := hE.own.frozenAt 8
      have hE1 := hE.set 8 (z8 - 1) (by omega)
      have v8 := hE1.cell 8 (by omega)
      rw [getD_set_eq _ _ _ (by omega)] at v8
      have v9 := hE1.cell 9 (by omega)
      rw [getD_set_ne _ _ _ _ (by omega), Hz9.out] at v9
      have v10 := hE1.cell 10 (by omega)
      rw [getD_set_ne _ _ _ _ (by omega)] at v10
      have v11 := hE1.cell 11 (by omega)
      rw [getD_set_ne _ _ _ _ (by omega)] at v11
      have HE1 : Hid _ := hE1
      clear hE hE1
      generalize zs.getD 10 0 = z10 at *
      generalize zs.getD 11 0 = z11 at *
      go_wp2_with fail
      go_quiet (exact Calls.quiet_of_same (rupdate_any _ _ _ (by omega) (by omega) (by omega) (by omega) (by omega) (by omega) _))
      rw [hhC.out]
      have hE2 := HE1.out.drewN nq
      clear y8 u8 v8 v9 v10 v11 HE1
      generalize (V.setCell ⟨g, 8, none⟩ (.int .u8 (z8 - 1))).drewN nq = V2 at *
      have t10 := hE2.cell 10 (by omega)
      have t11 := hE2.cell 11 (by omega)
      have f10 := hE2.own.frozenAt 10
      have f11 := hE2.own.frozenAt 11
      have HE2 : Hid _ := hE2
      clear hE2
      go_wp2
      rw [show IntKind.u16.wrap (C.tdiv 256) % 256 = C / 256 from by rw [Int.tdiv_eq_ediv_of_nonneg hCb.1, IntKind.wrap_u16]; omega]
      go_ret2
      have h3 := (HE2.out.set 10 (C / 256) (by omega)).set 11 (C % 256) (by omega)
      refine ⟨some ⟨g, 0, none⟩, c5, rfl, ?_, ?_⟩
      · rw [hhop.out]
        exact h3.bs
      · exact hb2.trans (h3.bel.mono hb2.size)

theorem rhop_any (w : World) (a : Option Addr) (n cap : Nat) (zs : List Int) (h : BS w a n zs) (hcap : n ≤ cap) (hm : cap ≤ 140737488351232) :
    ((¬ ∃ m, MOk zs 65535 m ∧ 2 ≤ zs.getD 8 0) → Calls Try.prog 19 #[.slice a n cap] w fun e w' => e = .returned hopNo ∧ Below w.heap.size w w') ∧
    (∀ m, MOk zs 65535 m → 2 ≤ zs.getD 8 0 → Calls Try.prog 19 #[.slice a n cap] w fun e w' => ∃ a cap, e = .returned (.tuple #[.slice a n cap, .bool true]) ∧ BS w' a n (hopB zs) ∧ Below w.heap.size w w') := by
  have hl := h.len
  by_cases h20 : n < 20
  · exact ⟨fun _ => rhop_short w a n cap h20, fun m hm => by have := hm.len; have := hm.twenty; omega⟩
  · obtain ⟨b, off, rfl⟩ : ∃ b off, a = some ⟨b, off, none⟩ := by
      rcases h.cells with h0 | ⟨b, off, e, _⟩
      · omega
      · exact ⟨b, off, e⟩
    exact ⟨fun hno => rhop_no w b off n cap zs h hcap hm (by omega) hno, fun m hok h8 => rhop_yes w b off n cap zs h hcap hm (by omega) m hok h8⟩
end Go.Proofs.Ytajabhffpeckhaa
