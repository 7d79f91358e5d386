/- Parts of the proof, in one text. -/
import Derived.Test.YtgonckbdkgiddaaQN
import Derived.Test.YtgonckbdkgiddaaQG
import Derived.Test.YtgonckbdkgiddaaQHV
import Derived.Deep.DeepAppendWide
namespace Go.Proofs.Ytgonckbdkgiddaa
open Go.RowKit
set_option maxRecDepth 20000
theorem enc_first (src dst sp vni : Int) (oam : Bool) (os : List Opt) (fr : List Int) : (encB src dst sp vni oam os fr).getD 0 0 = 69 ∧ (encB src dst sp vni oam os fr).getD 2 0 * 256 + (encB src dst sp vni oam os fr).getD 3 0 = ((encB src dst sp vni oam os fr).length : Int) := by
  have hl := encB_len src dst sp vni oam os fr
  have hu := udpB_len sp vni oam os fr
  constructor
  · show (64 + (20 + ((0 : Nat) : Int)) / 4 : Int) = 69
    decide
  · have := Ip.ipB_total 0 0 16384 64 17 src dst [] ((udpB sp vni oam os fr).length : Int) (udpB sp vni oam os fr)
    have e : encB src dst sp vni oam os fr = Ip.ipB 0 0 16384 64 17 src dst [] ((udpB sp vni oam os fr).length : Int) ++ udpB sp vni oam os fr := rfl
    rw [← e] at this
    rw [this]
    simp
    omega
theorem getD_take9 (zs : List Int) (k i : Nat) (h : i < k) : (zs.take k).getD i 0 = zs.getD i 0 := by
  rw [List.getD_eq_getElem?_getD, List.getElem?_take, if_pos h, ← List.getD_eq_getElem?_getD]
theorem msr_short (src dst sp vni : Int) (oam : Bool) (os : List Opt) (fr : List Int) (k : Nat) (hk : k < (encB src dst sp vni oam os fr).length) : Ip.msr ((encB src dst sp vni oam os fr).take k) k = (0, 0, 20) := by
  obtain ⟨h1, h2⟩ := enc_first src dst sp vni oam os fr
  have hl : ((encB src dst sp vni oam os fr).take k).length = k := by rw [List.length_take]; omega
  unfold Ip.msr
  by_cases hc : (k : Int) < 20
  · rw [if_pos (by rw [hl]; exact hc)]
  · rw [if_neg (by rw [hl]; exact hc), getD_take9 _ _ 0 (by omega), getD_take9 _ _ 2 (by omega), getD_take9 _ _ 3 (by omega), h1, h2, if_neg (by omega), if_pos (by right; omega)]
theorem fits_take8 {zs : List Int} (h : Fit zs) (k : Nat) : Fit (zs.take k) := fits_take9 h k
/-- Too few bytes. -/
theorem decap_short (w : World) (a : Option Addr) (k cap : Nat) (src dst sp vni : Int) (oam : Bool) (os : List Opt) (fr : List Int) (h : BS w a k ((encB src dst sp vni oam os fr).take k)) (hk : k < (encB src dst sp vni oam os fr).length) (hcap : k ≤ cap) :
    Calls Try.prog 10 #[.slice a k cap] w fun e w' => e = .returned (.tuple #[.agg #[.int .u32 0, .int .u32 0, .int .i64 0, .int .i64 0, .bool false, .slice none 0 0, .string ⟨#[]⟩], .int .i64 20]) ∧ Below w.heap.size w w' :=
  decap_ipbad w a k cap _ h 20 rfl 0 0 (fun W hB => (Ip.decode_any W a k cap _ hB hcap).1 20 (.inl rfl) (msr_short src dst sp vni oam os fr k hk))
end Go.Proofs.Ytgonckbdkgiddaa

namespace Go.Proofs.Ytgonckbdkgiddaa
open Go.RowKit
set_option maxRecDepth 20000
set_option linter.unusedSimpArgs false
set_option maxHeartbeats 4000000 in
theorem longer_no (src dst sp vni : Int) (oam : Bool) (a : Option Addr) (n cap : Nat) (os : List Opt) (fr : List Int) (am : Value) (less : Int) (w : World) (h : OS w a n os) (f : Int) (hE : chkE sp vni os fr.length = f) (hf : (f != 0) = true) :
    Calls Try.prog 6 #[.agg (tnC src dst sp vni oam a n cap fr), am, .int .i64 less] w fun e w' => e = .returned (.bool true) ∧ Below w.heap.size w w' := by
  have hC : Hid _ := fun W (h : OS W a n os) => encap_no src dst sp vni oam a n cap os fr W h f hE hf
  unfold tnC at hC ⊢
  have H : Hid _ := h
  clear h hE
  go_enter Try.func6, Try.ntmps6
  go_wp2_with fail
  refine (hC.out _ (H.out.below (below1 w _))).mono ?_
  rintro e W1 ⟨rfl, hb⟩
  have HB : Hid (Below w.heap.size w W1) := (below1 w _).trans (hb.mono (by simp))
  clear hb hC
  go_wp2_with fail
  refine (glives_any _).mono ?_
  rintro e W2 ⟨rfl, hb⟩
  have HB2 : Hid (Below w.heap.size w W2) := HB.out.trans (hb.mono HB.out.size)
  clear hb HB
  go_wp2
  go_ret
  exact ⟨rfl, HB2.out⟩
end Go.Proofs.Ytgonckbdkgiddaa

namespace Go.Proofs.Ytgonckbdkgiddaa
open Go.RowKit
set_option maxRecDepth 20000
set_option linter.unusedSimpArgs false
theorem encB_fit (src dst sp vni : Int) (oam : Bool) (os : List Opt) (fr : List Int) (hfo : ∀ o ∈ os, Fit o.data) (hff : Fit fr) (hs : 0 ≤ src ∧ src ≤ 4294967295) (hd : 0 ≤ dst ∧ dst ≤ 4294967295) (hE : chkE sp vni os fr.length = 0) : Fit (encB src dst sp vni oam os fr) := by
  obtain ⟨p1, p2, p3, p4, p5⟩ := chk_parts hE
  have hpl := payB_len vni oam os fr
  have hsn := szO_nn os
  have hul := udpB_len sp vni oam os fr
  have hpf := payB_fit vni oam os fr hfo hff
  have hok : Ip.encOk 0 0 16384 64 17 ([] : List Int).length ((udpB sp vni oam os fr).length : Int) = true := by
    unfold Ip.encOk
    rw [show Ip.headOk 0 0 16384 64 17 ([] : List Int).length = true from by decide +kernel]
    simp; omega
  exact fits_app (Ip.ipB_bd (Ip.encOk_yes hok) hs hd (fun i => by simp)) (L4R.body_fits (udp_fine sp _ hpf (by omega)))
theorem encB_lens (src dst sp vni : Int) (oam : Bool) (os : List Opt) (fr : List Int) (hE : chkE sp vni os fr.length = 0) (hfo : ∀ o ∈ os, Fit o.data) (hff : Fit fr) (hs : 0 ≤ src ∧ src ≤ 4294967295) (hd : 0 ≤ dst ∧ dst ≤ 4294967295) : 28 ≤ (encB src dst sp vni oam os fr).length ∧ (encB src dst sp vni oam os fr).length ≤ 10000 :=
  ⟨by have := encB_len src dst sp vni oam os fr; omega, (enc_facts src dst sp vni oam os fr [] hs hd hE hfo hff).len⟩
theorem run_append_bsw {P : Program} (w : World) (base : Nat) (t ty e : TypeId) (i : TypeInfo) (ht : P.underlying t = some (.slice e)) (hi : P.info? e = some i) (hz : i.zero = some (.int .u8 0)) (hsize : i.size = 1) (hby : i.bytes = 1)
    (v : Value) (n : Nat) (xs : List Int) (hown : w.ownsRow base e 1 v n (xs.map (Value.int .u8))) {a : Option Addr} {m : Nat} {zs : List Int} (c : Nat) (hbs : BS w a m zs)
    (hsum : n + m ≤ 200000000000000) (hbase : base ≤ w.heap.size) :
    ∃ v' w', (Builtin.append_ #[t, t] ty #[v, .slice a m c]).run P w = .ok v' w' ∧ w'.ownsRow base e 1 v' (n + m) ((xs ++ zs).map (Value.int .u8)) ∧ w.grownBy w' v.ownBlock := by
  have hml : n + m ≤ maxLen := by unfold maxLen; omega
  rcases a with _ | ad
  · have hm0 : m = 0 := by
      rcases hbs.cells with h | ⟨b, off, h, _⟩
      · exact h
      · cases h
    subst hm0
    have hz0 : zs = [] := List.length_eq_zero_iff.1 hbs.len
    subst hz0
    refine ⟨v, w, run_append_none w base t ty e i 1 ht hi v n c _ hown, by simpa using hown, World.grownBy.refl _ _⟩
  · obtain ⟨v', w', h1, h2, h3, _⟩ := run_append_own_wide (P := P) w base t ty e i (.int .u8 0) 1 1 ht hi hz hsize hby rfl (by decide) v n _ hown ad m c (zs.map (Value.int .u8)) (by simp [hbs.len]) (fun j u hj => by
      obtain ⟨hjl, rfl⟩ := map_get hj
      rcases hbs.cells with h | ⟨b, off, h, hc⟩
      · have := hbs.len; omega
      · cases h
        rw [plain_add]; exact hc j hjl) (ints_oneCell _ _) hml (by omega) hbase
    exact ⟨v', w', h1, by simpa using h2, h3⟩

theorem wpList_append_bsw {P : Program} {w : World} {ops : Array Oper} {rest : List Oper} {o : Oper} {act : Act} {Q : Exit → Act → World → Prop} (hw : Region.wanted o (yielded ops act.tmps) = true) (s x : Operand) (t : TypeId)
    (ho : o.op = .call { callee := .builtin .append, args := #[s, x], argTypes := #[t, t] })
    (base : Nat) (e : TypeId) (i : TypeInfo) (ht : P.underlying t = some (.slice e)) (hi : P.info? e = some i) (hz : i.zero = some (.int .u8 0)) (hsize : i.size = 1) (hby : i.bytes = 1)
    (v : Value) (n : Nat) (xs : List Int) (hs : act.eval s = v) (hown : w.ownsRow base e 1 v n (xs.map (Value.int .u8)))
    (a : Option Addr) (m c : Nat) (zs : List Int) (hx : act.eval x = .slice a m c) (hbs : BS w a m zs) (hsum : n + m ≤ 200000000000000) (hbase : base ≤ w.heap.size)
    (h : ∀ a' cap' w', w'.ownsRow base e 1 (.slice a' (n + m) cap') (n + m) ((xs ++ zs).map (Value.int .u8)) → w.grownBy w' v.ownBlock → wpList P ops Q rest (act.put o.dst (.slice a' (n + m) cap')) w') : wpList P ops Q (o :: rest) act w := by
  refine BigFrame.wpList_want hw fun K hK => ?_
  obtain ⟨v', w', hr, h2, h3⟩ := run_append_bsw (P := P) w base t o.type e i ht hi hz hsize hby v n xs hown c hbs hsum hbase
  obtain ⟨a', cap', rfl, _⟩ := own_form h2
  unfold Oper.wp execOp
  simp only [ho, resolve, invoke, builtin, Sem.run_bind, Sem.run_pure, Result.andThen_ok, List.map_toArray, List.map_cons, List.map_nil, hs, hx, hr]
  exact hK _ _ (h a' cap' w' h2 h3)

theorem own_somez {w : World} {base : Nat} {e : TypeId} {a : Option Addr} {n cap : Nat} {xs : List Value} (h : w.ownsRow base e 1 (.slice a n cap) n xs) (hn : 0 < n) : ∃ g, a = some ⟨g, 0, none⟩ ∧ base ≤ g := by
  rcases h.2 with ⟨h0, rfl⟩ | ⟨g, cap', cur, e1, hb, _⟩
  · omega
  · exact ⟨g, by injection e1, hb⟩
theorem mod_way (less : Int) (L cap : Nat) (h0 : 0 < L) (h1 : L ≤ 10000) (hc : L ≤ cap) : ∃ k : Nat, k < L ∧ (0 : Int) ≤ k ∧ (k : Int) ≤ cap ∧ ((less.tmod (L : Int) = (k : Int) ∧ ¬ (k : Int) < 0) ∨ (∃ r, less.tmod (L : Int) = r ∧ r < 0 ∧ wrap64 (r + (L : Int)) = (k : Int))) := by
  have hb := Int.tmod_lt_of_pos less (show (0 : Int) < L by omega)
  have hc2 : -(L : Int) < less.tmod L := by
    have := Int.tmod_lt_of_pos (-less) (show (0 : Int) < L by omega)
    rw [Int.neg_tmod] at this
    omega
  by_cases hn : less.tmod (L : Int) < 0
  · obtain ⟨k, hk⟩ := Int.eq_ofNat_of_zero_le (show 0 ≤ less.tmod (L : Int) + L by omega)
    refine ⟨k, by omega, by omega, by omega, .inr ⟨_, rfl, hn, ?_⟩⟩
    rw [hk]
    unfold wrap64; omega
  · obtain ⟨k, hk⟩ := Int.eq_ofNat_of_zero_le (show 0 ≤ less.tmod (L : Int) by omega)
    exact ⟨k, by omega, by omega, by omega, .inl ⟨hk, by omega⟩⟩
set_option maxHeartbeats 4000000 in
theorem longer_yes (src dst sp vni : Int) (oam : Bool) (a : Option Addr) (n cap : Nat) (os : List Opt) (fr : List Int) (am : Option Addr) (nm cm : Nat) (ms : List Int) (less : Int) (w : World) (h : OS w a n os) (hE : chkE sp vni os fr.length = 0) (hs : 0 ≤ src ∧ src ≤ 4294967295) (hd : 0 ≤ dst ∧ dst ≤ 4294967295) (hff : Fit fr) (hb9 : BS w am nm ms) (hnm : nm ≤ 140737488351232) :
    Calls Try.prog 6 #[.agg (tnC src dst sp vni oam a n cap fr), .slice am nm cm, .int .i64 less] w fun e w' => e = .returned (.bool true) ∧ Below w.heap.size w w' := by
  have hC : Hid _ := fun W (h : OS W a n os) => encap_yes src dst sp vni oam a n cap os fr W h hE hs hd hff
  unfold tnC at hC ⊢
  have H : Hid _ := h
  have HM : Hid _ := hb9
  have HFO : Hid (∀ o ∈ os, Fit o.data) := fun o ho => (h.fits o ho).1
  obtain ⟨hL0, hL1⟩ := encB_lens src dst sp vni oam os fr hE HFO.out hff hs hd
  have HFE : Hid _ := encB_fit src dst sp vni oam os fr HFO.out hff hs hd hE
  have HS : Hid _ := fun W g k cap h hk hcap => decap_short W (some ⟨g, 0, none⟩) k cap src dst sp vni oam os fr h hk hcap
  have HE : Hid _ := fun W g n cap h hcap => decap_enc W g 0 n cap src dst sp vni oam os fr ms hs hd hE HFO.out hff h hcap
  have HD : Hid _ := fun W g n cap h hcap => decap_more W g 0 n cap src dst sp vni oam os fr ms hs hd hE HFO.out hff h hcap
  obtain ⟨i0, hi, hz0, hz1, hz2⟩ := info_parts info5
  have HML : Hid (ms.length = nm) := hb9.len
  have HMF : Hid (Fit ms) := hb9.fits
  clear h hb9
  obtain ⟨L, hL⟩ : ∃ L, (encB src dst sp vni oam os fr).length = L := ⟨_, rfl⟩
  obtain ⟨EB, hEB⟩ : ∃ EB, encB src dst sp vni oam os fr = EB := ⟨_, rfl⟩
  rw [hEB] at hL HFE HS HE HD hC hL0 hL1
  rw [hL] at HS hC hL0 hL1
  have HL : Hid _ := hL
  clear hL hEB
  go_enter Try.func6, Try.ntmps6
  go_wp2_with fail
  refine (hC.out _ (H.out.below (below1 w _))).mono ?_
  rintro e W1 ⟨a1, cap1, rfl, ho1, hb⟩
  obtain ⟨g1, rfl, hg1⟩ := own_somez ho1 (by omega)
  have B1 : Hid (Below w.heap.size w W1) := (below1 w _).trans (hb.mono (by simp))
  have S1 : Hid (BS W1 (some ⟨g1, 0, none⟩) L EB) := own_bs ho1 HFE.out (by omega)
  have hcp1 := own_caps ho1
  clear hb hC ho1
  go_wp2_with fail
  refine (glives_any _).mono ?_
  rintro e W2 ⟨rfl, hb⟩
  have B2 : Hid (Below w.heap.size w W2) := B1.out.trans (hb.mono B1.out.size)
  have S2 : Hid _ := S1.out.below hb
  have M2 : Hid _ := HM.out.below B2.out
  clear hb B1 S1 H HM
  go_wp2_with (at_builtin; refine wpList_append_bs (by rfl) _ _ 26 rfl W2.heap.size 5 i0 Try.underlying26 hi hz0 hz1 hz2 _ 0 [] rfl (own_empty W2 _ (Nat.le_refl _)) _ L cap1 _ rfl (S2.out.below (below1 W2 _)) (by omega) (by simp) ?_)
  intro a3 cap3 W3 hown hgrow
  have hb3 : Below W2.heap.size W2 W3 := (below1 W2 _).grown hgrow (by simp) (by rintro k ⟨⟩; exact Nat.le_refl _)
  have B3 : Hid (Below w.heap.size w W3) := B2.out.trans (hb3.mono B2.out.size)
  have S3 : Hid _ := S2.out.below hb3
  have M3 : Hid _ := M2.out.below hb3
  have hown3 : W3.ownsRow W2.heap.size 5 1 (.slice a3 L cap3) L (EB.map (Value.int .u8)) := by simpa using hown
  obtain ⟨g3, rfl, hg3⟩ := own_somez hown3 (by omega)
  have hsz3 := hb3.size
  clear hown hgrow M2
  go_wp2_with (at_builtin; refine wpList_append_bsw (by rfl) _ _ 26 rfl W2.heap.size 5 i0 Try.underlying26 hi hz0 hz1 hz2 _ L EB rfl hown3 am nm cm ms rfl M3.out (by omega) hsz3 ?_)
  intro a4 cap4 W4 hown hgrow
  rw [← List.map_append] at hown
  have hb4 : Below W2.heap.size W2 W4 := hb3.grown hgrow hsz3 (by rintro k ⟨⟩; exact hg3)
  have hc4 := own_caps hown
  obtain ⟨g4, rfl, hg4⟩ := own_somez hown (by omega)
  have S4 : Hid (BS W4 (some ⟨g4, 0, none⟩) (L + nm) (EB ++ ms)) := own_bs hown (fits_app HFE.out HMF.out) (by omega)
  have B4 : Hid (Below w.heap.size w W4) := B2.out.trans (hb4.mono B2.out.size)
  have S5 : Hid _ := S2.out.below hb4
  clear hown hgrow hown3 hb3 hb4 B3 S3 M3 B2 S2 hsz3 hg3 hg4 hi hz0 hz1 hz2
  obtain ⟨k, hkL, hkI, hkc, hmod⟩ : ∃ k : Nat, k < L ∧ (0 : Int) ≤ k ∧ (k : Int) ≤ cap1 ∧ ((less.tmod (L : Int) = (k : Int) ∧ ¬ (k : Int) < 0) ∨ (∃ r, less.tmod (L : Int) = r ∧ r < 0 ∧ wrap64 (r + (L : Int)) = (k : Int))) := mod_way less L cap1 (by omega) (by omega) hcp1.1
  go_wp2_with fail
  rcases Nat.eq_zero_or_pos nm with hn0 | hn0
  · subst hn0
    have hms : ms = [] := List.length_eq_zero_iff.1 HML.out
    refine (HE.out W4 g4 (L + 0) cap4 S4.out (by omega) hms).mono ?_
    rintro e W5 ⟨oa, oc, rfl, _, hb⟩
    have B5 : Hid (Below w.heap.size w W5) := B4.out.trans (hb.mono B4.out.size)
    have S6 : Hid _ := S5.out.below hb
    clear hb B4 S5 S4 HE HD
    rcases hmod with ⟨hr, hge⟩ | ⟨r, hr, hneg, hwr⟩
    · go_wp2_with fail
      refine (HS.out _ g1 k cap1 ((S6.out.below (below1 W5 _)).take k (by omega)) hkL (by omega)).mono ?_
      rintro e W6 ⟨rfl, hb⟩
      have B6 : Hid (Below w.heap.size w W6) := (B5.out.trans ((below1 W5 _).mono B5.out.size)).trans (hb.mono ((B5.out.trans ((below1 W5 _).mono B5.out.size)).size))
      clear hb S6 HS
      go_wp2_with fail
      refine (same_any 0 0 0 0 false ⟨#[]⟩ none none 0 0 0 [] _ (OS.empty _) (OS.empty _)).mono ?_
      rintro e W7 ⟨rfl, hb⟩
      go_wp2
      go_ret
      exact ⟨rfl, (B6.out.trans ((below1 W6 _).mono B6.out.size)).trans (hb.mono ((B6.out.trans ((below1 W6 _).mono B6.out.size)).size))⟩
    · go_wp2_with fail
      refine (HS.out _ g1 k cap1 ((S6.out.below (below1 W5 _)).take k (by omega)) hkL (by omega)).mono ?_
      rintro e W6 ⟨rfl, hb⟩
      have B6 : Hid (Below w.heap.size w W6) := (B5.out.trans ((below1 W5 _).mono B5.out.size)).trans (hb.mono ((B5.out.trans ((below1 W5 _).mono B5.out.size)).size))
      clear hb S6 HS
      go_wp2_with fail
      refine (same_any 0 0 0 0 false ⟨#[]⟩ none none 0 0 0 [] _ (OS.empty _) (OS.empty _)).mono ?_
      rintro e W7 ⟨rfl, hb⟩
      go_wp2
      go_ret
      exact ⟨rfl, (B6.out.trans ((below1 W6 _).mono B6.out.size)).trans (hb.mono ((B6.out.trans ((below1 W6 _).mono B6.out.size)).size))⟩
  · have hms : ms ≠ [] := by
      intro e
      have := HML.out
      rw [e] at this
      simp at this
      omega
    have hnI : (0 : Int) < nm := by omega
    have hnJ : ((nm : Int) == 0) = false := by simp; omega
    refine (HD.out W4 g4 (L + nm) cap4 S4.out (by omega) hms).mono ?_
    rintro e W5 ⟨rfl, hb⟩
    have B5 : Hid (Below w.heap.size w W5) := B4.out.trans (hb.mono B4.out.size)
    have S6 : Hid _ := S5.out.below hb
    clear hb B4 S5 S4 HE HD
    go_wp2_with fail
    refine (same_any 0 0 0 0 false ⟨#[]⟩ none none 0 0 0 [] _ (OS.empty _) (OS.empty _)).mono ?_
    rintro e W51 ⟨rfl, hb⟩
    have B51 : Hid (Below w.heap.size w W51) := (B5.out.trans ((below1 W5 _).mono B5.out.size)).trans (hb.mono ((B5.out.trans ((below1 W5 _).mono B5.out.size)).size))
    have S61 : Hid _ := (S6.out.below (below1 W5 _)).below hb
    clear hb B5 S6
    rcases hmod with ⟨hr, hge⟩ | ⟨r, hr, hneg, hwr⟩
    · go_wp2_with fail
      refine (HS.out _ g1 k cap1 ((S61.out.below (Below.refl _ _)).take k (by omega)) hkL (by omega)).mono ?_
      rintro e W6 ⟨rfl, hb⟩
      have B6 : Hid (Below w.heap.size w W6) := (B51.out.trans ((Below.refl _ _).mono B51.out.size)).trans (hb.mono ((B51.out.trans ((Below.refl _ _).mono B51.out.size)).size))
      clear hb S61 HS
      go_wp2_with fail
      refine (same_any 0 0 0 0 false ⟨#[]⟩ none none 0 0 0 [] _ (OS.empty _) (OS.empty _)).mono ?_
      rintro e W7 ⟨rfl, hb⟩
      go_wp2
      go_ret
      exact ⟨rfl, (B6.out.trans ((below1 W6 _).mono B6.out.size)).trans (hb.mono ((B6.out.trans ((below1 W6 _).mono B6.out.size)).size))⟩
    · go_wp2_with fail
      refine (HS.out _ g1 k cap1 ((S61.out.below (Below.refl _ _)).take k (by omega)) hkL (by omega)).mono ?_
      rintro e W6 ⟨rfl, hb⟩
      have B6 : Hid (Below w.heap.size w W6) := (B51.out.trans ((Below.refl _ _).mono B51.out.size)).trans (hb.mono ((B51.out.trans ((Below.refl _ _).mono B51.out.size)).size))
      clear hb S61 HS
      go_wp2_with fail
      refine (same_any 0 0 0 0 false ⟨#[]⟩ none none 0 0 0 [] _ (OS.empty _) (OS.empty _)).mono ?_
      rintro e W7 ⟨rfl, hb⟩
      go_wp2
      go_ret
      exact ⟨rfl, (B6.out.trans ((below1 W6 _).mono B6.out.size)).trans (hb.mono ((B6.out.trans ((below1 W6 _).mono B6.out.size)).size))⟩
end Go.Proofs.Ytgonckbdkgiddaa
