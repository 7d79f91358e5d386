/- For every head, ARP packet, place and byte the law EthTurned returns true, and its arguments read as they did; no condition. -/
import Derived.Test.YtfjhahofmmbleaaArpMath
import Derived.BigRegion
namespace Go.Proofs.Ytfjhahofmmbleaa
open Go.ChangeShapes Go.WideShapes Go.ChangeAt Go.RowKit

theorem xor_u8 (x y : Int) (hx : 0 ≤ x ∧ x ≤ 255) (hy : 0 ≤ y ∧ y ≤ 255) (hy0 : y ≠ 0) : (0 ≤ bits .xor .u8 x y ∧ bits .xor .u8 x y ≤ 255) ∧ bits .xor .u8 x y ≠ x := by
  rw [u8_xor x y hx.1 (by omega) hy.1 (by omega)]
  have h1 : x.toNat ^^^ y.toNat < 2 ^ 8 := Nat.xor_lt_two_pow (by omega) (by omega)
  refine ⟨by omega, fun e => ?_⟩
  have e1 : x.toNat ^^^ y.toNat = x.toNat := by omega
  have e2 : x.toNat ^^^ (x.toNat ^^^ y.toNat) = y.toNat := by rw [← Nat.xor_assoc, Nat.xor_self, Nat.zero_xor]
  rw [e1, Nat.xor_self] at e2
  omega

theorem set_ne (B : List Int) (k : Nat) (x : Int) (hk : k < B.length) (hx : x ≠ B.getD k 0) : B.set k x ≠ B := by
  intro e
  have := congrArg (fun l => l.getD k 0) e
  simp [List.getD_eq_getElem?_getD, hk] at this hx
  exact hx this

/-- Another byte in a head's bytes says something else. -/
theorem head_turned (d s : Int) (tg : Bool) (tag ty : Int) (zs : List Int) (h : ∀ i, 0 ≤ zs.getD i 0 ∧ zs.getD i 0 ≤ 255) (hl : zs.length = (headBytes d s tg tag ty).length) (hne : zs ≠ headBytes d s tg tag ty) :
    (∃ e, (e = 3 ∨ e = 20 ∨ e = 21) ∧ headV zs = ethV 0 0 false 0 0 0 e) ∨ ∃ d' s' tg' tag' ty', ∃ n : Nat, headV zs = ethV d' s' tg' tag' ty' n 0 ∧ (d' == d && (s' == s && (tg' == tg && (tag' == tag && ty' == ty)))) = false := by
  rcases head_cases zs h with hc | ⟨d', s', tg', tag', ty', n, hv, _, _, _, hb, hn⟩
  · exact .inl hc
  · refine .inr ⟨d', s', tg', tag', ty', n, hv, ?_⟩
    rw [Bool.eq_false_iff]
    intro e
    simp only [Bool.and_eq_true, beq_iff_eq] at e
    obtain ⟨rfl, rfl, rfl, rfl, rfl⟩ := e
    apply hne
    have hlen := congrArg List.length hb
    rw [List.length_take] at hlen
    rw [hb, List.take_of_length_le (by omega)]

theorem arp_turned (op sha spa tha tpa : Int) (zs : List Int) (h : ∀ i, 0 ≤ zs.getD i 0 ∧ zs.getD i 0 ≤ 255) (hl : zs.length = 28) (hne : zs ≠ arpBytes op sha spa tha tpa) :
    (∃ e, (e = 20 ∨ e = 21) ∧ arpOf zs = arpV 0 0 0 0 0 e) ∨ ∃ op' sha' spa' tha' tpa', arpOf zs = arpV op' sha' spa' tha' tpa' 0 ∧ (op' == op && (sha' == sha && (spa' == spa && (tha' == tha && tpa' == tpa)))) = false := by
  rcases arp_cases zs h with hc | ⟨op', sha', spa', tha', tpa', hv, _, _, _, _, _, hb, hn⟩
  · exact .inl hc
  · refine .inr ⟨op', sha', spa', tha', tpa', hv, ?_⟩
    rw [Bool.eq_false_iff]
    intro e
    simp only [Bool.and_eq_true, beq_iff_eq] at e
    obtain ⟨rfl, rfl, rfl, rfl, rfl⟩ := e
    apply hne
    rw [hb, List.take_of_length_le (by omega)]

theorem fits_set {zs : List Int} (h : ∀ i, 0 ≤ zs.getD i 0 ∧ zs.getD i 0 ≤ 255) (k : Nat) (u : Int) (hu : 0 ≤ u ∧ u ≤ 255) : ∀ i, 0 ≤ (zs.set k u).getD i 0 ∧ (zs.set k u).getD i 0 ≤ 255 := by
  intro i
  have := h i
  simp only [List.getD_eq_getElem?_getD, List.getElem?_set] at *
  split
  · split
    · simpa using hu
    · simp
  · exact this
theorem bs_set {W : World} {g n k : Nat} {zs : List Int} {u : Int} (h : BS W (some ⟨g, 0, none⟩) n zs) (hk : k < n) (hu : 0 ≤ u ∧ u ≤ 255) : BS (W.setCell ⟨g, k, none⟩ (.int .u8 u)) (some ⟨g, 0, none⟩) n (zs.set k u) := by
  have hl := h.len
  refine ⟨by simpa using hl, fits_set h.fits k u hu, h.room, ?_⟩
  rcases h.cells with h0 | ⟨b, off, e, hc⟩
  · omega
  · cases e
    refine .inr ⟨g, 0, rfl, fun i hi => ?_⟩
    rw [List.length_set] at hi
    have hci := hc i hi
    rw [Nat.zero_add] at hci ⊢
    by_cases hik : i = k
    · subst hik
      rw [World.cell?_setCell_same _ _ _ hci]
      simp [List.getD_eq_getElem?_getD, hi]
    · rw [World.cell?_setCell_other _ _ _ _ (fun e => hik (congrArg Addr.off e).symm), hci]
      simp [List.getD_eq_getElem?_getD, show ¬ k = i from fun e => hik e.symm]
theorem bs_far {W : World} {g g' off n k : Nat} {zs : List Int} {u : Value} (h : BS W (some ⟨g, off, none⟩) n zs) (hg : g' ≠ g) : BS (W.setCell ⟨g', k, none⟩ u) (some ⟨g, off, none⟩) n zs := by
  refine ⟨h.len, h.fits, h.room, ?_⟩
  rcases h.cells with h0 | ⟨b, off', e, hc⟩
  · exact .inl h0
  · cases e
    exact .inr ⟨g, off, rfl, fun i hi => (World.cell?_setCell_other _ _ _ _ (fun e => hg (congrArg Addr.block e))).trans (hc i hi)⟩
theorem AtB.far {W : World} {b g k : Nat} {arr : Array Value} {u : Value} (h : AtB W b arr) (hg : g ≠ b) : AtB (W.setCell ⟨g, k, none⟩ u) b arr :=
  ⟨by simpa using h.1, fun i => (World.cell?_setCell_other _ _ _ _ (fun e => hg (congrArg Addr.block e))).trans (h.2 i)⟩

theorem eth_neq (W : World) (d s tag ty d' s' tag' ty' : Int) (tg tg' : Bool) (h : (d' == d && (s' == s && (tg' == tg && (tag' == tag && ty' == ty)))) = false) :
    (binOp .neq 25 (.agg #[.int .u64 d', .int .u64 s', .bool tg', .int .i64 tag', .int .i64 ty']) (.agg #[.int .u64 d, .int .u64 s, .bool tg, .int .i64 tag, .int .i64 ty])).run Try.prog W = .ok (.bool true) W := by
  by_cases h1 : d' = d
  · subst h1
    by_cases h2 : s' = s
    · subst h2
      by_cases h3 : tg' = tg
      · subst h3
        by_cases h4 : tag' = tag
        · subst h4
          by_cases h5 : ty' = ty
          · subst h5; simp at h
          · simp [go_sem, h5]
        · simp [go_sem, h4]
      · simp [go_sem, h3]
    · simp [go_sem, h2]
  · simp [go_sem, h1]
theorem arp_neq (W : World) (op sha spa tha tpa op' sha' spa' tha' tpa' : Int) (h : (op' == op && (sha' == sha && (spa' == spa && (tha' == tha && tpa' == tpa)))) = false) :
    (binOp .neq 36 (.agg #[.int .i64 op', .int .u64 sha', .int .u32 spa', .int .u64 tha', .int .u32 tpa']) (.agg #[.int .i64 op, .int .u64 sha, .int .u32 spa, .int .u64 tha, .int .u32 tpa])).run Try.prog W = .ok (.bool true) W := by
  by_cases h1 : op' = op
  · subst h1
    by_cases h2 : sha' = sha
    · subst h2
      by_cases h3 : spa' = spa
      · subst h3
        by_cases h4 : tha' = tha
        · subst h4
          by_cases h5 : tpa' = tpa
          · subst h5; simp at h
          · simp [go_sem, h5]
        · simp [go_sem, h4]
      · simp [go_sem, h3]
    · simp [go_sem, h2]
  · simp [go_sem, h1]

set_option maxHeartbeats 4000000 in
theorem turned_yes (w : World) (d s : Int) (tg : Bool) (tag ty : Int) (hd : 0 ≤ d) (hs : 0 ≤ s) (op sha spa tha tpa : Int) (h1 : 0 ≤ sha) (h2 : 0 ≤ spa ∧ spa ≤ 4294967295) (h3 : 0 ≤ tha) (h4 : 0 ≤ tpa ∧ tpa ≤ 4294967295) (x y : Int) (hy : 0 ≤ y ∧ y ≤ 255) (hy0 : y ≠ 0)
    (hf : fitsB d s tg tag ty = true) (hg : arpFits op sha tha = true) :
    Calls Try.prog 7 #[.agg #[.int .u64 d, .int .u64 s, .bool tg, .int .i64 tag, .int .i64 ty], .agg #[.int .i64 op, .int .u64 sha, .int .u32 spa, .int .u64 tha, .int .u32 tpa], .int .i64 x, .int .u8 y] w fun e w' => e = .returned (.bool true) ∧ Below w.heap.size w w' := by
  have hby : (y == 0) = false := by simp [hy0]
  have hbl := headBytes_len d s tg tag ty
  have hbd : Hid _ := headBytes_bd d s tg tag ty
  have hcd : Hid _ := arpBytes_bd op sha spa tha tpa
  have Hf : Hid _ := hf
  have Hg : Hid _ := hg
  have hL0 : 0 < (headBytes d s tg tag ty).length := by simp [headBytes, be_len]; omega
  clear hf hg
  generalize hB : headBytes d s tg tag ty = B at *
  generalize hC : arpBytes op sha spa tha tpa = C at *
  have HB : Hid _ := hB
  have HC : Hid _ := hC
  clear hB hC
  have hr1 : -(B.length : Int) < x.tmod B.length := by
    have := Int.lt_tmod_of_pos x (show (0 : Int) < B.length by omega); omega
  have hr2 : x.tmod (B.length : Int) < B.length := Int.tmod_lt_of_pos x (by omega)
  have hs1 : -(28 : Int) < x.tmod 28 := by
    have := Int.lt_tmod_of_pos x (show (0 : Int) < 28 by omega); omega
  have hs2 : x.tmod 28 < 28 := Int.tmod_lt_of_pos x (by omega)
  obtain ⟨k, hkL, hcase1⟩ : ∃ k : Nat, k < B.length ∧ ((x.tmod (B.length : Int) < 0 ∧ Hid ((k : Int) = x.tmod (B.length : Int) + B.length)) ∨ (¬ x.tmod (B.length : Int) < 0 ∧ Hid ((k : Int) = x.tmod (B.length : Int)))) := by
    by_cases hneg : x.tmod (B.length : Int) < 0
    · exact ⟨(x.tmod (B.length : Int) + B.length).toNat, by omega, .inl ⟨hneg, by show _ = _; omega⟩⟩
    · exact ⟨(x.tmod (B.length : Int)).toNat, by omega, .inr ⟨hneg, by show _ = _; omega⟩⟩
  obtain ⟨m, hm28, hcase2⟩ : ∃ m : Nat, m < 28 ∧ ((x.tmod 28 < 0 ∧ Hid ((m : Int) = x.tmod 28 + 28)) ∨ (¬ x.tmod 28 < 0 ∧ Hid ((m : Int) = x.tmod 28))) := by
    by_cases hneg : x.tmod 28 < 0
    · exact ⟨(x.tmod 28 + 28).toNat, by omega, .inl ⟨hneg, by show _ = _; omega⟩⟩
    · exact ⟨(x.tmod 28).toNat, by omega, .inr ⟨hneg, by show _ = _; omega⟩⟩
  have hp := hbd.out k
  have hq := hcd.out m
  have xp := xor_u8 _ _ hp hy hy0
  have xq := xor_u8 _ _ hq hy hy0
  have TB : Hid _ := head_turned d s tg tag ty (B.set k (bits .xor .u8 (B.getD k 0) y)) (fits_set hbd.out k _ xp.1) (by rw [HB.out]; simp) (by rw [HB.out]; exact set_ne B k _ hkL xp.2)
  have hlC : C.length = 28 := by rw [← HC.out]; exact arpBytes_len _ _ _ _ _
  have TC : Hid _ := arp_turned op sha spa tha tpa (C.set m (bits .xor .u8 (C.getD m 0) y)) (fits_set hcd.out m _ xq.1) (by simp [hlC]) (by rw [HC.out]; exact set_ne C m _ (by omega) xq.2)
  generalize hpp : B.getD k 0 = p at *
  generalize hqq : C.getD m 0 = q at *
  have Hpp : Hid _ := hpp
  have Hqq : Hid _ := hqq
  clear hpp hqq
  have xp1 := xp.1
  have xq1 := xq.1
  clear xp xq hp hq
  have kI0 : (0 : Int) ≤ k := by omega
  have kI1 : (k : Int) < B.length := by omega
  have mI0 : (0 : Int) ≤ m := by omega
  have mI1 : (m : Int) < 28 := by omega
  rcases hcase1 with ⟨hneg, hk⟩ | ⟨hneg, hk⟩ <;> rcases hcase2 with ⟨hneg2, hmm⟩ | ⟨hneg2, hmm⟩
  all_goals
    go_enter Try.func7, Try.ntmps7
    go_wp2_with fail
    refine (encodeHead_yes d s tg tag ty _ hd hs Hf.out).mono ?_
    rw [HB.out]
    rintro e W1 ⟨a1, c1, rfl, ho1, hb⟩
    have hb1 : Below w.heap.size w W1 := (below2 w _ _).trans (hb.mono (by simp; omega))
    have A1 : Hid (AtB W1 w.heap.size #[.int .u64 d, .int .u64 s, .bool tg, .int .i64 tag, .int .i64 ty]) := ((atB_new w #[.int .u64 d, .int .u64 s, .bool tg, .int .i64 tag, .int .i64 ty] 25 _ rfl).below (below1 _ _)).below hb
    have A2 : Hid (AtB W1 (w.heap.size + 1) #[.int .i64 op, .int .u64 sha, .int .u32 spa, .int .u64 tha, .int .u32 tpa]) := (atB_new (w.alloc (.cells #[.int .u64 d, .int .u64 s, .bool tg, .int .i64 tag, .int .i64 ty] 25)) #[.int .i64 op, .int .u64 sha, .int .u32 spa, .int .u64 tha, .int .u32 tpa] 36 _ (by simp)).below hb
    obtain ⟨x0, x1, x2, x3, x4⟩ := A2.out.five
    clear hb
    go_wp2_with fail
    refine (encodeArp_yes op sha spa tha tpa _ h1 h2 h3 h4 Hg.out).mono ?_
    rw [HC.out]
    rintro e W2 ⟨a2, c2, rfl, ho2, hb⟩
    have hb2 : Below w.heap.size w W2 := hb1.trans (hb.mono hb1.size)
    obtain ⟨g1, rfl, hg1a, hg1b⟩ := own_some ho1 hL0
    obtain ⟨g2, rfl, hg2a, hg2b⟩ := own_some ho2 (by omega)
    have hcc1 := own_caps ho1
    have hcc2 := own_caps ho2
    have B2 : Hid (BS W2 (some ⟨g1, 0, none⟩) B.length B) := (own_bs ho1 hbd.out (by omega)).below hb
    have C2 : Hid (BS W2 (some ⟨g2, 0, none⟩) 28 C) := own_bs ho2 hcd.out (by omega)
    have fz1 : ∀ j, W2.frozen? ⟨g1, j, none⟩ = false := fun j => (hb.frozen hg1b).trans (ho1.frozenAt j)
    have fz2 : ∀ j, W2.frozen? ⟨g2, j, none⟩ = false := fun j => ho2.frozenAt j
    have E2 : Hid (AtB W2 w.heap.size #[.int .u64 d, .int .u64 s, .bool tg, .int .i64 tag, .int .i64 ty]) := A1.out.below hb
    have F2 : Hid (AtB W2 (w.heap.size + 1) #[.int .i64 op, .int .u64 sha, .int .u32 spa, .int .u64 tha, .int .u32 tpa]) := A2.out.below hb
    have hg1c : w.heap.size + 1 < g1 := by have := hg1a; simp at this; omega
    have hg12 : g1 < g2 := by omega
    have hg2W : g2 < W2.heap.size := hg2b
    clear x0 x1 x2 x3 x4 A1 A2 ho1 ho2 hb hb1 hg1a hg1b hg2a hg2b
    go_wp2_with fail
    refine (lives_any _).mono ?_
    rintro e W3 ⟨rfl, hb⟩
    have hb3 : Below w.heap.size w W3 := hb2.trans (hb.mono hb2.size)
    have B3 : Hid (BS W3 (some ⟨g1, 0, none⟩) B.length B) := B2.out.below hb
    have C3 : Hid (BS W3 (some ⟨g2, 0, none⟩) 28 C) := C2.out.below hb
    have fy1 : ∀ j, W3.frozen? ⟨g1, j, none⟩ = false := fun j => (hb.frozen (by show g1 < _; omega)).trans (fz1 j)
    have fy2 : ∀ j, W3.frozen? ⟨g2, j, none⟩ = false := fun j => (hb.frozen (by show g2 < _; omega)).trans (fz2 j)
    have E3 : Hid (AtB W3 w.heap.size #[.int .u64 d, .int .u64 s, .bool tg, .int .i64 tag, .int .i64 ty]) := E2.out.below hb
    have F3 : Hid (AtB W3 (w.heap.size + 1) #[.int .i64 op, .int .u64 sha, .int .u32 spa, .int .u64 tha, .int .u32 tpa]) := F2.out.below hb
    clear hb hb2 B2 C2 fz1 fz2 E2 F2 hg2W
    go_wp2
    rw [← hk.out, ← hmm.out]
    have cB : W3.cell? ⟨g1, k, none⟩ = some (.int .u8 p) := by
      rcases B3.out.cells with h0 | ⟨_, _, e, hc⟩
      · omega
      · cases e; have := hc k hkL; rwa [Nat.zero_add, Hpp.out] at this
    have cC : W3.cell? ⟨g2, m, none⟩ = some (.int .u8 q) := by
      rcases C3.out.cells with h0 | ⟨_, _, e, hc⟩
      · omega
      · cases e; have := hc m (by omega); rwa [Nat.zero_add, Hqq.out] at this
    have hn12 : g1 ≠ g2 := by omega
    have far1 : ∀ u, (W3.setCell ⟨g1, k, none⟩ u).cell? ⟨g2, m, none⟩ = some (.int .u8 q) := fun u => (World.cell?_setCell_other _ _ _ _ (fun e => hn12 (congrArg Addr.block e))).trans cC
    clear hk hmm hneg hneg2 hr1 hr2 hs1 hs2
    go_region
    go_wp2_with fail
    have hb4 : Below w.heap.size w ((W3.setCell ⟨g1, k, none⟩ (.int .u8 (bits .xor .u8 p y))).setCell ⟨g2, m, none⟩ (.int .u8 (bits .xor .u8 q y))).drew := ((hb3.setCell (by show _ ≤ g1; omega) _).setCell (by show _ ≤ g2; omega) _).drew
    have B4 : Hid (BS ((W3.setCell ⟨g1, k, none⟩ (.int .u8 (bits .xor .u8 p y))).setCell ⟨g2, m, none⟩ (.int .u8 (bits .xor .u8 q y))).drew (some ⟨g1, 0, none⟩) B.length (B.set k (bits .xor .u8 p y))) := (bs_far (bs_set B3.out hkL xp1) (fun e => hn12 e.symm)).drew
    have C4 : Hid (BS ((W3.setCell ⟨g1, k, none⟩ (.int .u8 (bits .xor .u8 p y))).setCell ⟨g2, m, none⟩ (.int .u8 (bits .xor .u8 q y))).drew (some ⟨g2, 0, none⟩) 28 (C.set m (bits .xor .u8 q y))) := (bs_set (bs_far C3.out hn12) hm28 xq1).drew
    have E4 : Hid (AtB ((W3.setCell ⟨g1, k, none⟩ (.int .u8 (bits .xor .u8 p y))).setCell ⟨g2, m, none⟩ (.int .u8 (bits .xor .u8 q y))).drew w.heap.size #[.int .u64 d, .int .u64 s, .bool tg, .int .i64 tag, .int .i64 ty]) := (E3.out.far (by omega)).far (by omega)
    have F4 : Hid (AtB ((W3.setCell ⟨g1, k, none⟩ (.int .u8 (bits .xor .u8 p y))).setCell ⟨g2, m, none⟩ (.int .u8 (bits .xor .u8 q y))).drew (w.heap.size + 1) #[.int .i64 op, .int .u64 sha, .int .u32 spa, .int .u64 tha, .int .u32 tpa]) := (F3.out.far (by omega)).far (by omega)
    clear B3 C3 E3 F3 fy1 fy2 cB cC far1 hb3 xp1 xq1
    generalize ((W3.setCell ⟨g1, k, none⟩ (.int .u8 (bits .xor .u8 p y))).setCell ⟨g2, m, none⟩ (.int .u8 (bits .xor .u8 q y))).drew = W4 at *
    refine (head_any c1 B4.out hcc1.1 hcc1.2).mono ?_
    rintro e W5 ⟨rfl, hb⟩
    have hb5 : Below w.heap.size w W5 := hb4.trans (hb.mono hb4.size)
    have C5 : Hid (BS W5 (some ⟨g2, 0, none⟩) 28 (C.set m (bits .xor .u8 q y))) := C4.out.below hb
    have E5 : Hid (AtB W5 w.heap.size #[.int .u64 d, .int .u64 s, .bool tg, .int .i64 tag, .int .i64 ty]) := E4.out.below hb
    have F5 : Hid (AtB W5 (w.heap.size + 1) #[.int .i64 op, .int .u64 sha, .int .u32 spa, .int .u64 tha, .int .u32 tpa]) := F4.out.below hb
    clear hb hb4 B4 C4 E4 F4
    rcases TB.out with ⟨er, her, hv⟩ | ⟨d', s', tg', tag', ty', n', hv, hne⟩
    · have Hv : Hid _ := hv
      have hner : (er != 0) = true := by rcases her with rfl | rfl | rfl <;> rfl
      clear hv her
      rw [Hv.out]
      unfold ethV
      go_wp2_with fail
      refine (arp_any c2 (C5.out.below (below1 W5 _)) hcc2.1 hcc2.2).mono ?_
      rintro e W6 ⟨rfl, hb⟩
      rcases TC.out with ⟨er2, her2, hw⟩ | ⟨op', sha', spa', tha', tpa', hw, hne2⟩
      · have Hw : Hid _ := hw
        have hner2 : (er2 != 0) = true := by rcases her2 with rfl | rfl <;> rfl
        clear hw her2
        rw [Hw.out]
        unfold arpV
        have hb7 : Below w.heap.size w W6 := (hb5.alloc hb5.size _).trans (hb.mono (by have := hb5.size; simp; omega))
        obtain ⟨x0, x1, x2, x3, x4⟩ := (((atB_new W5 #[.int .u64 0, .int .u64 0, .bool false, .int .i64 0, .int .i64 0] 25 _ rfl).below hb).below (below1 W6 (.cells #[.int .i64 0, .int .u64 0, .int .u32 0, .int .u64 0, .int .u32 0] 36))).five
        obtain ⟨y0, y1, y2, y3, y4⟩ := (((E5.out.below (below1 W5 (.cells #[.int .u64 0, .int .u64 0, .bool false, .int .i64 0, .int .i64 0] 25))).below hb).below (below1 W6 (.cells #[.int .i64 0, .int .u64 0, .int .u32 0, .int .u64 0, .int .u32 0] 36))).five
        obtain ⟨z0, z1, z2, z3, z4⟩ := (((F5.out.below (below1 W5 (.cells #[.int .u64 0, .int .u64 0, .bool false, .int .i64 0, .int .i64 0] 25))).below hb).below (below1 W6 (.cells #[.int .i64 0, .int .u64 0, .int .u32 0, .int .u64 0, .int .u32 0] 36))).five
        clear hb hb5 E5 F5 C5
        go_wp2
        go_ret
        exact ⟨rfl, hb7.alloc hb7.size _⟩
      · have Hw : Hid _ := hw
        have nqa := fun W => arp_neq W op sha spa tha tpa op' sha' spa' tha' tpa' hne2
        clear hw hne2
        rw [Hw.out]
        unfold arpV
        have hb7 : Below w.heap.size w W6 := (hb5.alloc hb5.size _).trans (hb.mono (by have := hb5.size; simp; omega))
        obtain ⟨x0, x1, x2, x3, x4⟩ := (((atB_new W5 #[.int .u64 0, .int .u64 0, .bool false, .int .i64 0, .int .i64 0] 25 _ rfl).below hb).below (below1 W6 (.cells #[.int .i64 op', .int .u64 sha', .int .u32 spa', .int .u64 tha', .int .u32 tpa'] 36))).five
        obtain ⟨y0, y1, y2, y3, y4⟩ := (((E5.out.below (below1 W5 (.cells #[.int .u64 0, .int .u64 0, .bool false, .int .i64 0, .int .i64 0] 25))).below hb).below (below1 W6 (.cells #[.int .i64 op', .int .u64 sha', .int .u32 spa', .int .u64 tha', .int .u32 tpa'] 36))).five
        obtain ⟨z0, z1, z2, z3, z4⟩ := (((F5.out.below (below1 W5 (.cells #[.int .u64 0, .int .u64 0, .bool false, .int .i64 0, .int .i64 0] 25))).below hb).below (below1 W6 (.cells #[.int .i64 op', .int .u64 sha', .int .u32 spa', .int .u64 tha', .int .u32 tpa'] 36))).five
        clear hb hb5 E5 F5 C5
        go_wp2
        go_ret
        exact ⟨rfl, hb7.alloc hb7.size _⟩
    · have Hv : Hid _ := hv
      have nqe := fun W => eth_neq W d s tag ty d' s' tag' ty' tg tg' hne
      clear hv hne
      rw [Hv.out]
      unfold ethV
      go_wp2_with fail
      refine (arp_any c2 (C5.out.below (below1 W5 _)) hcc2.1 hcc2.2).mono ?_
      rintro e W6 ⟨rfl, hb⟩
      rcases TC.out with ⟨er2, her2, hw⟩ | ⟨op', sha', spa', tha', tpa', hw, hne2⟩
      · have Hw : Hid _ := hw
        have hner2 : (er2 != 0) = true := by rcases her2 with rfl | rfl <;> rfl
        clear hw her2
        rw [Hw.out]
        unfold arpV
        have hb7 : Below w.heap.size w W6 := (hb5.alloc hb5.size _).trans (hb.mono (by have := hb5.size; simp; omega))
        obtain ⟨x0, x1, x2, x3, x4⟩ := (((atB_new W5 #[.int .u64 d', .int .u64 s', .bool tg', .int .i64 tag', .int .i64 ty'] 25 _ rfl).below hb).below (below1 W6 (.cells #[.int .i64 0, .int .u64 0, .int .u32 0, .int .u64 0, .int .u32 0] 36))).five
        obtain ⟨y0, y1, y2, y3, y4⟩ := (((E5.out.below (below1 W5 (.cells #[.int .u64 d', .int .u64 s', .bool tg', .int .i64 tag', .int .i64 ty'] 25))).below hb).below (below1 W6 (.cells #[.int .i64 0, .int .u64 0, .int .u32 0, .int .u64 0, .int .u32 0] 36))).five
        obtain ⟨z0, z1, z2, z3, z4⟩ := (((F5.out.below (below1 W5 (.cells #[.int .u64 d', .int .u64 s', .bool tg', .int .i64 tag', .int .i64 ty'] 25))).below hb).below (below1 W6 (.cells #[.int .i64 0, .int .u64 0, .int .u32 0, .int .u64 0, .int .u32 0] 36))).five
        clear hb hb5 E5 F5 C5
        go_wp2
        go_ret
        exact ⟨rfl, hb7.alloc hb7.size _⟩
      · have Hw : Hid _ := hw
        have nqa := fun W => arp_neq W op sha spa tha tpa op' sha' spa' tha' tpa' hne2
        clear hw hne2
        rw [Hw.out]
        unfold arpV
        have hb7 : Below w.heap.size w W6 := (hb5.alloc hb5.size _).trans (hb.mono (by have := hb5.size; simp; omega))
        obtain ⟨x0, x1, x2, x3, x4⟩ := (((atB_new W5 #[.int .u64 d', .int .u64 s', .bool tg', .int .i64 tag', .int .i64 ty'] 25 _ rfl).below hb).below (below1 W6 (.cells #[.int .i64 op', .int .u64 sha', .int .u32 spa', .int .u64 tha', .int .u32 tpa'] 36))).five
        obtain ⟨y0, y1, y2, y3, y4⟩ := (((E5.out.below (below1 W5 (.cells #[.int .u64 d', .int .u64 s', .bool tg', .int .i64 tag', .int .i64 ty'] 25))).below hb).below (below1 W6 (.cells #[.int .i64 op', .int .u64 sha', .int .u32 spa', .int .u64 tha', .int .u32 tpa'] 36))).five
        obtain ⟨z0, z1, z2, z3, z4⟩ := (((F5.out.below (below1 W5 (.cells #[.int .u64 d', .int .u64 s', .bool tg', .int .i64 tag', .int .i64 ty'] 25))).below hb).below (below1 W6 (.cells #[.int .i64 op', .int .u64 sha', .int .u32 spa', .int .u64 tha', .int .u32 tpa'] 36))).five
        clear hb hb5 E5 F5 C5
        go_wp2
        go_ret
        exact ⟨rfl, hb7.alloc hb7.size _⟩

set_option maxHeartbeats 1000000 in
theorem turned_ff (w : World) (d s : Int) (tg : Bool) (tag ty : Int) (op sha spa tha tpa : Int) (x y : Int) (hf : fitsB d s tg tag ty = false) (hg : arpFits op sha tha = false) :
    Calls Try.prog 7 #[.agg #[.int .u64 d, .int .u64 s, .bool tg, .int .i64 tag, .int .i64 ty], .agg #[.int .i64 op, .int .u64 sha, .int .u32 spa, .int .u64 tha, .int .u32 tpa], .int .i64 x, .int .u8 y] w fun e w' => e = .returned (.bool true) ∧ Below w.heap.size w w' := by
  go_enter Try.func7, Try.ntmps7
  go_wp2_with fail
  refine (encodeHead_no d s tg tag ty _ hf).mono ?_
  rintro e W1 ⟨rfl, hb⟩
  have hb1 : Below w.heap.size w W1 := (below2 w _ _).trans (hb.mono (by simp; omega))
  have A2 : Hid (AtB W1 (w.heap.size + 1) #[.int .i64 op, .int .u64 sha, .int .u32 spa, .int .u64 tha, .int .u32 tpa]) := (atB_new (w.alloc (.cells #[.int .u64 d, .int .u64 s, .bool tg, .int .i64 tag, .int .i64 ty] 25)) #[.int .i64 op, .int .u64 sha, .int .u32 spa, .int .u64 tha, .int .u32 tpa] 36 _ (by simp)).below hb
  obtain ⟨x0, x1, x2, x3, x4⟩ := A2.out.five
  clear hb A2
  go_wp2_with fail
  refine (encodeArp_no op sha spa tha tpa _ hg).mono ?_
  rintro e W2 ⟨rfl, hb⟩
  have hb2 : Below w.heap.size w W2 := hb1.trans (hb.mono hb1.size)
  clear hb hb1 x0 x1 x2 x3 x4
  go_wp2_with fail
  refine (lives_from hb2).mono ?_
  rintro e W3 ⟨rfl, hb3⟩
  clear hb2
  go_wp2
  go_ret
  exact ⟨rfl, hb3⟩

set_option maxHeartbeats 1000000 in
theorem turned_ft (w : World) (d s : Int) (tg : Bool) (tag ty : Int) (op sha spa tha tpa : Int) (x y : Int) (h1 : 0 ≤ sha) (h2 : 0 ≤ spa ∧ spa ≤ 4294967295) (h3 : 0 ≤ tha) (h4 : 0 ≤ tpa ∧ tpa ≤ 4294967295) (hf : fitsB d s tg tag ty = false) (hg : arpFits op sha tha = true) :
    Calls Try.prog 7 #[.agg #[.int .u64 d, .int .u64 s, .bool tg, .int .i64 tag, .int .i64 ty], .agg #[.int .i64 op, .int .u64 sha, .int .u32 spa, .int .u64 tha, .int .u32 tpa], .int .i64 x, .int .u8 y] w fun e w' => e = .returned (.bool true) ∧ Below w.heap.size w w' := by
  go_enter Try.func7, Try.ntmps7
  go_wp2_with fail
  refine (encodeHead_no d s tg tag ty _ hf).mono ?_
  rintro e W1 ⟨rfl, hb⟩
  have hb1 : Below w.heap.size w W1 := (below2 w _ _).trans (hb.mono (by simp; omega))
  have A2 : Hid (AtB W1 (w.heap.size + 1) #[.int .i64 op, .int .u64 sha, .int .u32 spa, .int .u64 tha, .int .u32 tpa]) := (atB_new (w.alloc (.cells #[.int .u64 d, .int .u64 s, .bool tg, .int .i64 tag, .int .i64 ty] 25)) #[.int .i64 op, .int .u64 sha, .int .u32 spa, .int .u64 tha, .int .u32 tpa] 36 _ (by simp)).below hb
  obtain ⟨x0, x1, x2, x3, x4⟩ := A2.out.five
  clear hb A2
  go_wp2_with fail
  refine (encodeArp_yes op sha spa tha tpa _ h1 h2 h3 h4 hg).mono ?_
  rintro e W2 ⟨a2, c2, rfl, _, hb⟩
  have hb2 : Below w.heap.size w W2 := hb1.trans (hb.mono hb1.size)
  clear hb hb1 x0 x1 x2 x3 x4
  go_wp2_with fail
  refine (lives_from hb2).mono ?_
  rintro e W3 ⟨rfl, hb3⟩
  clear hb2
  go_wp2
  go_ret
  exact ⟨rfl, hb3⟩

set_option maxHeartbeats 1000000 in
theorem turned_tf (w : World) (d s : Int) (tg : Bool) (tag ty : Int) (op sha spa tha tpa : Int) (x y : Int) (hd : 0 ≤ d) (hs : 0 ≤ s) (hf : fitsB d s tg tag ty = true) (hg : arpFits op sha tha = false) :
    Calls Try.prog 7 #[.agg #[.int .u64 d, .int .u64 s, .bool tg, .int .i64 tag, .int .i64 ty], .agg #[.int .i64 op, .int .u64 sha, .int .u32 spa, .int .u64 tha, .int .u32 tpa], .int .i64 x, .int .u8 y] w fun e w' => e = .returned (.bool true) ∧ Below w.heap.size w w' := by
  go_enter Try.func7, Try.ntmps7
  go_wp2_with fail
  refine (encodeHead_yes d s tg tag ty _ hd hs hf).mono ?_
  rintro e W1 ⟨a1, c1, rfl, _, hb⟩
  have hb1 : Below w.heap.size w W1 := (below2 w _ _).trans (hb.mono (by simp; omega))
  have A2 : Hid (AtB W1 (w.heap.size + 1) #[.int .i64 op, .int .u64 sha, .int .u32 spa, .int .u64 tha, .int .u32 tpa]) := (atB_new (w.alloc (.cells #[.int .u64 d, .int .u64 s, .bool tg, .int .i64 tag, .int .i64 ty] 25)) #[.int .i64 op, .int .u64 sha, .int .u32 spa, .int .u64 tha, .int .u32 tpa] 36 _ (by simp)).below hb
  obtain ⟨x0, x1, x2, x3, x4⟩ := A2.out.five
  clear hb A2
  go_wp2_with fail
  refine (encodeArp_no op sha spa tha tpa _ hg).mono ?_
  rintro e W2 ⟨rfl, hb⟩
  have hb2 : Below w.heap.size w W2 := hb1.trans (hb.mono hb1.size)
  clear hb hb1 x0 x1 x2 x3 x4
  go_wp2_with fail
  refine (lives_from hb2).mono ?_
  rintro e W3 ⟨rfl, hb3⟩
  clear hb2
  go_wp2
  go_ret
  exact ⟨rfl, hb3⟩

set_option maxHeartbeats 1000000 in
theorem turned_zero (w : World) (d s : Int) (tg : Bool) (tag ty : Int) (op sha spa tha tpa : Int) (x y : Int) (hd : 0 ≤ d) (hs : 0 ≤ s) (h1 : 0 ≤ sha) (h2 : 0 ≤ spa ∧ spa ≤ 4294967295) (h3 : 0 ≤ tha) (h4 : 0 ≤ tpa ∧ tpa ≤ 4294967295) (hf : fitsB d s tg tag ty = true) (hg : arpFits op sha tha = true) (hy : (y == 0) = true) :
    Calls Try.prog 7 #[.agg #[.int .u64 d, .int .u64 s, .bool tg, .int .i64 tag, .int .i64 ty], .agg #[.int .i64 op, .int .u64 sha, .int .u32 spa, .int .u64 tha, .int .u32 tpa], .int .i64 x, .int .u8 y] w fun e w' => e = .returned (.bool true) ∧ Below w.heap.size w w' := by
  go_enter Try.func7, Try.ntmps7
  go_wp2_with fail
  refine (encodeHead_yes d s tg tag ty _ hd hs hf).mono ?_
  rintro e W1 ⟨a1, c1, rfl, _, hb⟩
  have hb1 : Below w.heap.size w W1 := (below2 w _ _).trans (hb.mono (by simp; omega))
  have A2 : Hid (AtB W1 (w.heap.size + 1) #[.int .i64 op, .int .u64 sha, .int .u32 spa, .int .u64 tha, .int .u32 tpa]) := (atB_new (w.alloc (.cells #[.int .u64 d, .int .u64 s, .bool tg, .int .i64 tag, .int .i64 ty] 25)) #[.int .i64 op, .int .u64 sha, .int .u32 spa, .int .u64 tha, .int .u32 tpa] 36 _ (by simp)).below hb
  obtain ⟨x0, x1, x2, x3, x4⟩ := A2.out.five
  clear hb A2
  go_wp2_with fail
  refine (encodeArp_yes op sha spa tha tpa _ h1 h2 h3 h4 hg).mono ?_
  rintro e W2 ⟨a2, c2, rfl, _, hb⟩
  have hb2 : Below w.heap.size w W2 := hb1.trans (hb.mono hb1.size)
  clear hb hb1 x0 x1 x2 x3 x4
  go_wp2_with fail
  refine (lives_from hb2).mono ?_
  rintro e W3 ⟨rfl, hb3⟩
  clear hb2
  go_wp2
  go_ret
  exact ⟨rfl, hb3⟩

theorem ethTurned_walk (w : World) (d s : Int) (tg : Bool) (tag ty : Int) (hd : 0 ≤ d ∧ d ≤ 18446744073709551615) (hs : 0 ≤ s ∧ s ≤ 18446744073709551615) (op sha spa tha tpa : Int) (h1 : 0 ≤ sha ∧ sha ≤ 18446744073709551615) (h2 : 0 ≤ spa ∧ spa ≤ 4294967295) (h3 : 0 ≤ tha ∧ tha ≤ 18446744073709551615) (h4 : 0 ≤ tpa ∧ tpa ≤ 4294967295) (x : Int) (_hx : -9223372036854775808 ≤ x ∧ x ≤ 9223372036854775807) (y : Int) (hy : 0 ≤ y ∧ y ≤ 255) :
    Calls Try.prog 7 #[.agg #[.int .u64 d, .int .u64 s, .bool tg, .int .i64 tag, .int .i64 ty], .agg #[.int .i64 op, .int .u64 sha, .int .u32 spa, .int .u64 tha, .int .u32 tpa], .int .i64 x, .int .u8 y] w fun e w' => e = .returned (.bool true) ∧ Below w.heap.size w w' := by
  cases hf : fitsB d s tg tag ty
  · cases hg : arpFits op sha tha
    · exact turned_ff w d s tg tag ty op sha spa tha tpa x y hf hg
    · exact turned_ft w d s tg tag ty op sha spa tha tpa x y h1.1 h2 h3.1 h4 hf hg
  · cases hg : arpFits op sha tha
    · exact turned_tf w d s tg tag ty op sha spa tha tpa x y hd.1 hs.1 hf hg
    · by_cases hy0 : y = 0
      · exact turned_zero w d s tg tag ty op sha spa tha tpa x y hd.1 hs.1 h1.1 h2 h3.1 h4 hf hg (by simp [hy0])
      · exact turned_yes w d s tg tag ty hd.1 hs.1 op sha spa tha tpa h1.1 h2 h3.1 h4 x y hy hy0 hf hg

set_option maxRecDepth 100000 in
theorem ethTurned_lifted (os : Os) (started : os.Started) (H : Type) (enc : TypeId × Value → H) :
    ReturnsInHanded {} Try.checked os 7 .any (Rows.ethTurnedSpec.pre6 enc Try.prog Try.f7 Rows.ethTurnedRow.domain false) (Rows.ethTurnedSpec.post enc Try.prog Try.f7 false true false false) := by
  refine returnsInHanded_of_change_sized (C := Try.checked) own started (by kernel_rfl) Try.func7
    (ChangeSpec.witness6 (enc := enc) (C := Try.checked) false ⟨#[], #[.agg #[.int .u64 0, .int .u64 0, .bool false, .int .i64 0, .int .i64 0], .agg #[.int .i64 0, .int .u64 0, .int .u32 0, .int .u64 0, .int .u32 0], .int .i64 0, .int .u8 0], []⟩ 8 (by kernel_rfl) (by kernel_rfl) (by kernel_rfl) (by kernel_rfl)) ?_
  intro W base args ds gs before hval0 hW _ hsz0 _
  have hsz : (DataW.weightsEach Try.prog (Try.f7.params.toList ++ Rows.ethTurnedSpec.plain.varTypes Try.prog) (ds ++ gs)).all (· ≤ reachBytes) = true := hsz0
  clear hsz0
  have hval : ∀ (j : Nat) t v, Try.f7.params[j]? = some t → args[j]? = some v → Value.okWide Try.prog W .any base t v := hval0
  have hW' := hW
  obtain ⟨p, q, hA0, hV, rfl, _, _⟩ := hW
  have hA : DataW.TrodAll enc Try.prog W 0 (fun _ => true) true Try.f7.params.toList args.toList ds p := hA0
  rw [Try.params7] at hA hval hsz
  obtain ⟨v0, vs0, d0, ds0, p0, q0, hargs, rfl, rfl, h0, r0⟩ := trodAll_cons hA
  obtain ⟨v1, vs1, d1, ds1, p1, q1, rfl, rfl, rfl, h1, r1⟩ := trodAll_cons r0
  obtain ⟨v2, vs2, d2, ds2, p2, q2, rfl, rfl, rfl, h2, r2⟩ := trodAll_cons r1
  obtain ⟨v3, vs3, d3, ds3, p3, q3, rfl, rfl, rfl, h3, r3⟩ := trodAll_cons r2
  obtain ⟨rfl, rfl, rfl⟩ := trodAll_nil r3
  obtain rfl : args = #[v0, v1, v2, v3] := by cases args; simp_all
  obtain ⟨rfl, rfl⟩ := trodVars_none hV
  have k0 := h0
  have lt0 : ∀ x ∈ p0, x.block < W.heap.size := by obtain ⟨m, hm⟩ := k0; exact DataW.trod_lt m _ _ _ hm
  obtain ⟨d0x, s0x, t0x, g0x, y0x, rfl, bd0, bs0⟩ := open_eth (hval 0 25 v0 rfl rfl) h0
  have k1 := h1
  have lt1 : ∀ x ∈ p1, x.block < W.heap.size := by obtain ⟨m, hm⟩ := k1; exact DataW.trod_lt m _ _ _ hm
  obtain ⟨o1x, s1x, i1x, t1x, j1x, rfl, bs1, bi1, bt1, bj1⟩ := open_arp (hval 1 36 v1 rfl rfl) h1
  obtain ⟨a2, rfl, rfl, rfl, w2⟩ := open_int Try.underlying3 (hval 2 3 v2 rfl rfl) h2
  obtain ⟨a3, rfl, rfl, rfl, w3⟩ := open_int Try.underlying5 (hval 3 5 v3 rfl rfl) h3
  clear hA0 hval0
  refine (ethTurned_walk W d0x s0x t0x g0x y0x bd0 bs0 o1x s1x i1x t1x j1x bs1 bi1 bt1 bj1 a2 (bounds_i64 w2) a3 (bounds_u8 w3)).mono fun e W' ⟨he, bel⟩ => ?_
  subst he
  exact ⟨_, rfl, _, _, _, [], _, [], hW', trodAll_mk1 (shut_bool Try.underlying4 _), (trodAll_cons_mk (Below.trod laidOut (by kernel_rfl) (of_decide_eq_true (by kernel_rfl)) k0 bel lt0) (trodAll_cons_mk (Below.trod laidOut (by kernel_rfl) (of_decide_eq_true (by kernel_rfl)) k1 bel lt1) (trodAll_cons_mk (shut_int Try.underlying3 w2) (trodAll_cons_mk (shut_int Try.underlying5 w3) trodAll_mk0)))), rfl, bel.frame _, fun h => by cases h⟩

theorem ethTurned_proved : Rows.EthTurnedSaid :=
  OpenClaim.holds_of_wide 7 Try.f7 rfl rfl rfl rfl rfl rfl rfl ⟨rfl, rfl, rfl, rfl, rfl⟩ rfl rfl rfl rfl rfl (by kernel_rfl) Try.func7 (by kernel_rfl)
    (of_decide_eq_true (by kernel_rfl)) (by unfold Func.isWrapper; first | (rw [if_pos (by decide +kernel)]; kernel_rfl) | (rw [if_neg (by decide +kernel)]; exact ⟨rfl, rfl⟩))
    (fun os started H enc _ => ethTurned_lifted os started H enc)
#print axioms ethTurned_proved
end Go.Proofs.Ytfjhahofmmbleaa
