/- LpmGone's walk. Conditions: as said. -/
import Derived.Test.YtlopnagajhjmmaaLP
import Derived.Test.YtlopnagajhjmmaaLQ
namespace Go.Proofs.Ytlopnagajhjmmaa
open Go.RowKit Tr
theorem cut_code {c d : Code} {Q : Exit → Act → World → Prop} {a : Act} {w : World} (h : ∀ d', Hid (d = d') → Code.wp Try.prog (c.seq d') Q a w) : Code.wp Try.prog (c.seq d) Q a w := h d rfl
/-! Add and Remove of whatever they are given. -/
def addC (L : List Ro) (p : BitVec 32) (n : Int) : Int := if chk p n = 0 then adC L p n.toNat else 1
def addL (L : List Ro) (p : BitVec 32) (n v : Int) : List Ro := if chk p n = 0 then adL L p n.toNat v else L
def remC (L : List Ro) (p : BitVec 32) (n : Int) : Int := if chk p n = 0 then reC L p n.toNat else 1
def remL (L : List Ro) (p : BitVec 32) (n : Int) : List Ro := if chk p n = 0 then reL L p n.toNat else L
theorem chk_two (p : BitVec 32) (n : Int) : (chk p n = 1 ∧ ¬ chk p n = 0) ∨ (chk p n = 0 ∧ ∃ m : Nat, n = m ∧ m ≤ 32 ∧ rightB p m = true) := by
  unfold chk
  by_cases h : 0 ≤ n ∧ n ≤ 32 ∧ rightB p n.toNat = true
  · rw [if_pos h]
    exact .inr ⟨rfl, n.toNat, by omega, by omega, h.2.2⟩
  · rw [if_neg h]
    exact .inl ⟨rfl, by decide⟩
theorem add_any {w : World} {tb : Nat} {t : Tr} (hT : Tab w tb t) (p : BitVec 32) (n v : Int) :
    Calls Try.prog 10 #[ptr tb, .int .u32 p.toNat, .int .i64 n, .int .i64 v] w fun e w' => e = .returned (.int .i64 (addC t.ents p n)) ∧ ∃ t', t'.ents = addL t.ents p n v ∧ Added w tb t w' t' := by
  rcases chk_two p n with ⟨h, h'⟩ | ⟨h, m, rfl, hm, hr⟩
  · refine (add_no hT p n v h).mono ?_
    rintro e w' ⟨rfl, rfl⟩
    exact ⟨by unfold addC; rw [if_neg h'], t, by unfold addL; rw [if_neg h'], Added.refl hT (Below.refl _ _)⟩
  · refine (add_yes hT p m v h hm hr).mono ?_
    rintro e w' ⟨rfl, t', he, ha⟩
    exact ⟨by unfold addC; rw [if_pos h]; rfl, t', by unfold addL; rw [if_pos h]; exact he, ha⟩
theorem remove_any {w : World} {tb : Nat} {t : Tr} (hT : Tab w tb t) (p : BitVec 32) (n : Int) :
    Calls Try.prog 12 #[ptr tb, .int .u32 p.toNat, .int .i64 n] w fun e w' => e = .returned (.int .i64 (remC t.ents p n)) ∧ ∃ t', t'.ents = remL t.ents p n ∧ Added w tb t w' t' := by
  rcases chk_two p n with ⟨h, h'⟩ | ⟨h, m, rfl, hm, hr⟩
  · refine (remove_no hT p n h).mono ?_
    rintro e w' ⟨rfl, rfl⟩
    exact ⟨by unfold remC; rw [if_neg h'], t, by unfold remL; rw [if_neg h'], Added.refl hT (Below.refl _ _)⟩
  · refine (remove_yes hT p m h hm hr).mono ?_
    rintro e w' ⟨rfl, t', he, ha⟩
    exact ⟨by unfold remC; rw [if_pos h]; rfl, t', by unfold remL; rw [if_pos h]; exact he, ha⟩
/-- What was added and removed again was never there. -/
theorem add_back {L : List Ro} (hs : L.Pairwise ltR) (p : BitVec 32) (n v : Int) (h : addC L p n = 0) : remC (addL L p n v) p n = 0 ∧ remL (addL L p n v) p n = L := by
  rcases chk_two p n with ⟨_, h'⟩ | ⟨hc, m, rfl, hm, hr⟩
  · unfold addC at h; rw [if_neg h'] at h; cases h
  · unfold addC at h
    rw [if_pos hc] at h
    have hk : hasKey L p m = false := by
      cases hk : hasKey L p m with
      | false => rfl
      | true => rw [show ((m : Int)).toNat = m by omega, (ad_yes hk 0).1] at h; cases h
    have e : addL L p m v = ins (p, m, v) L := by unfold addL; rw [if_pos hc, show ((m : Int)).toNat = m by omega, (ad_no hk v).2]
    rw [e]
    have hk2 : hasKey (ins (p, m, v) L) p m = true := hasKey_iff.2 ⟨v, (mem_ins _ _ _).2 (.inl rfl)⟩
    have nk : ∀ y ∈ L, ¬ (y.1 = p ∧ y.2.1 = m) := by
      intro y hy e
      have : hasKey L p m = true := hasKey_iff.2 ⟨y.2.2, by rw [← e.1, ← e.2]; exact hy⟩
      rw [hk] at this; cases this
    refine ⟨by unfold remC reC; rw [if_pos hc, show ((m : Int)).toNat = m by omega, hk2]; rfl, ?_⟩
    unfold remL
    rw [if_pos hc, show ((m : Int)).toNat = m by omega]
    refine sorted_eq _ _ (reL_sorted (sorted_ins _ _ hs nk) p m) hs fun x => ?_
    rw [reL_mem, mem_ins]
    constructor
    · rintro ⟨rfl | h, hx⟩
      · exact absurd ⟨rfl, rfl⟩ hx
      · exact h
    · intro h
      exact ⟨.inr h, nk x h⟩
/-! Two tables. -/
structure Two (w W : World) (ta tb : Nat) (a b : Tr) : Prop where
  A : Tab W ta a
  B : Tab W tb b
  apart : ∀ x ∈ ta :: a.blocks, x ∉ tb :: b.blocks
  lo : ∀ x ∈ ta :: a.blocks ++ tb :: b.blocks, w.heap.size ≤ x
  bel : Below w.heap.size w W
theorem Tab.lt {W : World} {tb : Nat} {t : Tr} (h : Tab W tb t) : ∀ x ∈ tb :: t.blocks, x < W.heap.size := by
  intro x hx
  obtain ⟨rb, rv, rth, rl, rr, e, ht⟩ := h.root
  rcases List.mem_cons.1 hx with rfl | hx
  · exact lt_of_heap ht
  · exact own_lt h.own x hx
theorem Tab.keep {W W' : World} {tb : Nat} {t : Tr} {S : List Nat} (h : Tab W tb t) (hk : Keeps S W W') (hs : ∀ x ∈ tb :: t.blocks, x ∉ S) : Tab W' tb t := by
  obtain ⟨rb, rv, rth, rl, rr, e, ht⟩ := h.root
  exact ⟨⟨rb, rv, rth, rl, rr, e, (hk.block tb (lt_of_heap ht) (hs tb (by simp))).trans ht⟩, own_frame h.own fun x hx => hk.block x (own_lt h.own x hx) (hs x (by simp [hx])), h.wf, h.nd⟩
theorem Two.sym {w W : World} {ta tb : Nat} {a b : Tr} (h : Two w W ta tb a b) : Two w W tb ta b a :=
  ⟨h.B, h.A, fun x hx hy => h.apart x hy hx, fun x hx => h.lo x (by rcases List.mem_append.1 hx with g | g; exact List.mem_append.2 (.inr g); exact List.mem_append.2 (.inl g)), h.bel⟩
theorem Two.addA {w W W' : World} {ta tb : Nat} {a b a' : Tr} (h : Two w W ta tb a b) (ha : Added W ta a W' a') : Two w W' ta tb a' b := by
  have hlo : ∀ x ∈ ta :: a.blocks, w.heap.size ≤ x := fun x hx => h.lo x (List.mem_append.2 (.inl hx))
  have hsz := h.bel.size
  refine ⟨ha.tab, h.B.keep ha.keeps fun x hx hy => h.apart x hy hx, ?_, ?_, h.bel.trans (ha.keeps.below hsz hlo)⟩
  · intro x hx hy
    have hl := h.B.lt x hy
    rcases List.mem_cons.1 hx with rfl | hx
    · exact h.apart x (by simp) hy
    · rcases ha.blk x hx with g | g
      · exact h.apart x (by simp [g]) hy
      · omega
  · intro x hx
    rcases List.mem_append.1 hx with hx | hx
    · rcases List.mem_cons.1 hx with rfl | hx
      · exact hlo x (by simp)
      · rcases ha.blk x hx with g | g
        · exact hlo x (by simp [g])
        · omega
    · exact h.lo x (List.mem_append.2 (.inr hx))
theorem Two.addB {w W W' : World} {ta tb : Nat} {a b b' : Tr} (h : Two w W ta tb a b) (hb : Added W tb b W' b') : Two w W' ta tb a b' := (h.sym.addA hb).sym
theorem Two.below {w W W' : World} {ta tb : Nat} {a b : Tr} (h : Two w W ta tb a b) (hb : Below W.heap.size W W') : Two w W' ta tb a b := h.addA (Added.refl h.A hb)
theorem best_one {L : List Ro} (hs : L.Pairwise ltR) (hr : ∀ x ∈ L, x.2.1 ≤ 32 ∧ rightB x.1 x.2.1 = true) {ip : BitVec 32} {x y : Ro} (hx : Best L ip x) (hy : Best L ip y) : x = y := by
  have e : x.2.1 = y.2.1 := Nat.le_antisymm (hy.2.2 x hx.1 hx.2.1) (hx.2.2 y hy.1 hy.2.1)
  refine key_one hs hx.1 hy.1 ?_ e
  refine same_of_has (hr x hx.1).1 (hr x hx.1).2 ?_ hx.2.1 ?_
  · rw [e]; exact (hr y hy.1).2
  · rw [e]; exact hy.2.1
/-- What Find answers, as a value. -/
def FindV (L : List Ro) (ip : BitVec 32) (x : Ro) (ok : Bool) : Prop := (ok = true ∧ Best L ip x) ∨ (ok = false ∧ x = ro0 ∧ NoneHas L ip)
theorem findV_one {L : List Ro} (hs : L.Pairwise ltR) (hr : ∀ x ∈ L, x.2.1 ≤ 32 ∧ rightB x.1 x.2.1 = true) {ip : BitVec 32} {x y : Ro} {o u : Bool} (hx : FindV L ip x o) (hy : FindV L ip y u) : x = y ∧ o = u := by
  rcases hx with ⟨rfl, hx⟩ | ⟨rfl, rfl, hx⟩ <;> rcases hy with ⟨rfl, hy⟩ | ⟨rfl, rfl, hy⟩
  · exact ⟨best_one hs hr hx hy, rfl⟩
  · have := hy x hx.1; rw [hx.2.1] at this; cases this
  · have := hx y hy.1; rw [hy.2.1] at this; cases this
  · exact ⟨rfl, rfl⟩
theorem find_v {w : World} {tb : Nat} {t : Tr} (hT : Tab w tb t) (ip : BitVec 32) :
    Calls Try.prog 14 #[ptr tb, .int .u32 ip.toNat] w fun e w' => ∃ x ok, e = .returned (.tuple #[.agg #[.int .u32 x.1.toNat, .int .i64 x.2.1, .int .i64 x.2.2], .bool ok]) ∧ FindV t.ents ip x ok ∧ Below w.heap.size w w' := by
  refine (find_any hT ip).mono ?_
  rintro e w' ⟨⟨x, rfl, hb⟩ | ⟨rfl, hn⟩, b⟩
  · exact ⟨x, true, rfl, .inl ⟨rfl, hb⟩, b⟩
  · exact ⟨ro0, false, rfl, .inr ⟨rfl, rfl, hn⟩, b⟩
set_option linter.unusedSimpArgs false in
set_option maxRecDepth 20000 in
set_option maxHeartbeats 8000000 in
theorem gone_any {w : World} {a1 a2 a3 : Option Addr} {n1 n2 n3 c1 c2 c3 : Nat} {l m : List Opd} {q : List (BitVec 32)} (hl : OS w a1 n1 l) (hm : OS w a2 n2 m) (hq : US w a3 n3 q) :
    Calls Try.prog 7 #[.slice a1 n1 c1, .slice a2 n2 c2, .slice a3 n3 c3] w fun e w' => e = .returned (.bool true) ∧ Below w.heap.size w w' := by
  have r1 := hl.room
  have r2 := hm.room
  have r3 := hq.room
  have l1 := hl.len
  have l2 := hm.len
  have l3 := hq.len
  have HL : Hid _ := hl
  have HMo : Hid _ := hm
  have HQ : Hid _ := hq
  clear hl hm hq
  go_enter Try.func7, Try.ntmps7
  refine cut_code fun d1 e1 => ?_
  go_wp2_with fail
  rw [← e1.out]; clear e1 d1
  refine cut_code fun d1 e1 => ?_
  go_wp2_with fail
  refine (new_tab w).mono ?_
  rintro e W0 ⟨rfl, T0, s0, b0⟩
  go_wp2_with fail
  refine (new_tab W0).mono ?_
  rintro e W1 ⟨rfl, T1, s1, b1⟩
  go_wp2
  have tw1 : Two w W1 (w.heap.size + 1) (w.heap.size + 2 + 1) (newT w.heap.size) (newT W0.heap.size) := by
    refine ⟨tab_bel T0 b1, s0 ▸ T1, ?_, ?_, b0.trans (b1.mono (by omega))⟩
    · intro x hx hy; simp [newT, blocks] at hx hy; omega
    · intro x hx; simp [newT, blocks] at hx; omega
  have ee : (newT w.heap.size).ents = (newT W0.heap.size).ents := rfl
  obtain ⟨A0, hA0⟩ : ∃ A0, A0 = newT w.heap.size := ⟨_, rfl⟩
  obtain ⟨B0, hB0⟩ : ∃ B0, B0 = newT W0.heap.size := ⟨_, rfl⟩
  rw [← hA0, ← hB0] at tw1 ee
  obtain ⟨ta, hta⟩ : ∃ ta, ta = w.heap.size + 1 := ⟨_, rfl⟩
  obtain ⟨tb, htb⟩ : ∃ tb, tb = w.heap.size + 2 + 1 := ⟨_, rfl⟩
  rw [← hta, ← htb] at tw1 ⊢
  have TW1 : Hid _ := tw1
  have EE : Hid _ := ee
  clear T0 T1 b0 b1 s0 s1 tw1 hA0 hB0 hta htb ee
  rw [← e1.out]; clear e1 d1
  refine cut_code fun d1 e1 => ?_
  go_wp2_with fail
  refine (lives_any W1).mono ?_
  rintro e W2 ⟨rfl, b2⟩
  have TW2 : Hid _ := TW1.out.below b2
  clear TW1 b2
  go_wp2
  rw [← e1.out]; clear e1 d1
  refine cut_code fun d1 e1 => ?_
  go_wp2_with fail
  go_loopw [9] (fun i wr => ∃ (k : Nat) (A B : Tr), k ≤ n1 ∧ i = .int .i64 k ∧ Hid (Two w wr ta tb A B) ∧ Hid (A.ents = B.ents)) (fun i _ => n1 - (intOf i).toNat)
  case atStart => exact ⟨0, A0, B0, Nat.zero_le _, rfl, TW2, EE⟩
  case round =>
    clear TW2 EE
    obtain ⟨k, A, B, hk, rfl, TW, EN⟩ := hrel
    by_cases hlt : k < n1
    · obtain ⟨t, ht⟩ : ∃ t, l[k]? = some t := ⟨l[k]'(by omega), List.getElem?_eq_getElem (by omega)⟩
      obtain ⟨lb, off, rfl, hop⟩ := HL.out.at TW.out.bel ht
      have c1 := hop.2.1
      have c2 := hop.2.2.1
      have c3 := hop.2.2.2
      have HS : Hid (∀ V, Below w.heap.size w V → V.cell? ⟨lb, off + k * 4 + 1, none⟩ = some (.int .u32 t.p.toNat) ∧ V.cell? ⟨lb, off + k * 4 + 2, none⟩ = some (.int .i64 t.n) ∧ V.cell? ⟨lb, off + k * 4 + 3, none⟩ = some (.int .i64 t.v)) := fun V hV => by
        obtain ⟨lb', off', e, h⟩ := HL.out.at hV ht
        injection e with e; injection e with e1 e2; subst e1 e2
        exact ⟨h.2.1, h.2.2.1, h.2.2.2⟩
      have hki : (k : Int) < (n1 : Int) := by omega
      have hk0 : (0 : Int) ≤ (k : Int) := by omega
      have hk2 : (k : Int) ≤ 140737488351232 := by omega
      have HAD : Hid (Calls Try.prog 10 #[ptr ta, .int .u32 t.p.toNat, .int .i64 t.n, .int .i64 t.v] wr.drew fun e w' => e = .returned (.int .i64 (addC A.ents t.p t.n)) ∧ ∃ A', Hid (A'.ents = addL A.ents t.p t.n t.v ∧ Two w w' ta tb A' B)) :=
        (add_any (TW.out.below (W' := wr.drew) (Below.refl _ _).drew).A t.p t.n t.v).mono fun e w' ⟨he, A', h1, h2⟩ => ⟨he, A', h1, (TW.out.below (W' := wr.drew) (Below.refl _ _).drew).addA h2⟩
      clear hop ht
      go_wp2
      go_region_held3 (fun V => V.cell? ⟨lb, off + k * 4 + 1, none⟩ = some (.int .u32 t.p.toNat) ∧ V.cell? ⟨lb, off + k * 4 + 2, none⟩ = some (.int .i64 t.n) ∧ V.cell? ⟨lb, off + k * 4 + 3, none⟩ = some (.int .i64 t.v))
        (first
          | exact ⟨c1, c2, c3⟩
          | exact HS.out _ h9.out.2.bel
          | fail)
        (first
          | (go_at_call 10; refine Calls.mono HAD.out ?_; rintro e W3 ⟨rfl, A', h9⟩; skip)
          | fail)
      have TB := h9.out.2
      have d1' := (HS.out _ TB.bel).1
      have d2' := (HS.out _ TB.bel).2.1
      have d3' := (HS.out _ TB.bel).2.2
      have HBD : Hid (Calls Try.prog 10 #[ptr tb, .int .u32 t.p.toNat, .int .i64 t.n, .int .i64 t.v] W3.drew fun e w' => e = .returned (.int .i64 (addC B.ents t.p t.n)) ∧ ∃ B', Hid (B'.ents = addL B.ents t.p t.n t.v ∧ Two w w' ta tb A' B')) :=
        (add_any (TB.below (W' := W3.drew) (Below.refl _ _).drew).B t.p t.n t.v).mono fun e w' ⟨he, B', h1, h2⟩ => ⟨he, B', h1, (TB.below (W' := W3.drew) (Below.refl _ _).drew).addB h2⟩
      clear TB HAD c1 c2 c3
      go_wp2
      go_region_held3 (fun V => V.cell? ⟨lb, off + k * 4 + 1, none⟩ = some (.int .u32 t.p.toNat) ∧ V.cell? ⟨lb, off + k * 4 + 2, none⟩ = some (.int .i64 t.n) ∧ V.cell? ⟨lb, off + k * 4 + 3, none⟩ = some (.int .i64 t.v))
        (first
          | exact ⟨d1', d2', d3'⟩
          | exact HS.out _ h8.out.2.bel
          | fail)
        (first
          | (go_at_call 10; refine Calls.mono HBD.out ?_; rintro e W4 ⟨rfl, B', h8⟩; skip)
          | fail)
      go_wp2
      go_roundw
      case rel => exact ⟨k + 1, A', B', by omega, by go_num, h8.out.2, by show A'.ents = B'.ents; rw [h9.out.1, h8.out.1, EN.out]⟩
      case measure => simp [intOf]; omega
    · have hnlt : ¬ (k : Int) < (n1 : Int) := by omega
      go_wp2_with fail
      rw [← e1.out]; clear e1 d1
      refine cut_code fun d1 e1 => ?_
      go_wp2_with fail
      clear hlt hnlt hk
      rename World => wo
      go_loopw [10] (fun i wr => ∃ (j : Nat) (B' : Tr), j ≤ n2 ∧ i = .int .i64 j ∧ Hid (Two w wr ta tb A B') ∧ Hid (A.ents = B'.ents)) (fun i _ => n2 - (intOf i).toNat)
      case atStart => exact ⟨0, B, Nat.zero_le _, rfl, TW, EN⟩
      case round =>
        clear TW EN
        obtain ⟨j, B', hj, rfl, TW, EN⟩ := hrel
        by_cases hlt : j < n2
        · obtain ⟨t, ht⟩ : ∃ t, m[j]? = some t := ⟨m[j]'(by omega), List.getElem?_eq_getElem (by omega)⟩
          obtain ⟨lb, off, rfl, hop⟩ := HMo.out.at TW.out.bel ht
          have q1 := hop.2.1
          have q2 := hop.2.2.1
          have q3 := hop.2.2.2
          have HS : Hid (∀ V, Below w.heap.size w V → V.cell? ⟨lb, off + j * 4 + 1, none⟩ = some (.int .u32 t.p.toNat) ∧ V.cell? ⟨lb, off + j * 4 + 2, none⟩ = some (.int .i64 t.n) ∧ V.cell? ⟨lb, off + j * 4 + 3, none⟩ = some (.int .i64 t.v)) := fun V hV => by
            obtain ⟨lb', off', e, h⟩ := HMo.out.at hV ht
            injection e with e; injection e with e1 e2; subst e1 e2
            exact ⟨h.2.1, h.2.2.1, h.2.2.2⟩
          have hki : (j : Int) < (n2 : Int) := by omega
          have hk0 : (0 : Int) ≤ (j : Int) := by omega
          have hk2 : (j : Int) ≤ 140737488351232 := by omega
          have HAD : Hid (Calls Try.prog 10 #[ptr tb, .int .u32 t.p.toNat, .int .i64 t.n, .int .i64 t.v] wr.drew fun e w' => e = .returned (.int .i64 (addC B'.ents t.p t.n)) ∧ ∃ B2, Hid (B2.ents = addL B'.ents t.p t.n t.v ∧ Two w w' ta tb A B2)) :=
            (add_any (TW.out.below (W' := wr.drew) (Below.refl _ _).drew).B t.p t.n t.v).mono fun e w' ⟨he, B2, h1, h2⟩ => ⟨he, B2, h1, (TW.out.below (W' := wr.drew) (Below.refl _ _).drew).addB h2⟩
          clear hop ht
          by_cases hz : addC B'.ents t.p t.n = 0
          · have bk := add_back (ents_sorted _ TW.out.B.wf) t.p t.n t.v hz
            rw [hz] at HAD
            have HRM : Hid (∀ B2 V, B2.ents = addL B'.ents t.p t.n t.v ∧ Two w V ta tb A B2 → Calls Try.prog 12 #[ptr tb, .int .u32 t.p.toNat, .int .i64 t.n] V fun e w' => e = .returned (.int .i64 0) ∧ ∃ B3, Hid (B3.ents = B'.ents ∧ Two w w' ta tb A B3)) := fun B2 V h =>
              (remove_any h.2.B t.p t.n).mono fun e w' ⟨he, B3, h1, h2⟩ => ⟨by rw [he, h.1, bk.1], B3, by rw [h1, h.1, bk.2], h.2.addB h2⟩
            clear bk hz
            go_wp2
            go_region_held3 (fun V => V.cell? ⟨lb, off + j * 4 + 1, none⟩ = some (.int .u32 t.p.toNat) ∧ V.cell? ⟨lb, off + j * 4 + 2, none⟩ = some (.int .i64 t.n) ∧ V.cell? ⟨lb, off + j * 4 + 3, none⟩ = some (.int .i64 t.v))
              (first
                | exact ⟨q1, q2, q3⟩
                | exact HS.out _ h8.out.2.bel
                | exact HS.out _ h9.out.2.bel
                | fail)
              (first
                | (go_at_call 10; refine Calls.mono HAD.out ?_; rintro e W3 ⟨rfl, B2, h9⟩; skip)
                | (go_at_call 12; refine Calls.mono (HRM.out _ _ h9.out) ?_; rintro e W4 ⟨rfl, B3, h8⟩; skip)
                | fail)
            go_wp2
            go_roundw
            case rel => exact ⟨j + 1, B3, by omega, by go_num, h8.out.2, by show A.ents = B3.ents; rw [h8.out.1, EN.out]⟩
            case measure => simp [intOf]; omega
          · have hL : addL B'.ents t.p t.n t.v = B'.ents := by
              unfold addL
              rcases chk_two t.p t.n with ⟨_, h'⟩ | ⟨hc, mm, e, _, _⟩
              · rw [if_neg h']
              · rw [if_pos hc]
                unfold addC at hz
                rw [if_pos hc] at hz
                cases hk : hasKey B'.ents t.p t.n.toNat with
                | true => exact (ad_yes hk t.v).2
                | false => exact absurd (ad_no hk 0).1 hz
            obtain ⟨cc, hcc⟩ : ∃ cc, addC B'.ents t.p t.n = cc := ⟨_, rfl⟩
            rw [hcc] at HAD hz
            rw [hL] at HAD
            have hzz : (cc == 0) = false := by simpa using hz
            clear hz hL hcc
            go_wp2
            refine wp_region_held_drew (S := (fun V => V.cell? ⟨lb, off + j * 4 + 1, none⟩ = some (.int .u32 t.p.toNat) ∧ V.cell? ⟨lb, off + j * 4 + 2, none⟩ = some (.int .i64 t.n) ∧ V.cell? ⟨lb, off + j * 4 + 3, none⟩ = some (.int .i64 t.v))) (by kernel_rfl) ⟨q1, q2, q3⟩ (fun hHeld => ?_)
            refine wpAnyH_take (i := 0) (v := ?_) rfl (by kernel_rfl) (by kernel_rfl) (by kernel_rfl) (fun _ _ _ h => h) (Or.inl ⟨by rfl, ?_⟩) (by assumption) ?_
            rotate_left
            · (intro w hSw; (try dsimp only at hSw); go_simp; try with_reducible rfl)
            try simp only [List.getElem_toArray, List.getElem_cons_zero, List.getElem_cons_succ, Act.put, List.setIfInBounds_toArray, List.set_cons_zero, List.set_cons_succ]
            refine wpAnyH_take (i := 1) (v := ?_) rfl (by kernel_rfl) (by kernel_rfl) (by kernel_rfl) (fun _ _ _ h => h) (Or.inl ⟨by rfl, ?_⟩) (by assumption) ?_
            rotate_left
            · (intro w hSw; (try dsimp only at hSw); go_simp; try with_reducible rfl)
            try simp only [List.getElem_toArray, List.getElem_cons_zero, List.getElem_cons_succ, Act.put, List.setIfInBounds_toArray, List.set_cons_zero, List.set_cons_succ]
            refine wpAnyH_take (i := 2) (v := ?_) rfl (by kernel_rfl) (by kernel_rfl) (by kernel_rfl) (fun _ _ _ h => h) (Or.inl ⟨by rfl, ?_⟩) (by assumption) ?_
            rotate_left
            · (intro w hSw; (try dsimp only at hSw); go_simp; try with_reducible rfl)
            try simp only [List.getElem_toArray, List.getElem_cons_zero, List.getElem_cons_succ, Act.put, List.setIfInBounds_toArray, List.set_cons_zero, List.set_cons_succ]
            refine wpAnyH_take (i := 3) (v := ?_) rfl (by kernel_rfl) (by kernel_rfl) (by kernel_rfl) (fun _ _ _ h => h) (Or.inl ⟨by rfl, ?_⟩) (by assumption) ?_
            rotate_left
            · (intro w hSw; (try dsimp only at hSw); go_simp; try with_reducible rfl)
            try simp only [List.getElem_toArray, List.getElem_cons_zero, List.getElem_cons_succ, Act.put, List.setIfInBounds_toArray, List.set_cons_zero, List.set_cons_succ]
            refine wpAnyH_take (i := 4) (v := ?_) rfl (by kernel_rfl) (by kernel_rfl) (by kernel_rfl) (fun _ _ _ h => h) (Or.inl ⟨by rfl, ?_⟩) (by assumption) ?_
            rotate_left
            · (intro w hSw; (try dsimp only at hSw); go_simp; try with_reducible rfl)
            try simp only [List.getElem_toArray, List.getElem_cons_zero, List.getElem_cons_succ, Act.put, List.setIfInBounds_toArray, List.set_cons_zero, List.set_cons_succ]
            refine wpAnyH_take (i := 5) (v := ?_) rfl (by kernel_rfl) (by kernel_rfl) (by kernel_rfl) (fun _ _ _ h => h) (Or.inl ⟨by rfl, ?_⟩) (by assumption) ?_
            rotate_left
            · (intro w hSw; (try dsimp only at hSw); go_simp; try with_reducible rfl)
            try simp only [List.getElem_toArray, List.getElem_cons_zero, List.getElem_cons_succ, Act.put, List.setIfInBounds_toArray, List.set_cons_zero, List.set_cons_succ]
            refine wpAnyH_take (i := 6) (v := ?_) rfl (by kernel_rfl) (by kernel_rfl) (by kernel_rfl) (fun _ _ _ h => h) (Or.inl ⟨by rfl, ?_⟩) (by assumption) ?_
            rotate_left
            · (intro w hSw; (try dsimp only at hSw); go_simp; try with_reducible rfl)
            try simp only [List.getElem_toArray, List.getElem_cons_zero, List.getElem_cons_succ, Act.put, List.setIfInBounds_toArray, List.set_cons_zero, List.set_cons_succ]
            refine wpAnyH_take (i := 7) (v := ?_) rfl (by kernel_rfl) (by kernel_rfl) (by kernel_rfl) (fun _ _ _ h => h) (Or.inl ⟨by rfl, ?_⟩) (by assumption) ?_
            rotate_left
            · (intro w hSw; (try dsimp only at hSw); go_simp; try with_reducible rfl)
            try simp only [List.getElem_toArray, List.getElem_cons_zero, List.getElem_cons_succ, Act.put, List.setIfInBounds_toArray, List.set_cons_zero, List.set_cons_succ]
            refine wpAnyH_take (i := 8) (v := ?_) rfl (by kernel_rfl) (by kernel_rfl) (by kernel_rfl) (fun _ _ _ h => h) (Or.inl ⟨by rfl, ?_⟩) (by assumption) ?_
            rotate_left
            · (intro w hSw; (try dsimp only at hSw); go_simp; try with_reducible rfl)
            try simp only [List.getElem_toArray, List.getElem_cons_zero, List.getElem_cons_succ, Act.put, List.setIfInBounds_toArray, List.set_cons_zero, List.set_cons_succ]
            refine wpAnyH_take (i := 9) (v := ?_) rfl (by kernel_rfl) (by kernel_rfl) (by kernel_rfl) (fun _ _ _ h => h) (Or.inl ⟨by rfl, ?_⟩) (by assumption) ?_
            rotate_left
            · (intro w hSw; (try dsimp only at hSw); go_simp; try with_reducible rfl)
            try simp only [List.getElem_toArray, List.getElem_cons_zero, List.getElem_cons_succ, Act.put, List.setIfInBounds_toArray, List.set_cons_zero, List.set_cons_succ]
            refine wpAnyH_take (i := 10) (v := ?_) rfl (by kernel_rfl) (by kernel_rfl) (by kernel_rfl) (fun _ _ _ h => h) (Or.inl ⟨by rfl, ?_⟩) (by assumption) ?_
            rotate_left
            · (intro w hSw; (try dsimp only at hSw); go_simp; try with_reducible rfl)
            try simp only [List.getElem_toArray, List.getElem_cons_zero, List.getElem_cons_succ, Act.put, List.setIfInBounds_toArray, List.set_cons_zero, List.set_cons_succ]
            refine wpAnyH_take (i := 11) (v := ?_) rfl (by kernel_rfl) (by kernel_rfl) (by kernel_rfl) (fun _ _ _ h => h) (Or.inl ⟨by rfl, ?_⟩) (by assumption) ?_
            rotate_left
            · (intro w hSw; (try dsimp only at hSw); go_simp; try with_reducible rfl)
            try simp only [List.getElem_toArray, List.getElem_cons_zero, List.getElem_cons_succ, Act.put, List.setIfInBounds_toArray, List.set_cons_zero, List.set_cons_succ]
            refine wpAnyH_take (i := 12) (v := ?_) rfl (by kernel_rfl) (by kernel_rfl) (by kernel_rfl) (fun _ _ _ h => h) (Or.inl ⟨by rfl, ?_⟩) (by assumption) ?_
            rotate_left
            · (intro w hSw; (try dsimp only at hSw); go_simp; try with_reducible rfl)
            try simp only [List.getElem_toArray, List.getElem_cons_zero, List.getElem_cons_succ, Act.put, List.setIfInBounds_toArray, List.set_cons_zero, List.set_cons_succ]
            refine wpAnyH_take (i := 13) (v := ?_) rfl (by kernel_rfl) (by kernel_rfl) (by kernel_rfl) (fun _ _ _ h => h) (Or.inl ⟨by rfl, ?_⟩) (by assumption) ?_
            rotate_left
            · (intro w hSw; (try dsimp only at hSw); go_simp; try with_reducible rfl)
            try simp only [List.getElem_toArray, List.getElem_cons_zero, List.getElem_cons_succ, Act.put, List.setIfInBounds_toArray, List.set_cons_zero, List.set_cons_succ]
            refine wpAnyH_take (i := 14) (v := ?_) rfl (by kernel_rfl) (by kernel_rfl) (by kernel_rfl) (fun _ _ _ h => h) (Or.inl ⟨by rfl, ?_⟩) (by assumption) ?_
            rotate_left
            · (intro w hSw; (try dsimp only at hSw); go_simp; try with_reducible rfl)
            try simp only [List.getElem_toArray, List.getElem_cons_zero, List.getElem_cons_succ, Act.put, List.setIfInBounds_toArray, List.set_cons_zero, List.set_cons_succ]
            refine wpAnyH_take (i := 15) (v := ?_) rfl (by kernel_rfl) (by kernel_rfl) (by kernel_rfl) (fun _ _ _ h => h) (Or.inl ⟨by rfl, ?_⟩) (by assumption) ?_
            rotate_left
            · (intro w hSw; (try dsimp only at hSw); go_simp; try with_reducible rfl)
            try simp only [List.getElem_toArray, List.getElem_cons_zero, List.getElem_cons_succ, Act.put, List.setIfInBounds_toArray, List.set_cons_zero, List.set_cons_succ]
            refine wpAnyH_ready (rs := [16]) (by kernel_rfl) (by simp) ?_
            refine AllReadyH.cons (o := _) rfl (fun K hK => ?_) AllReadyH.nil
            go_simp
            refine Calls.mono HAD.out ?_
            rintro e W3 ⟨rfl, B2, h9⟩
            go_wp2_with fail
            refine hK.out _ _ (HS.out _ h9.out.2.bel) (fun hHeld2 => ?_)
            clear hK K hHeld
            try simp only [List.getElem_toArray, List.getElem_cons_zero, List.getElem_cons_succ, Act.put, List.setIfInBounds_toArray, List.set_cons_zero, List.set_cons_succ]
            refine wpAnyH_take (i := 17) (v := ?_) rfl (by kernel_rfl) (by kernel_rfl) (by kernel_rfl) (fun _ _ _ h => h) (Or.inl ⟨by rfl, ?_⟩) (by assumption) ?_
            rotate_left
            · (intro w hSw; (try dsimp only at hSw); go_simp; try with_reducible rfl)
            try simp only [List.getElem_toArray, List.getElem_cons_zero, List.getElem_cons_succ, Act.put, List.setIfInBounds_toArray, List.set_cons_zero, List.set_cons_succ]
            refine wpAnyH_take (i := 18) (v := ?_) rfl (by kernel_rfl) (by kernel_rfl) (by kernel_rfl) (fun _ _ _ h => h) (Or.inl ⟨by rfl, ?_⟩) (by assumption) ?_
            rotate_left
            · (intro w hSw; (try dsimp only at hSw); go_simp; try with_reducible rfl)
            try simp only [List.getElem_toArray, List.getElem_cons_zero, List.getElem_cons_succ, Act.put, List.setIfInBounds_toArray, List.set_cons_zero, List.set_cons_succ]
            refine wpAnyH_take (i := 19) (v := undef) rfl (by kernel_rfl) (by kernel_rfl) (by kernel_rfl) (fun _ _ _ h => h) (Or.inr ⟨by rfl, rfl⟩) (by assumption) ?_
            try simp only [List.getElem_toArray, List.getElem_cons_zero, List.getElem_cons_succ, Act.put, List.setIfInBounds_toArray, List.set_cons_zero, List.set_cons_succ]
            refine wpAnyH_take (i := 20) (v := undef) rfl (by kernel_rfl) (by kernel_rfl) (by kernel_rfl) (fun _ _ _ h => h) (Or.inr ⟨by rfl, rfl⟩) (by assumption) ?_
            try simp only [List.getElem_toArray, List.getElem_cons_zero, List.getElem_cons_succ, Act.put, List.setIfInBounds_toArray, List.set_cons_zero, List.set_cons_succ]
            refine wpAnyH_take (i := 21) (v := undef) rfl (by kernel_rfl) (by kernel_rfl) (by kernel_rfl) (fun _ _ _ h => h) (Or.inr ⟨by rfl, rfl⟩) (by assumption) ?_
            try simp only [List.getElem_toArray, List.getElem_cons_zero, List.getElem_cons_succ, Act.put, List.setIfInBounds_toArray, List.set_cons_zero, List.set_cons_succ]
            refine wpAnyH_take (i := 22) (v := undef) rfl (by kernel_rfl) (by kernel_rfl) (by kernel_rfl) (fun _ _ _ h => h) (Or.inr ⟨by rfl, rfl⟩) (by assumption) ?_
            try simp only [List.getElem_toArray, List.getElem_cons_zero, List.getElem_cons_succ, Act.put, List.setIfInBounds_toArray, List.set_cons_zero, List.set_cons_succ]
            refine wpAnyH_take (i := 23) (v := undef) rfl (by kernel_rfl) (by kernel_rfl) (by kernel_rfl) (fun _ _ _ h => h) (Or.inr ⟨by rfl, rfl⟩) (by assumption) ?_
            try simp only [List.getElem_toArray, List.getElem_cons_zero, List.getElem_cons_succ, Act.put, List.setIfInBounds_toArray, List.set_cons_zero, List.set_cons_succ]
            refine wpAnyH_take (i := 24) (v := undef) rfl (by kernel_rfl) (by kernel_rfl) (by kernel_rfl) (fun _ _ _ h => h) (Or.inr ⟨by rfl, rfl⟩) (by assumption) ?_
            try simp only [List.getElem_toArray, List.getElem_cons_zero, List.getElem_cons_succ, Act.put, List.setIfInBounds_toArray, List.set_cons_zero, List.set_cons_succ]
            refine wpAnyH_take (i := 25) (v := undef) rfl (by kernel_rfl) (by kernel_rfl) (by kernel_rfl) (fun _ _ _ h => h) (Or.inr ⟨by rfl, rfl⟩) (by assumption) ?_
            try simp only [List.getElem_toArray, List.getElem_cons_zero, List.getElem_cons_succ, Act.put, List.setIfInBounds_toArray, List.set_cons_zero, List.set_cons_succ]
            refine wpAnyH_take (i := 26) (v := undef) rfl (by kernel_rfl) (by kernel_rfl) (by kernel_rfl) (fun _ _ _ h => h) (Or.inr ⟨by rfl, rfl⟩) (by assumption) ?_
            try simp only [List.getElem_toArray, List.getElem_cons_zero, List.getElem_cons_succ, Act.put, List.setIfInBounds_toArray, List.set_cons_zero, List.set_cons_succ]
            refine wpAnyH_take (i := 27) (v := undef) rfl (by kernel_rfl) (by kernel_rfl) (by kernel_rfl) (fun _ _ _ h => h) (Or.inr ⟨by rfl, rfl⟩) (by assumption) ?_
            try simp only [List.getElem_toArray, List.getElem_cons_zero, List.getElem_cons_succ, Act.put, List.setIfInBounds_toArray, List.set_cons_zero, List.set_cons_succ]
            refine wpAnyH_take (i := 28) (v := undef) rfl (by kernel_rfl) (by kernel_rfl) (by kernel_rfl) (fun _ _ _ h => h) (Or.inr ⟨by rfl, rfl⟩) (by assumption) ?_
            try simp only [List.getElem_toArray, List.getElem_cons_zero, List.getElem_cons_succ, Act.put, List.setIfInBounds_toArray, List.set_cons_zero, List.set_cons_succ]
            refine wpAnyH_take (i := 29) (v := undef) rfl (by kernel_rfl) (by kernel_rfl) (by kernel_rfl) (fun _ _ _ h => h) (Or.inr ⟨by rfl, rfl⟩) (by assumption) ?_
            try simp only [List.getElem_toArray, List.getElem_cons_zero, List.getElem_cons_succ, Act.put, List.setIfInBounds_toArray, List.set_cons_zero, List.set_cons_succ]
            refine wpAnyH_take (i := 30) (v := undef) rfl (by kernel_rfl) (by kernel_rfl) (by kernel_rfl) (fun _ _ _ h => h) (Or.inr ⟨by rfl, rfl⟩) (by assumption) ?_
            try simp only [List.getElem_toArray, List.getElem_cons_zero, List.getElem_cons_succ, Act.put, List.setIfInBounds_toArray, List.set_cons_zero, List.set_cons_succ]
            refine wpAnyH_take (i := 31) (v := undef) rfl (by kernel_rfl) (by kernel_rfl) (by kernel_rfl) (fun _ _ _ h => h) (Or.inr ⟨by rfl, rfl⟩) (by assumption) ?_
            try simp only [List.getElem_toArray, List.getElem_cons_zero, List.getElem_cons_succ, Act.put, List.setIfInBounds_toArray, List.set_cons_zero, List.set_cons_succ]
            refine wpAnyH_take (i := 32) (v := ?_) rfl (by kernel_rfl) (by kernel_rfl) (by kernel_rfl) (fun _ _ _ h => h) (Or.inl ⟨by rfl, ?_⟩) (by assumption) ?_
            rotate_left
            · (intro w hSw; (try dsimp only at hSw); go_simp; try with_reducible rfl)
            try simp only [List.getElem_toArray, List.getElem_cons_zero, List.getElem_cons_succ, Act.put, List.setIfInBounds_toArray, List.set_cons_zero, List.set_cons_succ]
            refine wpAnyH_done (by kernel_rfl) ?_ _
            go_wp2
            go_roundw
            case rel => exact ⟨j + 1, B2, by omega, by go_num, h9.out.2, by show A.ents = B2.ents; rw [h9.out.1, EN.out]⟩
            case measure => simp [intOf]; omega
        · have hnlt : ¬ (j : Int) < (n2 : Int) := by omega
          go_wp2_with fail
          rw [← e1.out]; clear e1 d1
          refine cut_code fun d1 e1 => ?_
          go_wp2_with fail
          clear hlt hnlt hj
          rename World => wp
          go_loopw [11] (fun i wr => ∃ (g : Nat), g ≤ n3 ∧ i = .int .i64 g ∧ Hid (Two w wr ta tb A B')) (fun i _ => n3 - (intOf i).toNat)
          case atStart => exact ⟨0, Nat.zero_le _, rfl, TW⟩
          case round =>
            clear TW
            obtain ⟨g, hg, rfl, TW⟩ := hrel
            by_cases hlt : g < n3
            · obtain ⟨ip, ht⟩ : ∃ ip, q[g]? = some ip := ⟨q[g]'(by omega), List.getElem?_eq_getElem (by omega)⟩
              obtain ⟨lb, off, rfl, hop⟩ := HQ.out.at TW.out.bel ht
              have HS : Hid (∀ V, Below w.heap.size w V → V.cell? ⟨lb, off + g, none⟩ = some (.int .u32 ip.toNat)) := fun V hV => by
                obtain ⟨lb', off', e, h⟩ := HQ.out.at hV ht
                injection e with e; injection e with e1 e2; subst e1 e2
                exact h
              have hki : (g : Int) < (n3 : Int) := by omega
              have hk0 : (0 : Int) ≤ (g : Int) := by omega
              clear ht
              go_wp2_with fail
              refine (find_v TW.out.A ip).mono ?_
              rintro e W3 ⟨x, ok, rfl, fx, b3⟩
              have TW3 := TW.out.below b3
              have TW4 := TW3.below (below1 W3 (.cells #[.int .u32 x.1.toNat, .int .i64 x.2.1, .int .i64 x.2.2] 37))
              have c4 := HS.out _ TW4.bel
              have bl3 := TW3.bel.size
              have HT4 : Hid _ := TW4
              have FX : Hid _ := fx
              clear TW TW3 TW4 b3 fx hop
              go_wp2_with fail
              refine (find_v HT4.out.B ip).mono ?_
              rintro e W5 ⟨y, oy, rfl, fy, b5⟩
              obtain ⟨rfl, rfl⟩ := findV_one (ents_sorted _ HT4.out.A.wf) (ents_le HT4.out.A.wf) FX.out (EN.out.symm ▸ fy)
              have TW5 := HT4.out.below b5
              have TW6 := TW5.below (below1 W5 (.cells #[.int .u32 x.1.toNat, .int .i64 x.2.1, .int .i64 x.2.2] 37))
              have HT6 : Hid _ := TW6
              have r3 : (W5.alloc (.cells #[.int .u32 x.1.toNat, .int .i64 x.2.1, .int .i64 x.2.2] 37)).heap[W3.heap.size]? = some (.cells #[.int .u32 x.1.toNat, .int .i64 x.2.1, .int .i64 x.2.2] 37 (0, 0)) := by
                have := b5.size
                simp at this
                exact (heap_alloc_old _ _ (by omega)).trans ((b5.block _ (by simp)).trans (heap_alloc_new _ _))
              have HR3 : Hid _ := r3
              have r5 : (W5.alloc (.cells #[.int .u32 x.1.toNat, .int .i64 x.2.1, .int .i64 x.2.2] 37)).heap[W5.heap.size]? = some (.cells #[.int .u32 x.1.toNat, .int .i64 x.2.1, .int .i64 x.2.2] 37 (0, 0)) := heap_alloc_new _ _
              have HR5 : Hid _ := r5
              clear TW5 TW6 b5 fy HT4 r3 c4 r5
              go_wp2_with (first
                | refine wpList_load_row rfl 37 _ rfl W3.heap.size rfl 37 #[.int .u32 x.1.toNat, .int .i64 x.2.1, .int .i64 x.2.2] (0, 0) _ HR3.out Try.underlying37 rfl size3 ?_
                | refine wpList_load_row rfl 37 _ rfl W5.heap.size rfl 37 #[.int .u32 x.1.toNat, .int .i64 x.2.1, .int .i64 x.2.2] (0, 0) _ HR5.out Try.underlying37 rfl size3 ?_
                | fail)
              exact ⟨⟨g + 1, by omega, by go_num, HT6⟩, by simp [intOf]; omega⟩
            · have hnlt : ¬ (g : Int) < (n3 : Int) := by omega
              have HLa : Hid _ := len_any TW.out.A
              have HLb : Hid _ := len_any TW.out.B
              rw [← EN.out] at HLb
              have BE : Hid _ := TW.out.bel
              clear TW EN
              go_wp2_with fail
              rw [← e1.out]; clear e1 d1
              go_wp2_with fail
              refine Calls.mono HLa.out ?_
              rintro e w9 ⟨rfl, hw9⟩
              rw [hw9]; clear hw9 w9
              go_wp2_with fail
              refine Calls.mono HLb.out ?_
              rintro e w9 ⟨rfl, hw9⟩
              rw [hw9]; clear hw9 w9
              go_wp2
              go_ret
              exact ⟨by first | rfl | simp, BE.out⟩
end Go.Proofs.Ytlopnagajhjmmaa
