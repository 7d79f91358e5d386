/- Parts of the proof, in one text. -/
import Derived.Test.YtgonckbdkgiddaaDG
import Derived.Deep.RegionHeld3
import Derived.Deep.AppendLies
namespace Go.Proofs.Ytgonckbdkgiddaa
open Go.RowKit
set_option maxRecDepth 20000
set_option linter.unusedSimpArgs false
/-- The cells of options, one behind the other. -/
def optCells : List Opt → List Value
  | [] => []
  | o :: r => .int .i64 o.cls :: .int .i64 o.code :: .string (strOfNums o.data) :: optCells r
theorem optCells_len (os : List Opt) : (optCells os).length = os.length * 3 := by
  induction os with
  | nil => rfl
  | cons o r ih => simp only [optCells, List.length_cons, ih]; omega
theorem optCells_app (os ps : List Opt) : optCells (os ++ ps) = optCells os ++ optCells ps := by
  induction os with
  | nil => rfl
  | cons o r ih => simp [optCells, ih]
theorem optCells_get (os : List Opt) : ∀ (i : Nat) (o : Opt), os[i]? = some o → (optCells os)[i * 3]? = some (.int .i64 o.cls) ∧ (optCells os)[i * 3 + 1]? = some (.int .i64 o.code) ∧ (optCells os)[i * 3 + 2]? = some (.string (strOfNums o.data)) := by
  induction os with
  | nil => intro i o h; simp at h
  | cons p r ih =>
    intro i o h
    match i with
    | 0 => simp at h; subst h; exact ⟨rfl, rfl, rfl⟩
    | i + 1 =>
      have := ih i o (by simpa using h)
      rw [show (i + 1) * 3 = i * 3 + 1 + 1 + 1 from by omega]
      simpa [optCells] using this
theorem os_own {w : World} {base g n cap : Nat} {os : List Opt} (h : w.ownsRow base 38 3 (.slice (some ⟨g, 0, none⟩) n cap) n (optCells os)) (hr : n ≤ 140737488355328) (hf : ∀ o ∈ os, Fit o.data) : OS w (some ⟨g, 0, none⟩) n os := by
  have hl := h.1
  rw [optCells_len] at hl
  refine ⟨by omega, hr, fun o ho => ⟨hf o ho, trivial⟩, .inr ⟨g, 0, rfl, fun i o hi => ?_⟩⟩
  have hi' : i < os.length := (List.getElem?_eq_some_iff.1 hi).1
  obtain ⟨a, b, c⟩ := optCells_get os i o hi
  rw [Nat.zero_add, h.cellAt (i * 3) (by omega), h.cellAt (i * 3 + 1) (by omega), h.cellAt (i * 3 + 2) (by omega)]
  exact ⟨a, b, c⟩
theorem infoOptG : (Try.prog.info? 38).map (fun i => (i.zero, i.size, i.bytes)) = some (some (.agg #[.int .i64 0, .int .i64 0, .string ⟨#[]⟩]), 3, 32) := by kernel_rfl
/-- How many bytes the first option has. -/
def sizO (zs : List Int) : Nat := (4 + zs.getD 3 0 % 32 * 4).toNat
theorem sizO_four (zs : List Int) : 4 ≤ sizO zs ∧ sizO zs ≤ 128 ∧ sizO zs % 4 = 0 := by unfold sizO; omega
def optO (zs : List Int) : Opt := ⟨num (zs.take 2), zs.getD 2 0, (zs.drop 4).take (sizO zs - 4)⟩
/-- Options, one behind the other. -/
def rdO (zs : List Int) : Option (List Opt) :=
  if zs.length = 0 then some [] else if zs.length < sizO zs then none else (rdO (zs.drop (sizO zs))).map (optO zs :: ·)
termination_by zs.length
decreasing_by
  have := sizO_four zs
  rw [List.length_drop]
  omega
theorem rdO_nil {zs : List Int} (h : zs.length = 0) : rdO zs = some [] := by rw [rdO, if_pos h]
theorem rdO_short {zs : List Int} (h : zs.length ≠ 0) (h1 : zs.length < sizO zs) : rdO zs = none := by rw [rdO, if_neg h, if_pos h1]
theorem rdO_cons {zs : List Int} (h : zs.length ≠ 0) (h1 : ¬ zs.length < sizO zs) : rdO zs = (rdO (zs.drop (sizO zs))).map (optO zs :: ·) := by rw [rdO, if_neg h, if_neg h1]
theorem fits_take9 {zs : List Int} (h : Fit zs) (k : Nat) : Fit (zs.take k) := fun i => by
  rw [List.getD_eq_getElem?_getD, List.getElem?_take]
  split
  · rw [← List.getD_eq_getElem?_getD]; exact h i
  · exact ⟨Int.le_refl _, by decide⟩
theorem u8_and31 (z : Int) (h : 0 ≤ z ∧ z ≤ 255) : bits .and .u8 z 31 = z % 32 := by
  rw [u8_and z 31 (by omega) (by omega) (by omega) (by omega), show (31 : Int).toNat = 2 ^ 5 - 1 from rfl, Nat.and_two_pow_sub_one_eq_mod]
  omega
/-- What holds at the label. -/
structure PG (w : World) (zs : List Int) (ab : Option Addr) (nb cb : Nat) (zb : List Int) (acc : List Opt) (v : Value) (W : World) : Prop where
  bs : BS W ab nb zb
  cap : nb ≤ cb
  most : cb ≤ 9223372036854775807
  four : nb % 4 = 0
  few : nb + acc.length * 4 ≤ 252
  same : rdO zs = (rdO zb).map (acc ++ ·)
  fit : ∀ o ∈ acc, Fit o.data
  own : W.ownsRow w.heap.size 38 3 v acc.length (optCells acc)
  bel : Below w.heap.size w W
  old : ∀ x, ab = some x → x.block < w.heap.size
def lenAt (a : Act) : Nat := match a.tmps.getD 0 undef with | .slice _ n _ => n | _ => 0
def ReadG (w : World) (zs : List Int) (a' : Act) (w' : World) : Prop :=
  ∃ (ab : Option Addr) (nb cb : Nat) (zb : List Int) (acc : List Opt) (v : Value) (u5 u6 u7 u8 u9 u10 u11 u12 u13 u14 u15 u16 u17 u18 u19 u20 u21 u22 u23 u24 u25 u26 u27 u28 u29 u30 u31 u32 u33 u34 u35 u36 u37 u38 : Value), a' = { tmps := #[.slice ab nb cb, undef, .slice none 0 0, .bool false, v, u5, u6, u7, u8, u9, u10, u11, u12, u13, u14, u15, u16, u17, u18, u19, u20, u21, u22, u23, u24, u25, u26, u27, u28, u29, u30, u31, u32, u33, u34, u35, u36, u37, u38], defers := [] } ∧ Hid (PG w zs ab nb cb zb acc v w')
def rdV (r : Option (List Opt)) (w w' : World) (e : Ending) : Prop := match r with
  | some os => ∃ a' c', e = .returned (.tuple #[.slice a' os.length c', .bool true]) ∧ OS w' a' os.length os ∧ ∀ x, a' = some x → w.heap.size ≤ x.block
  | none => e = .returned (.tuple #[.slice none 0 0, .bool false])
set_option maxHeartbeats 8000000 in
theorem greadOpts_any (w : World) (a : Option Addr) (n cap : Nat) (zs : List Int) (h : BS w a n zs) (hcap : n ≤ cap) (hm : cap ≤ 9223372036854775807) (h4 : n % 4 = 0) (hn : n ≤ 252) (hold : ∀ x, a = some x → x.block < w.heap.size) :
    Calls Try.prog 61 #[.slice a n cap] w fun e w' => rdV (rdO zs) w w' e ∧ Below w.heap.size w w' := by
  go_enter Try.func61, Try.ntmps61
  go_wp2_with fail
  refine scope_loop 0 (ReadG w zs) (fun a' _ => lenAt a') rfl ?_ ?_
  · rintro a' wr ⟨ab, nb, cb, zb, acc, v, u5, u6, u7, u8, u9, u10, u11, u12, u13, u14, u15, u16, u17, u18, u19, u20, u21, u22, u23, u24, u25, u26, u27, u28, u29, u30, u31, u32, u33, u34, u35, u36, u37, u38, rfl, hP⟩ IH
    obtain ⟨va, vc, rfl⟩ : ∃ a c, v = .slice a acc.length c := by
      rcases hP.out.own.2 with ⟨rfl, h0⟩ | ⟨g, c, cur, rfl, _⟩
      · exact ⟨none, 0, by rw [h0]⟩
      · exact ⟨_, c, rfl⟩
    have hlz := hP.out.bs.len
    by_cases h0 : nb = 0
    · subst h0
      have HE : Hid (rdO zs = some acc) := by
        show _ = _
        rw [hP.out.same, rdO_nil hlz]; simp
      have HO : Hid (OS wr va acc.length acc ∧ ∀ x, va = some x → w.heap.size ≤ x.block) := by
        show OS _ _ _ _ ∧ _
        have ho := hP.out.own
        rcases ho.2 with ⟨hv, h0⟩ | ⟨g, c, cur, hv, hg, _⟩
        · have ha : acc = [] := List.eq_nil_of_length_eq_zero h0
          subst ha
          have e1 : va = none := by injection hv
          subst e1
          exact ⟨OS.empty _, fun x e => by cases e⟩
        · have e1 : va = some ⟨g, 0, none⟩ := by injection hv
          subst e1
          exact ⟨os_own (cap := vc) ho (by have := hP.out.few; omega) hP.out.fit, fun x e => by cases e; exact hg⟩
      have HB : Hid _ := hP.out.bel
      clear IH hP
      go_wp2
      simp only [Exit.jumpTo]
      go_ret2
      refine ⟨?_, HB.out⟩
      rw [HE.out]
      exact ⟨va, vc, rfl, HO.out.1, HO.out.2⟩
    obtain ⟨b, off, rfl, hcell⟩ := hP.out.bs.cells.resolve_left h0
    have hn4 : 4 ≤ nb := by have := hP.out.four; omega
    have c3 := hcell 3 (by omega)
    have c2 := hcell 2 (by omega)
    have hz3 := hP.out.bs.fits 3
    have hz2 := hP.out.bs.fits 2
    have e31 := u8_and31 _ hz3
    have hnI : (3 : Int) < (nb : Int) := by omega
    have hnI2 : (2 : Int) < (nb : Int) := by omega
    have hne0 : ¬ (nb : Int) = 0 := by omega
    have hs4 := sizO_four zb
    have hsz : (4 : Int) + zb.getD 3 0 % 32 * 4 = (sizO zb : Int) := by unfold sizO; omega
    have hcb : (nb : Int) ≤ (cb : Int) := by have := hP.out.cap; omega
    have HZ : Hid (zb.length = nb) := hlz
    generalize hq3 : zb.getD 3 0 = z3 at *
    generalize hq2 : zb.getD 2 0 = z2 at *
    have w1 : IntKind.i64.wrap (z3 % 32) = z3 % 32 := by simp [IntKind.wrap, IntKind.bits, IntKind.signed]; omega
    have w2 : IntKind.i64.wrap (z3 % 32 * 4) = z3 % 32 * 4 := by simp [IntKind.wrap, IntKind.bits, IntKind.signed]; omega
    have w3 : IntKind.i64.wrap (4 + z3 % 32 * 4) = (sizO zb : Int) := by rw [← hsz]; simp [IntKind.wrap, IntKind.bits, IntKind.signed]; omega
    obtain ⟨s, hs⟩ : ∃ s, sizO zb = s := ⟨_, rfl⟩
    rw [hs] at hs4 hsz w3
    have HS : Hid (sizO zb = s) := hs
    by_cases hlt : nb < s
    · have HE : Hid (rdO zs = none) := by
        show _ = _
        rw [hP.out.same, rdO_short (by omega) (by omega)]; rfl
      have hltI : (nb : Int) < (s : Int) := by omega
      have HB : Hid _ := hP.out.bel
      clear IH hP hcell hs hlz
      go_wp2
      simp only [Exit.jumpTo]
      go_ret2
      refine ⟨?_, HB.out⟩
      rw [HE.out]
      rfl
    have hltI : (s : Int) ≤ (nb : Int) := by omega
    have hsc : (s : Int) ≤ (cb : Int) := by omega
    have h4s : (4 : Int) ≤ (s : Int) := by omega
    have HP : Hid _ := hP.out
    have hcbN := hP.out.cap
    have hwv := Eth9.fits_drop9 hP.out.bs.fits 0
    have hnum := num_bd zb hP.out.bs.fits 2
    obtain ⟨D, hD⟩ : ∃ D, (zb.drop 4).take (s - 4) = D := ⟨_, rfl⟩
    obtain ⟨N2, hN2⟩ : ∃ D, num (zb.take 2) = D := ⟨_, rfl⟩
    have HDf : Hid (Fit D) := by
      show Fit D
      rw [← hD]; exact fits_take9 (Eth9.fits_drop9 hP.out.bs.fits 4) _
    have HOP : Hid (optO zb = ⟨N2, z2, D⟩) := by show _ = _; unfold optO; rw [hs, hD, hN2, hq2]
    have HDQ : Hid ((zb.drop 4).take (s - 4) = D) := hD
    have HNQ : Hid (num (zb.take 2) = N2) := hN2
    rw [hN2] at hnum
    have hrun := run_buildO N2 z2 (strOfNums D)
    have wN : IntKind.i64.wrap N2 = N2 := by simp [IntKind.wrap, IntKind.bits, IntKind.signed]; omega
    have wZ : IntKind.i64.wrap z2 = z2 := by simp [IntKind.wrap, IntKind.bits, IntKind.signed]; omega
    have hbl : b < wr.heap.size := cell_lt c2
    have hblw : b < w.heap.size := hP.out.old _ rfl
    have HC2 : Hid _ := c2
    obtain ⟨i0, hi, hzz0, hzz1, hzz2⟩ := info_parts infoOptG
    clear hcell hs hlz hD hN2 hP hwv
    by_cases hc4 : cb = 4
    · subst hc4
      obtain rfl : s = 4 := by omega
      obtain rfl : nb = 4 := by omega
      go_wp2_with fail
      clear e31 w1 w2 w3 hsz c3 hz3 hq3 hq2 c2
      refine wp_region_held_drew (S := fun W => W.cell? ⟨b, off + 2, none⟩ = some (.int .u8 z2) ∧ BS W (some ⟨b, off, none⟩) 4 zb) (by kernel_rfl) ⟨HC2.out, HP.out.bs.drew⟩ (fun hHeld => ?_)
      refine wpAnyH_take (i := 0) (v := ?_) rfl (by kernel_rfl) (by kernel_rfl) (by kernel_rfl) (fun _ _ _ h => h) (Or.inl ⟨by rfl, ?_⟩) (by assumption) ?_
      rotate_left
      · (intro w hSw; (try dsimp only at hSw); go_simp; try with_reducible rfl)
      try simp only [List.getElem_toArray, List.getElem_cons_zero, List.getElem_cons_succ, Act.put, List.setIfInBounds_toArray, List.set_cons_zero, List.set_cons_succ]
      refine wpAnyH_take (i := 1) (v := ?_) rfl (by kernel_rfl) (by kernel_rfl) (by kernel_rfl) (fun _ _ _ h => h) (Or.inl ⟨by rfl, ?_⟩) (by assumption) ?_
      rotate_left
      · (intro w hSw; (try dsimp only at hSw); go_simp; try with_reducible rfl)
      try simp only [List.getElem_toArray, List.getElem_cons_zero, List.getElem_cons_succ, Act.put, List.setIfInBounds_toArray, List.set_cons_zero, List.set_cons_succ]
      refine wpAnyH_take (i := 4) (v := ?_) rfl (by kernel_rfl) (by kernel_rfl) (by kernel_rfl) (fun _ _ _ h => h) (Or.inl ⟨by rfl, ?_⟩) (by assumption) ?_
      rotate_left
      · (intro w hSw; (try dsimp only at hSw); go_simp; try with_reducible rfl)
      try simp only [List.getElem_toArray, List.getElem_cons_zero, List.getElem_cons_succ, Act.put, List.setIfInBounds_toArray, List.set_cons_zero, List.set_cons_succ]
      refine wpAnyH_take (i := 5) (v := ?_) rfl (by kernel_rfl) (by kernel_rfl) (by kernel_rfl) (fun _ _ _ h => h) (Or.inl ⟨by rfl, ?_⟩) (by assumption) ?_
      rotate_left
      · (intro w hSw; (try dsimp only at hSw); go_simp; try with_reducible rfl)
      try simp only [List.getElem_toArray, List.getElem_cons_zero, List.getElem_cons_succ, Act.put, List.setIfInBounds_toArray, List.set_cons_zero, List.set_cons_succ]
      refine wpAnyH_take (i := 6) (v := ?_) rfl (by kernel_rfl) (by kernel_rfl) (by kernel_rfl) (fun _ _ _ h => h) (Or.inl ⟨by rfl, ?_⟩) (by assumption) ?_
      rotate_left
      · (intro w hSw; (try dsimp only at hSw); go_simp; try with_reducible rfl)
      try simp only [List.getElem_toArray, List.getElem_cons_zero, List.getElem_cons_succ, Act.put, List.setIfInBounds_toArray, List.set_cons_zero, List.set_cons_succ]
      refine wpAnyH_take (i := 7) (v := ?_) rfl (by kernel_rfl) (by kernel_rfl) (by kernel_rfl) (fun _ _ _ h => h) (Or.inl ⟨by rfl, ?_⟩) (by assumption) ?_
      rotate_left
      · (intro w hSw; (try dsimp only at hSw); go_simp; try with_reducible rfl)
      try simp only [List.getElem_toArray, List.getElem_cons_zero, List.getElem_cons_succ, Act.put, List.setIfInBounds_toArray, List.set_cons_zero, List.set_cons_succ]
      refine wpAnyH_take (i := 8) (v := ?_) rfl (by kernel_rfl) (by kernel_rfl) (by kernel_rfl) (fun _ _ _ h => h) (Or.inl ⟨by rfl, ?_⟩) (by assumption) ?_
      rotate_left
      · (intro w hSw; (try dsimp only at hSw); go_simp; try with_reducible rfl)
      try simp only [List.getElem_toArray, List.getElem_cons_zero, List.getElem_cons_succ, Act.put, List.setIfInBounds_toArray, List.set_cons_zero, List.set_cons_succ]
      refine wpAnyH_take (i := 9) (v := ?_) rfl (by kernel_rfl) (by kernel_rfl) (by kernel_rfl) (fun _ _ _ h => h) (Or.inl ⟨by rfl, ?_⟩) (by assumption) ?_
      rotate_left
      · (intro w hSw; (try dsimp only at hSw); go_simp; try with_reducible rfl)
      try simp only [List.getElem_toArray, List.getElem_cons_zero, List.getElem_cons_succ, Act.put, List.setIfInBounds_toArray, List.set_cons_zero, List.set_cons_succ]
      refine wpAnyH_take (i := 10) (v := ?_) rfl (by kernel_rfl) (by kernel_rfl) (by kernel_rfl) (fun _ _ _ h => h) (Or.inl ⟨by rfl, ?_⟩) (by assumption) ?_
      rotate_left
      · (intro w hSw; (try dsimp only at hSw); go_simp; try with_reducible rfl)
      try simp only [List.getElem_toArray, List.getElem_cons_zero, List.getElem_cons_succ, Act.put, List.setIfInBounds_toArray, List.set_cons_zero, List.set_cons_succ]
      refine wpAnyH_take (i := 11) (v := .string (strOfNums D)) rfl (by kernel_rfl) (by kernel_rfl) (by kernel_rfl) (fun _ _ _ h => h) (Or.inl ⟨by rfl, fun W hW => by have c := run_conv_bs (P := Try.prog) 0 (BS.empty (w := W) (some ⟨b, off, none⟩)) 26 9 5 Try.underlying26 Try.underlying5 Try.underlying9; rw [show ([] : List Int) = D from (by rw [← HDQ.out, Nat.sub_self, List.take_zero])] at c; go_simp⟩) (by assumption) ?_
      try simp only [List.getElem_toArray, List.getElem_cons_zero, List.getElem_cons_succ, Act.put, List.setIfInBounds_toArray, List.set_cons_zero, List.set_cons_succ]
      refine wpAnyH_ready (rs := [2]) (by kernel_rfl) (by simp) ?_
      refine AllReadyH.cons (o := _) rfl (fun K hK => ?_) AllReadyH.nil
      go_simp
      refine (word_any _ b off 4 4 0 zb hHeld.2 (by omega) (by omega)).mono ?_
      rintro e W2 ⟨rfl, rfl⟩
      go_wp2_with fail
      refine hK.out _ _ hHeld (fun hHeld2 => ?_)
      clear hK K
      try simp only [List.getElem_toArray, List.getElem_cons_zero, List.getElem_cons_succ, Act.put, List.setIfInBounds_toArray, List.set_cons_zero, List.set_cons_succ]
      rw [HNQ.out]
      refine wpAnyH_take (i := 3) (v := ?_) rfl (by kernel_rfl) (by kernel_rfl) (by kernel_rfl) (fun _ _ _ h => h) (Or.inl ⟨by rfl, ?_⟩) (by assumption) ?_
      rotate_left
      · (intro w hSw; (try dsimp only at hSw); go_simp; try with_reducible rfl)
      try simp only [List.getElem_toArray, List.getElem_cons_zero, List.getElem_cons_succ, Act.put, List.setIfInBounds_toArray, List.set_cons_zero, List.set_cons_succ]
      refine wpAnyH_take (i := 12) (v := ?_) rfl (by kernel_rfl) (by kernel_rfl) (by kernel_rfl) (fun _ _ _ h => h) (Or.inl ⟨by rfl, ?_⟩) (by assumption) ?_
      rotate_left
      · (intro w hSw; (try dsimp only at hSw); go_simp; try with_reducible rfl)
      try simp only [List.getElem_toArray, List.getElem_cons_zero, List.getElem_cons_succ, Act.put, List.setIfInBounds_toArray, List.set_cons_zero, List.set_cons_succ]
      refine wpAnyH_ready (rs := [13]) (by kernel_rfl) (by simp) ?_
      refine AllReadyH.cons (o := _) rfl (fun K hK => ?_) AllReadyH.nil
      go_simp
      have c2b : (wr.alloc (.cells #[.int .i64 N2, .int .i64 z2, .string (strOfNums D)] 38)).drew.cell? ⟨b, off + 2, none⟩ = some (.int .u8 z2) := ((below1 wr _).cell (p := ⟨b, off + 2, none⟩) hbl).trans HC2.out
      have bsb : BS (wr.alloc (.cells #[.int .i64 N2, .int .i64 z2, .string (strOfNums D)] 38)).drew (some ⟨b, off, none⟩) 4 zb := (HP.out.bs.below (below1 wr _)).drew
      refine hK.out _ _ ⟨c2b, bsb⟩ (fun hHeld3 => ?_)
      clear hK K hHeld hHeld2
      try simp only [List.getElem_toArray, List.getElem_cons_zero, List.getElem_cons_succ, Act.put, List.setIfInBounds_toArray, List.set_cons_zero, List.set_cons_succ]
      have hOw : World.ownsRow (wr.alloc (.cells #[.int .i64 N2, .int .i64 z2, .string (strOfNums D)] 38)).drew w.heap.size 38 3 (.slice va acc.length vc) acc.length (optCells acc) := World.ownsRow.drew (World.ownsRow.alloc HP.out.own _)
      have hwz := HP.out.bel.size
      have hfew := HP.out.few
      refine wpAnyH_ready (rs := [14]) (by kernel_rfl) (by simp) ?_
      refine AllReadyH.cons (o := _) rfl (fun K hK => ?_) AllReadyH.nil
      refine step_append_lies _ (by rfl) (.tmp 21) (.tmp 34) 23 (by rfl) w.heap.size 38 i0 _ 3 32 Try.underlying23 hi hzz0 hzz1 hzz2 rfl (by omega) _ acc.length _ (by rfl) hOw ⟨wr.heap.size, 0, none⟩ 1 1 [.int .i64 N2, .int .i64 z2, .string (strOfNums D)] (by rfl) rfl (World.news_of_block (w := (wr.alloc (.cells #[.int .i64 N2, .int .i64 z2, .string (strOfNums D)] 38)).drew) (heap_alloc_new wr _)) (by simp [Value.oneCell']) (by omega) (by unfold maxLen; omega) (by omega) (by simp; omega) _ rfl ?_
      intro g cap2 we h1' h2' h3' h4'
      have hck3 : we.cell? ⟨b, off + 2, none⟩ = some (.int .u8 z2) := (h2'.cell_far ⟨b, off + 2, none⟩ (by simp; omega) (fun e => by have := (World.ownsRow.lt hOw _ e.symm).1; simp at this; omega)).trans c2b
      have bs3 : BS we (some ⟨b, off, none⟩) 4 zb := by
        refine ⟨bsb.len, bsb.fits, bsb.room, .inr ⟨b, off, rfl, fun k hk => ?_⟩⟩
        have hc0 : (wr.alloc (.cells #[.int .i64 N2, .int .i64 z2, .string (strOfNums D)] 38)).drew.cell? ⟨b, off + k, none⟩ = some (.int .u8 (zb.getD k 0)) := by
          rcases bsb.cells with h0 | ⟨b', off', e, hc⟩
          · omega
          · cases e; exact hc k hk
        exact (h2'.cell_far ⟨b, off + k, none⟩ (by simp; omega) (fun e => by have := (World.ownsRow.lt hOw _ e.symm).1; simp at this; omega)).trans hc0
      refine hK.out _ _ ⟨hck3, bs3⟩ (fun hHeld4 => ?_)
      clear hK K hHeld3
      try simp only [List.getElem_toArray, List.getElem_cons_zero, List.getElem_cons_succ, Act.put, List.setIfInBounds_toArray, List.set_cons_zero, List.set_cons_succ]
      refine wpAnyH_take (i := 15) (v := ?_) rfl (by kernel_rfl) (by kernel_rfl) (by kernel_rfl) (fun _ _ _ h => h) (Or.inl ⟨by rfl, ?_⟩) (by assumption) ?_
      rotate_left
      · (intro w hSw; (try dsimp only at hSw); go_simp; try with_reducible rfl)
      try simp only [List.getElem_toArray, List.getElem_cons_zero, List.getElem_cons_succ, Act.put, List.setIfInBounds_toArray, List.set_cons_zero, List.set_cons_succ]
      refine wpAnyH_done (by kernel_rfl) ?_ _
      have hlz : zb.length = 4 := HZ.out
      have hPG : PG w zs (some ⟨b, off, none⟩) 0 0 [] (acc ++ [⟨N2, z2, D⟩]) (.slice (some ⟨g, 0, none⟩) (acc.length + 1) cap2) we := by
        refine ⟨BS.empty _, by omega, by have := HP.out.most; omega, by have := HP.out.four; omega, by rw [List.length_append]; simp; omega, ?_, ?_, ?_, ?_, fun x e => by cases e; exact hblw⟩
        · rw [HP.out.same, rdO_cons (by omega) (by rw [HS.out]; omega), HS.out, HOP.out, show zb.drop 4 = [] from List.drop_of_length_le (by omega)]
          cases rdO [] <;> simp
        · intro o ho
          rcases List.mem_append.1 ho with h | h
          · exact HP.out.fit o h
          · obtain rfl : o = ⟨N2, z2, D⟩ := by simpa using h
            exact HDf.out
        · rw [show (acc ++ [(⟨N2, z2, D⟩ : Opt)]).length = acc.length + 1 from by simp, optCells_app]
          exact h1'
        · have bA := HP.out.bel.alloc HP.out.bel.size (.cells #[.int .i64 N2, .int .i64 z2, .string (strOfNums D)] 38)
          exact bA.drew.grown h2' (by simp; omega) (fun j hj => (World.ownsRow.lt hOw j hj).1)
      have HPG : Hid _ := hPG
      clear hPG h1' h2' h3' h4' hck3 bs3 hOw hHeld4 c2b bsb hrun
      go_wp2_with fail
      go_step3
      show FromLabel _ _ _ _ _ _
      refine IH.out _ _ ⟨(some ⟨b, off, none⟩), 0, 0, [], acc ++ [⟨N2, z2, D⟩], _, _, _, _, _, _, _, _, _, _, _, _, _, _, _, _, _, _, _, _, _, _, _, _, _, _, _, _, _, _, _, _, _, _, _, by first | rfl | go_num, HPG⟩ ?_
      simp [lenAt]; try omega
    by_cases hcs : cb = s
    · obtain rfl : s = nb := by omega
      obtain rfl : s = cb := hcs.symm
      go_wp2_with fail
      clear e31 w1 w2 w3 hsz c3 hz3 hq3 hq2 c2
      refine wp_region_held_drew (S := fun W => W.cell? ⟨b, off + 2, none⟩ = some (.int .u8 z2) ∧ BS W (some ⟨b, off, none⟩) s zb) (by kernel_rfl) ⟨HC2.out, HP.out.bs.drew⟩ (fun hHeld => ?_)
      refine wpAnyH_take (i := 0) (v := ?_) rfl (by kernel_rfl) (by kernel_rfl) (by kernel_rfl) (fun _ _ _ h => h) (Or.inl ⟨by rfl, ?_⟩) (by assumption) ?_
      rotate_left
      · (intro w hSw; (try dsimp only at hSw); go_simp; try with_reducible rfl)
      try simp only [List.getElem_toArray, List.getElem_cons_zero, List.getElem_cons_succ, Act.put, List.setIfInBounds_toArray, List.set_cons_zero, List.set_cons_succ]
      refine wpAnyH_take (i := 1) (v := ?_) rfl (by kernel_rfl) (by kernel_rfl) (by kernel_rfl) (fun _ _ _ h => h) (Or.inl ⟨by rfl, ?_⟩) (by assumption) ?_
      rotate_left
      · (intro w hSw; (try dsimp only at hSw); go_simp; try with_reducible rfl)
      try simp only [List.getElem_toArray, List.getElem_cons_zero, List.getElem_cons_succ, Act.put, List.setIfInBounds_toArray, List.set_cons_zero, List.set_cons_succ]
      refine wpAnyH_take (i := 4) (v := ?_) rfl (by kernel_rfl) (by kernel_rfl) (by kernel_rfl) (fun _ _ _ h => h) (Or.inl ⟨by rfl, ?_⟩) (by assumption) ?_
      rotate_left
      · (intro w hSw; (try dsimp only at hSw); go_simp; try with_reducible rfl)
      try simp only [List.getElem_toArray, List.getElem_cons_zero, List.getElem_cons_succ, Act.put, List.setIfInBounds_toArray, List.set_cons_zero, List.set_cons_succ]
      refine wpAnyH_take (i := 5) (v := ?_) rfl (by kernel_rfl) (by kernel_rfl) (by kernel_rfl) (fun _ _ _ h => h) (Or.inl ⟨by rfl, ?_⟩) (by assumption) ?_
      rotate_left
      · (intro w hSw; (try dsimp only at hSw); go_simp; try with_reducible rfl)
      try simp only [List.getElem_toArray, List.getElem_cons_zero, List.getElem_cons_succ, Act.put, List.setIfInBounds_toArray, List.set_cons_zero, List.set_cons_succ]
      refine wpAnyH_take (i := 6) (v := ?_) rfl (by kernel_rfl) (by kernel_rfl) (by kernel_rfl) (fun _ _ _ h => h) (Or.inl ⟨by rfl, ?_⟩) (by assumption) ?_
      rotate_left
      · (intro w hSw; (try dsimp only at hSw); go_simp; try with_reducible rfl)
      try simp only [List.getElem_toArray, List.getElem_cons_zero, List.getElem_cons_succ, Act.put, List.setIfInBounds_toArray, List.set_cons_zero, List.set_cons_succ]
      refine wpAnyH_take (i := 7) (v := ?_) rfl (by kernel_rfl) (by kernel_rfl) (by kernel_rfl) (fun _ _ _ h => h) (Or.inl ⟨by rfl, ?_⟩) (by assumption) ?_
      rotate_left
      · (intro w hSw; (try dsimp only at hSw); go_simp; try with_reducible rfl)
      try simp only [List.getElem_toArray, List.getElem_cons_zero, List.getElem_cons_succ, Act.put, List.setIfInBounds_toArray, List.set_cons_zero, List.set_cons_succ]
      refine wpAnyH_take (i := 8) (v := ?_) rfl (by kernel_rfl) (by kernel_rfl) (by kernel_rfl) (fun _ _ _ h => h) (Or.inl ⟨by rfl, ?_⟩) (by assumption) ?_
      rotate_left
      · (intro w hSw; (try dsimp only at hSw); go_simp; try with_reducible rfl)
      try simp only [List.getElem_toArray, List.getElem_cons_zero, List.getElem_cons_succ, Act.put, List.setIfInBounds_toArray, List.set_cons_zero, List.set_cons_succ]
      refine wpAnyH_take (i := 9) (v := ?_) rfl (by kernel_rfl) (by kernel_rfl) (by kernel_rfl) (fun _ _ _ h => h) (Or.inl ⟨by rfl, ?_⟩) (by assumption) ?_
      rotate_left
      · (intro w hSw; (try dsimp only at hSw); go_simp; try with_reducible rfl)
      try simp only [List.getElem_toArray, List.getElem_cons_zero, List.getElem_cons_succ, Act.put, List.setIfInBounds_toArray, List.set_cons_zero, List.set_cons_succ]
      refine wpAnyH_take (i := 10) (v := ?_) rfl (by kernel_rfl) (by kernel_rfl) (by kernel_rfl) (fun _ _ _ h => h) (Or.inl ⟨by rfl, ?_⟩) (by assumption) ?_
      rotate_left
      · (intro w hSw; (try dsimp only at hSw); go_simp; try with_reducible rfl)
      try simp only [List.getElem_toArray, List.getElem_cons_zero, List.getElem_cons_succ, Act.put, List.setIfInBounds_toArray, List.set_cons_zero, List.set_cons_succ]
      refine wpAnyH_take (i := 11) (v := .string (strOfNums D)) rfl (by kernel_rfl) (by kernel_rfl) (by kernel_rfl) (fun _ _ _ h => h) (Or.inl ⟨by rfl, fun W hW => by have c := run_conv_bs (P := Try.prog) (s - 4) ((hW.2.drop (by omega) 4 (by omega)).take (s - 4) (by omega)) 26 9 5 Try.underlying26 Try.underlying5 Try.underlying9; rw [HDQ.out] at c; go_simp⟩) (by assumption) ?_
      try simp only [List.getElem_toArray, List.getElem_cons_zero, List.getElem_cons_succ, Act.put, List.setIfInBounds_toArray, List.set_cons_zero, List.set_cons_succ]
      refine wpAnyH_ready (rs := [2]) (by kernel_rfl) (by simp) ?_
      refine AllReadyH.cons (o := _) rfl (fun K hK => ?_) AllReadyH.nil
      go_simp
      refine (word_any _ b off s s 0 zb hHeld.2 (by omega) (by omega)).mono ?_
      rintro e W2 ⟨rfl, rfl⟩
      go_wp2_with fail
      refine hK.out _ _ hHeld (fun hHeld2 => ?_)
      clear hK K
      try simp only [List.getElem_toArray, List.getElem_cons_zero, List.getElem_cons_succ, Act.put, List.setIfInBounds_toArray, List.set_cons_zero, List.set_cons_succ]
      rw [HNQ.out]
      refine wpAnyH_take (i := 3) (v := ?_) rfl (by kernel_rfl) (by kernel_rfl) (by kernel_rfl) (fun _ _ _ h => h) (Or.inl ⟨by rfl, ?_⟩) (by assumption) ?_
      rotate_left
      · (intro w hSw; (try dsimp only at hSw); go_simp; try with_reducible rfl)
      try simp only [List.getElem_toArray, List.getElem_cons_zero, List.getElem_cons_succ, Act.put, List.setIfInBounds_toArray, List.set_cons_zero, List.set_cons_succ]
      refine wpAnyH_take (i := 12) (v := ?_) rfl (by kernel_rfl) (by kernel_rfl) (by kernel_rfl) (fun _ _ _ h => h) (Or.inl ⟨by rfl, ?_⟩) (by assumption) ?_
      rotate_left
      · (intro w hSw; (try dsimp only at hSw); go_simp; try with_reducible rfl)
      try simp only [List.getElem_toArray, List.getElem_cons_zero, List.getElem_cons_succ, Act.put, List.setIfInBounds_toArray, List.set_cons_zero, List.set_cons_succ]
      refine wpAnyH_ready (rs := [13]) (by kernel_rfl) (by simp) ?_
      refine AllReadyH.cons (o := _) rfl (fun K hK => ?_) AllReadyH.nil
      go_simp
      have c2b : (wr.alloc (.cells #[.int .i64 N2, .int .i64 z2, .string (strOfNums D)] 38)).drew.cell? ⟨b, off + 2, none⟩ = some (.int .u8 z2) := ((below1 wr _).cell (p := ⟨b, off + 2, none⟩) hbl).trans HC2.out
      have bsb : BS (wr.alloc (.cells #[.int .i64 N2, .int .i64 z2, .string (strOfNums D)] 38)).drew (some ⟨b, off, none⟩) s zb := (HP.out.bs.below (below1 wr _)).drew
      refine hK.out _ _ ⟨c2b, bsb⟩ (fun hHeld3 => ?_)
      clear hK K hHeld hHeld2
      try simp only [List.getElem_toArray, List.getElem_cons_zero, List.getElem_cons_succ, Act.put, List.setIfInBounds_toArray, List.set_cons_zero, List.set_cons_succ]
      have hOw : World.ownsRow (wr.alloc (.cells #[.int .i64 N2, .int .i64 z2, .string (strOfNums D)] 38)).drew w.heap.size 38 3 (.slice va acc.length vc) acc.length (optCells acc) := World.ownsRow.drew (World.ownsRow.alloc HP.out.own _)
      have hwz := HP.out.bel.size
      have hfew := HP.out.few
      refine wpAnyH_ready (rs := [14]) (by kernel_rfl) (by simp) ?_
      refine AllReadyH.cons (o := _) rfl (fun K hK => ?_) AllReadyH.nil
      refine step_append_lies _ (by rfl) (.tmp 21) (.tmp 34) 23 (by rfl) w.heap.size 38 i0 _ 3 32 Try.underlying23 hi hzz0 hzz1 hzz2 rfl (by omega) _ acc.length _ (by rfl) hOw ⟨wr.heap.size, 0, none⟩ 1 1 [.int .i64 N2, .int .i64 z2, .string (strOfNums D)] (by rfl) rfl (World.news_of_block (w := (wr.alloc (.cells #[.int .i64 N2, .int .i64 z2, .string (strOfNums D)] 38)).drew) (heap_alloc_new wr _)) (by simp [Value.oneCell']) (by omega) (by unfold maxLen; omega) (by omega) (by simp; omega) _ rfl ?_
      intro g cap2 we h1' h2' h3' h4'
      have hck3 : we.cell? ⟨b, off + 2, none⟩ = some (.int .u8 z2) := (h2'.cell_far ⟨b, off + 2, none⟩ (by simp; omega) (fun e => by have := (World.ownsRow.lt hOw _ e.symm).1; simp at this; omega)).trans c2b
      have bs3 : BS we (some ⟨b, off, none⟩) s zb := by
        refine ⟨bsb.len, bsb.fits, bsb.room, .inr ⟨b, off, rfl, fun k hk => ?_⟩⟩
        have hc0 : (wr.alloc (.cells #[.int .i64 N2, .int .i64 z2, .string (strOfNums D)] 38)).drew.cell? ⟨b, off + k, none⟩ = some (.int .u8 (zb.getD k 0)) := by
          rcases bsb.cells with h0 | ⟨b', off', e, hc⟩
          · omega
          · cases e; exact hc k hk
        exact (h2'.cell_far ⟨b, off + k, none⟩ (by simp; omega) (fun e => by have := (World.ownsRow.lt hOw _ e.symm).1; simp at this; omega)).trans hc0
      refine hK.out _ _ ⟨hck3, bs3⟩ (fun hHeld4 => ?_)
      clear hK K hHeld3
      try simp only [List.getElem_toArray, List.getElem_cons_zero, List.getElem_cons_succ, Act.put, List.setIfInBounds_toArray, List.set_cons_zero, List.set_cons_succ]
      refine wpAnyH_take (i := 15) (v := ?_) rfl (by kernel_rfl) (by kernel_rfl) (by kernel_rfl) (fun _ _ _ h => h) (Or.inl ⟨by rfl, ?_⟩) (by assumption) ?_
      rotate_left
      · (intro w hSw; (try dsimp only at hSw); go_simp; try with_reducible rfl)
      try simp only [List.getElem_toArray, List.getElem_cons_zero, List.getElem_cons_succ, Act.put, List.setIfInBounds_toArray, List.set_cons_zero, List.set_cons_succ]
      refine wpAnyH_done (by kernel_rfl) ?_ _
      have hlz : zb.length = s := HZ.out
      have hPG : PG w zs (some ⟨b, off, none⟩) 0 0 [] (acc ++ [⟨N2, z2, D⟩]) (.slice (some ⟨g, 0, none⟩) (acc.length + 1) cap2) we := by
        refine ⟨BS.empty _, by omega, by have := HP.out.most; omega, by have := HP.out.four; omega, by rw [List.length_append]; simp; omega, ?_, ?_, ?_, ?_, fun x e => by cases e; exact hblw⟩
        · rw [HP.out.same, rdO_cons (by omega) (by rw [HS.out]; omega), HS.out, HOP.out, show zb.drop s = [] from List.drop_of_length_le (by omega)]
          cases rdO [] <;> simp
        · intro o ho
          rcases List.mem_append.1 ho with h | h
          · exact HP.out.fit o h
          · obtain rfl : o = ⟨N2, z2, D⟩ := by simpa using h
            exact HDf.out
        · rw [show (acc ++ [(⟨N2, z2, D⟩ : Opt)]).length = acc.length + 1 from by simp, optCells_app]
          exact h1'
        · have bA := HP.out.bel.alloc HP.out.bel.size (.cells #[.int .i64 N2, .int .i64 z2, .string (strOfNums D)] 38)
          exact bA.drew.grown h2' (by simp; omega) (fun j hj => (World.ownsRow.lt hOw j hj).1)
      have HPG : Hid _ := hPG
      clear hPG h1' h2' h3' h4' hck3 bs3 hOw hHeld4 c2b bsb hrun
      go_wp2_with fail
      go_step3
      show FromLabel _ _ _ _ _ _
      refine IH.out _ _ ⟨(some ⟨b, off, none⟩), 0, 0, [], acc ++ [⟨N2, z2, D⟩], _, _, _, _, _, _, _, _, _, _, _, _, _, _, _, _, _, _, _, _, _, _, _, _, _, _, _, _, _, _, _, _, _, _, _, by first | rfl | go_num, HPG⟩ ?_
      simp [lenAt]; try omega
    go_wp2_with fail
    clear e31 w1 w2 w3 hsz c3 hz3 hq3 hq2 c2
    refine wp_region_held_drew (S := fun W => W.cell? ⟨b, off + 2, none⟩ = some (.int .u8 z2) ∧ BS W (some ⟨b, off, none⟩) nb zb) (by kernel_rfl) ⟨HC2.out, HP.out.bs.drew⟩ (fun hHeld => ?_)
    refine wpAnyH_take (i := 0) (v := ?_) rfl (by kernel_rfl) (by kernel_rfl) (by kernel_rfl) (fun _ _ _ h => h) (Or.inl ⟨by rfl, ?_⟩) (by assumption) ?_
    rotate_left
    · (intro w hSw; (try dsimp only at hSw); go_simp; try with_reducible rfl)
    try simp only [List.getElem_toArray, List.getElem_cons_zero, List.getElem_cons_succ, Act.put, List.setIfInBounds_toArray, List.set_cons_zero, List.set_cons_succ]
    refine wpAnyH_take (i := 1) (v := ?_) rfl (by kernel_rfl) (by kernel_rfl) (by kernel_rfl) (fun _ _ _ h => h) (Or.inl ⟨by rfl, ?_⟩) (by assumption) ?_
    rotate_left
    · (intro w hSw; (try dsimp only at hSw); go_simp; try with_reducible rfl)
    try simp only [List.getElem_toArray, List.getElem_cons_zero, List.getElem_cons_succ, Act.put, List.setIfInBounds_toArray, List.set_cons_zero, List.set_cons_succ]
    refine wpAnyH_take (i := 4) (v := ?_) rfl (by kernel_rfl) (by kernel_rfl) (by kernel_rfl) (fun _ _ _ h => h) (Or.inl ⟨by rfl, ?_⟩) (by assumption) ?_
    rotate_left
    · (intro w hSw; (try dsimp only at hSw); go_simp; try with_reducible rfl)
    try simp only [List.getElem_toArray, List.getElem_cons_zero, List.getElem_cons_succ, Act.put, List.setIfInBounds_toArray, List.set_cons_zero, List.set_cons_succ]
    refine wpAnyH_take (i := 5) (v := ?_) rfl (by kernel_rfl) (by kernel_rfl) (by kernel_rfl) (fun _ _ _ h => h) (Or.inl ⟨by rfl, ?_⟩) (by assumption) ?_
    rotate_left
    · (intro w hSw; (try dsimp only at hSw); go_simp; try with_reducible rfl)
    try simp only [List.getElem_toArray, List.getElem_cons_zero, List.getElem_cons_succ, Act.put, List.setIfInBounds_toArray, List.set_cons_zero, List.set_cons_succ]
    refine wpAnyH_take (i := 6) (v := ?_) rfl (by kernel_rfl) (by kernel_rfl) (by kernel_rfl) (fun _ _ _ h => h) (Or.inl ⟨by rfl, ?_⟩) (by assumption) ?_
    rotate_left
    · (intro w hSw; (try dsimp only at hSw); go_simp; try with_reducible rfl)
    try simp only [List.getElem_toArray, List.getElem_cons_zero, List.getElem_cons_succ, Act.put, List.setIfInBounds_toArray, List.set_cons_zero, List.set_cons_succ]
    refine wpAnyH_take (i := 7) (v := ?_) rfl (by kernel_rfl) (by kernel_rfl) (by kernel_rfl) (fun _ _ _ h => h) (Or.inl ⟨by rfl, ?_⟩) (by assumption) ?_
    rotate_left
    · (intro w hSw; (try dsimp only at hSw); go_simp; try with_reducible rfl)
    try simp only [List.getElem_toArray, List.getElem_cons_zero, List.getElem_cons_succ, Act.put, List.setIfInBounds_toArray, List.set_cons_zero, List.set_cons_succ]
    refine wpAnyH_take (i := 8) (v := ?_) rfl (by kernel_rfl) (by kernel_rfl) (by kernel_rfl) (fun _ _ _ h => h) (Or.inl ⟨by rfl, ?_⟩) (by assumption) ?_
    rotate_left
    · (intro w hSw; (try dsimp only at hSw); go_simp; try with_reducible rfl)
    try simp only [List.getElem_toArray, List.getElem_cons_zero, List.getElem_cons_succ, Act.put, List.setIfInBounds_toArray, List.set_cons_zero, List.set_cons_succ]
    refine wpAnyH_take (i := 9) (v := ?_) rfl (by kernel_rfl) (by kernel_rfl) (by kernel_rfl) (fun _ _ _ h => h) (Or.inl ⟨by rfl, ?_⟩) (by assumption) ?_
    rotate_left
    · (intro w hSw; (try dsimp only at hSw); go_simp; try with_reducible rfl)
    try simp only [List.getElem_toArray, List.getElem_cons_zero, List.getElem_cons_succ, Act.put, List.setIfInBounds_toArray, List.set_cons_zero, List.set_cons_succ]
    refine wpAnyH_take (i := 10) (v := ?_) rfl (by kernel_rfl) (by kernel_rfl) (by kernel_rfl) (fun _ _ _ h => h) (Or.inl ⟨by rfl, ?_⟩) (by assumption) ?_
    rotate_left
    · (intro w hSw; (try dsimp only at hSw); go_simp; try with_reducible rfl)
    try simp only [List.getElem_toArray, List.getElem_cons_zero, List.getElem_cons_succ, Act.put, List.setIfInBounds_toArray, List.set_cons_zero, List.set_cons_succ]
    refine wpAnyH_take (i := 11) (v := .string (strOfNums D)) rfl (by kernel_rfl) (by kernel_rfl) (by kernel_rfl) (fun _ _ _ h => h) (Or.inl ⟨by rfl, fun W hW => by have c := run_conv_bs (P := Try.prog) (cb - 4) ((hW.2.drop (by omega) 4 (by omega)).take (s - 4) (by omega)) 26 9 5 Try.underlying26 Try.underlying5 Try.underlying9; rw [HDQ.out] at c; go_simp⟩) (by assumption) ?_
    try simp only [List.getElem_toArray, List.getElem_cons_zero, List.getElem_cons_succ, Act.put, List.setIfInBounds_toArray, List.set_cons_zero, List.set_cons_succ]
    refine wpAnyH_ready (rs := [2]) (by kernel_rfl) (by simp) ?_
    refine AllReadyH.cons (o := _) rfl (fun K hK => ?_) AllReadyH.nil
    go_simp
    refine (word_any _ b off nb cb 0 zb hHeld.2 (by omega) (by omega)).mono ?_
    rintro e W2 ⟨rfl, rfl⟩
    go_wp2_with fail
    refine hK.out _ _ hHeld (fun hHeld2 => ?_)
    clear hK K
    try simp only [List.getElem_toArray, List.getElem_cons_zero, List.getElem_cons_succ, Act.put, List.setIfInBounds_toArray, List.set_cons_zero, List.set_cons_succ]
    rw [HNQ.out]
    refine wpAnyH_take (i := 3) (v := ?_) rfl (by kernel_rfl) (by kernel_rfl) (by kernel_rfl) (fun _ _ _ h => h) (Or.inl ⟨by rfl, ?_⟩) (by assumption) ?_
    rotate_left
    · (intro w hSw; (try dsimp only at hSw); go_simp; try with_reducible rfl)
    try simp only [List.getElem_toArray, List.getElem_cons_zero, List.getElem_cons_succ, Act.put, List.setIfInBounds_toArray, List.set_cons_zero, List.set_cons_succ]
    refine wpAnyH_take (i := 12) (v := ?_) rfl (by kernel_rfl) (by kernel_rfl) (by kernel_rfl) (fun _ _ _ h => h) (Or.inl ⟨by rfl, ?_⟩) (by assumption) ?_
    rotate_left
    · (intro w hSw; (try dsimp only at hSw); go_simp; try with_reducible rfl)
    try simp only [List.getElem_toArray, List.getElem_cons_zero, List.getElem_cons_succ, Act.put, List.setIfInBounds_toArray, List.set_cons_zero, List.set_cons_succ]
    refine wpAnyH_ready (rs := [13]) (by kernel_rfl) (by simp) ?_
    refine AllReadyH.cons (o := _) rfl (fun K hK => ?_) AllReadyH.nil
    go_simp
    have c2b : (wr.alloc (.cells #[.int .i64 N2, .int .i64 z2, .string (strOfNums D)] 38)).drew.cell? ⟨b, off + 2, none⟩ = some (.int .u8 z2) := ((below1 wr _).cell (p := ⟨b, off + 2, none⟩) hbl).trans HC2.out
    have bsb : BS (wr.alloc (.cells #[.int .i64 N2, .int .i64 z2, .string (strOfNums D)] 38)).drew (some ⟨b, off, none⟩) nb zb := (HP.out.bs.below (below1 wr _)).drew
    refine hK.out _ _ ⟨c2b, bsb⟩ (fun hHeld3 => ?_)
    clear hK K hHeld hHeld2
    try simp only [List.getElem_toArray, List.getElem_cons_zero, List.getElem_cons_succ, Act.put, List.setIfInBounds_toArray, List.set_cons_zero, List.set_cons_succ]
    have hOw : World.ownsRow (wr.alloc (.cells #[.int .i64 N2, .int .i64 z2, .string (strOfNums D)] 38)).drew w.heap.size 38 3 (.slice va acc.length vc) acc.length (optCells acc) := World.ownsRow.drew (World.ownsRow.alloc HP.out.own _)
    have hwz := HP.out.bel.size
    have hfew := HP.out.few
    refine wpAnyH_ready (rs := [14]) (by kernel_rfl) (by simp) ?_
    refine AllReadyH.cons (o := _) rfl (fun K hK => ?_) AllReadyH.nil
    refine step_append_lies _ (by rfl) (.tmp 21) (.tmp 34) 23 (by rfl) w.heap.size 38 i0 _ 3 32 Try.underlying23 hi hzz0 hzz1 hzz2 rfl (by omega) _ acc.length _ (by rfl) hOw ⟨wr.heap.size, 0, none⟩ 1 1 [.int .i64 N2, .int .i64 z2, .string (strOfNums D)] (by rfl) rfl (World.news_of_block (w := (wr.alloc (.cells #[.int .i64 N2, .int .i64 z2, .string (strOfNums D)] 38)).drew) (heap_alloc_new wr _)) (by simp [Value.oneCell']) (by omega) (by unfold maxLen; omega) (by omega) (by simp; omega) _ rfl ?_
    intro g cap2 we h1' h2' h3' h4'
    have hck3 : we.cell? ⟨b, off + 2, none⟩ = some (.int .u8 z2) := (h2'.cell_far ⟨b, off + 2, none⟩ (by simp; omega) (fun e => by have := (World.ownsRow.lt hOw _ e.symm).1; simp at this; omega)).trans c2b
    have bs3 : BS we (some ⟨b, off, none⟩) nb zb := by
      refine ⟨bsb.len, bsb.fits, bsb.room, .inr ⟨b, off, rfl, fun k hk => ?_⟩⟩
      have hc0 : (wr.alloc (.cells #[.int .i64 N2, .int .i64 z2, .string (strOfNums D)] 38)).drew.cell? ⟨b, off + k, none⟩ = some (.int .u8 (zb.getD k 0)) := by
        rcases bsb.cells with h0 | ⟨b', off', e, hc⟩
        · omega
        · cases e; exact hc k hk
      exact (h2'.cell_far ⟨b, off + k, none⟩ (by simp; omega) (fun e => by have := (World.ownsRow.lt hOw _ e.symm).1; simp at this; omega)).trans hc0
    refine hK.out _ _ ⟨hck3, bs3⟩ (fun hHeld4 => ?_)
    clear hK K hHeld3
    try simp only [List.getElem_toArray, List.getElem_cons_zero, List.getElem_cons_succ, Act.put, List.setIfInBounds_toArray, List.set_cons_zero, List.set_cons_succ]
    refine wpAnyH_take (i := 15) (v := ?_) rfl (by kernel_rfl) (by kernel_rfl) (by kernel_rfl) (fun _ _ _ h => h) (Or.inl ⟨by rfl, ?_⟩) (by assumption) ?_
    rotate_left
    · (intro w hSw; (try dsimp only at hSw); go_simp; try with_reducible rfl)
    try simp only [List.getElem_toArray, List.getElem_cons_zero, List.getElem_cons_succ, Act.put, List.setIfInBounds_toArray, List.set_cons_zero, List.set_cons_succ]
    refine wpAnyH_done (by kernel_rfl) ?_ _
    have hlz : zb.length = nb := HZ.out
    have hPG : PG w zs (some ⟨b, off + s, none⟩) (nb - s) (cb - s) (zb.drop s) (acc ++ [⟨N2, z2, D⟩]) (.slice (some ⟨g, 0, none⟩) (acc.length + 1) cap2) we := by
      refine ⟨bs3.drop (by omega) s (by omega), by omega, by have := HP.out.most; omega, by have := HP.out.four; omega, by rw [List.length_append]; simp; omega, ?_, ?_, ?_, ?_, fun x e => by cases e; exact hblw⟩
      · rw [HP.out.same, rdO_cons (by omega) (by rw [HS.out]; omega), HS.out, HOP.out]
        cases rdO (zb.drop s) <;> simp
      · intro o ho
        rcases List.mem_append.1 ho with h | h
        · exact HP.out.fit o h
        · obtain rfl : o = ⟨N2, z2, D⟩ := by simpa using h
          exact HDf.out
      · rw [show (acc ++ [(⟨N2, z2, D⟩ : Opt)]).length = acc.length + 1 from by simp, optCells_app]
        exact h1'
      · have bA := HP.out.bel.alloc HP.out.bel.size (.cells #[.int .i64 N2, .int .i64 z2, .string (strOfNums D)] 38)
        exact bA.drew.grown h2' (by simp; omega) (fun j hj => (World.ownsRow.lt hOw j hj).1)
    have HPG : Hid _ := hPG
    clear hPG h1' h2' h3' h4' hck3 bs3 hOw hHeld4 c2b bsb hrun
    go_wp2_with fail
    go_step3
    show FromLabel _ _ _ _ _ _
    refine IH.out _ _ ⟨(some ⟨b, off + s, none⟩), (nb - s), (cb - s), (zb.drop s), acc ++ [⟨N2, z2, D⟩], _, _, _, _, _, _, _, _, _, _, _, _, _, _, _, _, _, _, _, _, _, _, _, _, _, _, _, _, _, _, _, _, _, _, _, by first | rfl | go_num, HPG⟩ ?_
    simp [lenAt]; try omega
  · intro HG
    go_wp2_with fail
    go_step3
    rename_i K hK
    exact hK _ _ (HG.out _ _ ⟨a, n, cap, zs, [], _, _, _, _, _, _, _, _, _, _, _, _, _, _, _, _, _, _, _, _, _, _, _, _, _, _, _, _, _, _, _, _, _, _, _, rfl, ⟨h, hcap, hm, h4, by simpa using hn, by cases hp : rdO zs <;> simp [hp], (fun _ h => by cases h), World.ownsRow_nil _ _ _ _, Below.refl _ _, hold⟩⟩)
end Go.Proofs.Ytgonckbdkgiddaa

namespace Go.Proofs.Ytgonckbdkgiddaa
open Go.RowKit
set_option maxRecDepth 20000
set_option linter.unusedSimpArgs false
/-- Where the frame begins. -/
def behD (zs : List Int) : Nat := (8 + zs.getD 0 0 % 64 * 4).toNat
theorem behD_bd (zs : List Int) : 8 ≤ behD zs ∧ behD zs ≤ 260 ∧ behD zs % 4 = 0 := by unfold behD; omega
def optsD (zs : List Int) : List Int := (zs.drop 8).take (behD zs - 8)
theorem os_far2 {W W' : World} {g : Nat} {a : Option Addr} {n : Nat} {os : List Opt} (h : OS W a n os) (hb : ∀ k, k ≠ g → W'.heap[k]? = W.heap[k]?) (hap : ∀ x, a = some x → x.block ≠ g) : OS W' a n os := by
  refine ⟨h.len, h.room, h.fits, ?_⟩
  rcases h.cells with h0 | ⟨b, off, rfl, hc⟩
  · exact .inl h0
  · refine .inr ⟨b, off, rfl, fun i o hi => ?_⟩
    have hne : b ≠ g := hap _ rfl
    obtain ⟨c0, c1, c2⟩ := hc i o hi
    exact ⟨(World.cell?_of_block (hb b hne)).trans c0, (World.cell?_of_block (hb b hne)).trans c1, (World.cell?_of_block (hb b hne)).trans c2⟩
theorem os_far {W : World} {a : Option Addr} {n : Nat} {os : List Opt} (h : OS W a n os) (ad : Addr) (v : Value) (hap : ∀ x, a = some x → x.block ≠ ad.block) : OS (W.setCell ad v) a n os := os_far2 h (fun _ hk => Below.heap_setCell _ _ _ _ hk) hap
theorem cells14g' {W : World} {g : Nat} {t : TypeId} {cs : Array Value} (h : W.heap[g]? = some (.cells cs t (0, 0))) (i : Nat) : W.cell? ⟨g, i, none⟩ = cs[i]? := cell_of_row _ _ i _ _ _ h
set_option maxHeartbeats 4000000 in
theorem read_opts (b off n cap : Nat) (zs : List Int) (w : World) (h : BS w (some ⟨b, off, none⟩) n zs) (hcap : n ≤ cap) (hm : cap ≤ 9223372036854775807) (h8 : 8 ≤ n) (hbe : behD zs ≤ n) (hc8 : ¬ cap = 8) (hcb : ¬ cap = behD zs) (os : List Opt) (hos : rdO (optsD zs) = some os) :
    Calls Try.prog 26 #[.slice (some ⟨b, off, none⟩) n cap] w fun e w' => ∃ a' c', e = .returned (.tuple #[.agg #[.int .u32 0, .int .u32 0, .int .i64 0, .int .i64 (num ((zs.drop 4).take 3)), .bool (bits .and .u8 (zs.getD 1 0) 128 != 0), .slice a' os.length c', .string (strOfNums (zs.drop (behD zs)))], .bool true]) ∧ OS w' a' os.length os ∧ (∀ x, a' = some x → w.heap.size ≤ x.block) ∧ Below w.heap.size w w' := by
  have hl := h.len
  have hr := h.room
  have H : Hid _ := h
  have hcell : ∀ j, j < n → w.cell? ⟨b, off + j, none⟩ = some (.int .u8 (zs.getD j 0)) ∧ b < w.heap.size := fun j hj => by
    rcases h.cells with h0 | ⟨b', off', e, hc⟩
    · omega
    · cases e; exact ⟨hc j (by omega), cell_lt (hc j (by omega))⟩
  obtain ⟨c0, hbl⟩ := hcell 0 (by omega)
  obtain ⟨c1, _⟩ := hcell 1 (by omega)
  have hz0 := h.fits 0
  have e63 := u8_and63 _ hz0
  have hbd := behD_bd zs
  have hB : (8 : Int) + zs.getD 0 0 % 64 * 4 = (behD zs : Int) := by unfold behD; omega
  rw [Nat.add_zero] at c0
  have HOS : Hid _ := hos
  obtain ⟨s, hs⟩ : ∃ s, behD zs = s := ⟨_, rfl⟩
  have HOD : Hid ((zs.drop 8).take (s - 8) = optsD zs) := by show _ = _; unfold optsD; rw [hs]
  rw [hs] at hB hbd hbe hcb ⊢
  generalize hq0 : zs.getD 0 0 = z0 at *
  generalize hq1 : zs.getD 1 0 = z1 at *
  have w1 : IntKind.i64.wrap (z0 % 64) = z0 % 64 := by simp [IntKind.wrap, IntKind.bits, IntKind.signed]; omega
  have w2 : IntKind.i64.wrap (z0 % 64 * 4) = z0 % 64 * 4 := by simp [IntKind.wrap, IntKind.bits, IntKind.signed]; omega
  have w3 : IntKind.i64.wrap (8 + z0 % 64 * 4) = (s : Int) := by rw [← hB]; simp [IntKind.wrap, IntKind.bits, IntKind.signed]; omega
  have hnI : (8 : Int) ≤ (n : Int) := by omega
  have hn0 : (0 : Int) < (n : Int) := by omega
  have hn1 : (1 : Int) < (n : Int) := by omega
  have hnc : (n : Int) ≤ (cap : Int) := by omega
  have hsn : (s : Int) ≤ (n : Int) := by omega
  have hscI : (s : Int) ≤ (cap : Int) := by omega
  have h8s : (8 : Int) ≤ (s : Int) := by omega
  have h7 : (7 : Int) ≤ (cap : Int) := by omega
  have h4 : ¬ cap = 4 := by omega
  have HRO : Hid (∀ W, BS W (some ⟨b, off, none⟩) n zs → b < W.heap.size → Calls Try.prog 61 #[.slice (some ⟨b, off + 8, none⟩) (s - 8) (cap - 8)] W fun e w' => (∃ a' c', e = .returned (.tuple #[.slice a' os.length c', .bool true]) ∧ OS w' a' os.length os ∧ ∀ x, a' = some x → W.heap.size ≤ x.block) ∧ Below W.heap.size W w') := fun W hBS hb => by
    have hq := greadOpts_any W (some ⟨b, off + 8, none⟩) (s - 8) (cap - 8) (optsD zs) (by rw [← HOD.out]; exact (hBS.drop (by omega) 8 (by omega)).take (s - 8) (by omega)) (by omega) (by omega) (by omega) (by omega) (fun x e => by cases e; exact hb)
    rw [HOS.out] at hq
    exact hq
  clear h hcell hos hs hq0
  go_enter Try.func26, Try.ntmps26
  go_wp2_with fail
  refine scope_from ?_
  go_wp2_with fail
  refine (HRO.out _ (H.out.below (below2 w _ _)) (by simp; omega)).mono ?_
  rintro e W1 ⟨⟨a', c', rfl, hOS, hfar⟩, hb⟩
  have OS1 : Hid _ := hOS
  have HFR : Hid (∀ x, a' = some x → w.heap.size + 2 ≤ x.block) := fun x e => by have := hfar x e; simp at this; omega
  clear hfar
  have B1 : Hid (Below w.heap.size w W1) := (below2 w _ _).trans (hb.mono (by simp; omega))
  have P1 : Hid (W1.heap[w.heap.size]? = some (.cells #[.int .u32 0, .int .u32 0, .int .i64 0, .int .i64 0, .bool false, .slice none 0 0, .string ⟨#[]⟩] 25 (0, 0))) := (hb.block _ (Ca.lt_of_heap (Ca.two_first w _ _))).trans (Ca.two_first w _ _)
  have Q1 : Hid (W1.heap[w.heap.size + 1]? = some (.cells #[.int .u32 0, .int .u32 0, .int .i64 0, .int .i64 0, .bool false, .slice none 0 0, .string ⟨#[]⟩] 25 (0, 0))) := (hb.block _ (Ca.lt_of_heap (Ca.two_last w _ _))).trans (Ca.two_last w _ _)
  clear hOS hb HRO e63 w1 w2 w3 hB
  have q5 := cells14g' Q1.out 5
  have q4 := cells14g' Q1.out 4
  simp only [List.getElem?_toArray, List.getElem?_cons_succ, List.getElem?_cons_zero] at q5 q4
  have f5 := frozen_of_row W1 _ 5 _ _ Q1.out
  have f4 := frozen_of_row W1 _ 4 _ _ Q1.out
  have d1 : W1.cell? ⟨b, off + 1, none⟩ = some (.int .u8 z1) := (B1.out.cell (p := ⟨b, off + 1, none⟩) hbl).trans c1
  have hnb : ¬ b = w.heap.size + 1 := by omega
  have hnb2 : ¬ w.heap.size + 1 = b := by omega
  clear c0 c1
  go_wp2_with fail
  have B2 : Hid (Below w.heap.size w ((W1.setCell ⟨w.heap.size + 1, 5, none⟩ (.slice a' os.length c')).setCell ⟨w.heap.size + 1, 4, none⟩ (.bool (bits .and .u8 z1 128 != 0)))) := (B1.out.setCell (show w.heap.size ≤ w.heap.size + 1 by omega) _).setCell (show w.heap.size ≤ w.heap.size + 1 by omega) _
  have Q2 : Hid (((W1.setCell ⟨w.heap.size + 1, 5, none⟩ (.slice a' os.length c')).setCell ⟨w.heap.size + 1, 4, none⟩ (.bool (bits .and .u8 z1 128 != 0))).heap[w.heap.size + 1]? = some (.cells #[.int .u32 0, .int .u32 0, .int .i64 0, .int .i64 0, .bool (bits .and .u8 z1 128 != 0), .slice a' os.length c', .string ⟨#[]⟩] 25 (0, 0))) := Ca.row_setCell (Ca.row_setCell Q1.out 5 (.slice a' os.length c')) 4 (.bool (bits .and .u8 z1 128 != 0))
  have P2 : Hid (((W1.setCell ⟨w.heap.size + 1, 5, none⟩ (.slice a' os.length c')).setCell ⟨w.heap.size + 1, 4, none⟩ (.bool (bits .and .u8 z1 128 != 0))).heap[w.heap.size]? = some (.cells #[.int .u32 0, .int .u32 0, .int .i64 0, .int .i64 0, .bool false, .slice none 0 0, .string ⟨#[]⟩] 25 (0, 0))) := (Below.heap_setCell _ _ _ _ (show w.heap.size ≠ w.heap.size + 1 by omega)).trans ((Below.heap_setCell _ _ _ _ (show w.heap.size ≠ w.heap.size + 1 by omega)).trans P1.out)
  have OS2 : Hid (OS ((W1.setCell ⟨w.heap.size + 1, 5, none⟩ (.slice a' os.length c')).setCell ⟨w.heap.size + 1, 4, none⟩ (.bool (bits .and .u8 z1 128 != 0))) a' os.length os) := os_far (os_far OS1.out _ _ (fun x e => by have := HFR.out x e; show x.block ≠ w.heap.size + 1; omega)) _ _ (fun x e => by have := HFR.out x e; show x.block ≠ w.heap.size + 1; omega)
  obtain ⟨W2, hW⟩ : ∃ V, (W1.setCell ⟨w.heap.size + 1, 5, none⟩ (.slice a' os.length c')).setCell ⟨w.heap.size + 1, 4, none⟩ (.bool (bits .and .u8 z1 128 != 0)) = V := ⟨_, rfl⟩
  rw [hW] at B2 Q2 P2 OS2 ⊢
  clear hW q5 q4 f5 f4 d1 P1 Q1 B1 OS1
  refine (number_any (cap - 4) ((((H.out.drop (by omega) 4 (by omega)).take 3 (by omega)).below B2.out)) (by omega)).mono ?_
  rintro e W3 ⟨rfl, rfl⟩
  have hn3 := num_bd (zs.drop 4) (Eth9.fits_drop9 H.out.fits 4) 3
  obtain ⟨v, hv⟩ : ∃ v, num ((zs.drop 4).take 3) = v := ⟨_, rfl⟩
  obtain ⟨fs, hfs⟩ : ∃ v, strOfNums (zs.drop s) = v := ⟨_, rfl⟩
  have HV : Hid (num ((zs.drop 4).take 3) = v) := hv
  have HFS : Hid (strOfNums (zs.drop s) = fs) := hfs
  have hcv := run_conv_bs (P := Try.prog) (w := W3.setCell ⟨w.heap.size + 1, 3, none⟩ (.int .i64 v)) (cap - s) ((H.out.drop (by omega) s (by omega)).below (B2.out.setCell (show w.heap.size ≤ w.heap.size + 1 by omega) _)) 26 9 5 Try.underlying26 Try.underlying5 Try.underlying9
  rw [hfs] at hcv
  rw [hv] at hn3 ⊢
  have hw : IntKind.i64.wrap v = v := by simp [IntKind.wrap, IntKind.bits, IntKind.signed]; omega
  have q3 := cells14g' Q2.out 3
  have q6 := cells14g' Q2.out 6
  simp only [List.getElem?_toArray, List.getElem?_cons_succ, List.getElem?_cons_zero] at q3 q6
  have f3 := frozen_of_row W3 _ 3 _ _ Q2.out
  have f6 := frozen_of_row W3 _ 6 _ _ Q2.out
  have B4 : Hid (Below w.heap.size w ((W3.setCell ⟨w.heap.size + 1, 3, none⟩ (.int .i64 v)).setCell ⟨w.heap.size + 1, 6, none⟩ (.string fs))) := (B2.out.setCell (show w.heap.size ≤ w.heap.size + 1 by omega) _).setCell (show w.heap.size ≤ w.heap.size + 1 by omega) _
  have Q4 : Hid (((W3.setCell ⟨w.heap.size + 1, 3, none⟩ (.int .i64 v)).setCell ⟨w.heap.size + 1, 6, none⟩ (.string fs)).heap[w.heap.size + 1]? = some (.cells #[.int .u32 0, .int .u32 0, .int .i64 0, .int .i64 v, .bool (bits .and .u8 z1 128 != 0), .slice a' os.length c', .string fs] 25 (0, 0))) := Ca.row_setCell (Ca.row_setCell Q2.out 3 (.int .i64 v)) 6 (.string fs)
  have P4 : Hid (((W3.setCell ⟨w.heap.size + 1, 3, none⟩ (.int .i64 v)).setCell ⟨w.heap.size + 1, 6, none⟩ (.string fs)).heap[w.heap.size]? = some (.cells #[.int .u32 0, .int .u32 0, .int .i64 0, .int .i64 0, .bool false, .slice none 0 0, .string ⟨#[]⟩] 25 (0, 0))) := (Below.heap_setCell _ _ _ _ (show w.heap.size ≠ w.heap.size + 1 by omega)).trans ((Below.heap_setCell _ _ _ _ (show w.heap.size ≠ w.heap.size + 1 by omega)).trans P2.out)
  have OS4 : Hid (OS ((W3.setCell ⟨w.heap.size + 1, 3, none⟩ (.int .i64 v)).setCell ⟨w.heap.size + 1, 6, none⟩ (.string fs)) a' os.length os) := os_far (os_far OS2.out _ _ (fun x e => by have := HFR.out x e; show x.block ≠ w.heap.size + 1; omega)) _ _ (fun x e => by have := HFR.out x e; show x.block ≠ w.heap.size + 1; omega)
  clear hv hfs hn3
  go_wp2_with (first
    | refine wpList_load_row rfl 25 _ rfl (w.heap.size + 1) rfl 25 #[.int .u32 0, .int .u32 0, .int .i64 0, .int .i64 v, .bool (bits .and .u8 z1 128 != 0), .slice a' os.length c', .string fs] (0, 0) _ Q4.out Try.underlying25 rfl infoTn ?_
    | refine Ca.wpList_store_row rfl 25 _ _ rfl w.heap.size #[.int .u32 0, .int .u32 0, .int .i64 0, .int .i64 0, .bool false, .slice none 0 0, .string ⟨#[]⟩] #[.int .u32 0, .int .u32 0, .int .i64 0, .int .i64 v, .bool (bits .and .u8 z1 128 != 0), .slice a' os.length c', .string fs] 25 rfl rfl P4.out (by kernel_rfl) rfl (by kernel_rfl) ?_
    | fail)
  intro W5 y1 y2 y3 y4
  have OS5 : Hid (OS W5 a' os.length os) := os_far2 OS4.out y2 (fun x e => by have := HFR.out x e; omega)
  go_wp2
  simp only [Exit.jumpTo]
  exact bodyPost_ret (results_tb (p := 2) (u := 3) rfl _ _ w.heap.size _ rfl y1 rfl) rfl ⟨a', c', by rw [HV.out, HFS.out]; rfl, OS5.out, (fun x e => by have := HFR.out x e; omega), B4.out.trans (y4.mono (Nat.le_refl _))⟩
end Go.Proofs.Ytgonckbdkgiddaa

namespace Go.Proofs.Ytgonckbdkgiddaa
open Go.RowKit
set_option maxRecDepth 20000
set_option linter.unusedSimpArgs false
set_option maxHeartbeats 4000000 in
theorem read_opts2 (b off n cap : Nat) (zs : List Int) (w : World) (h : BS w (some ⟨b, off, none⟩) n zs) (hcap : n ≤ cap) (hm : cap ≤ 9223372036854775807) (h8 : 8 ≤ n) (hbe : behD zs ≤ n) (hc8 : ¬ cap = 8) (hcb : cap = behD zs) (os : List Opt) (hos : rdO (optsD zs) = some os) :
    Calls Try.prog 26 #[.slice (some ⟨b, off, none⟩) n cap] w fun e w' => ∃ a' c', e = .returned (.tuple #[.agg #[.int .u32 0, .int .u32 0, .int .i64 0, .int .i64 (num ((zs.drop 4).take 3)), .bool (bits .and .u8 (zs.getD 1 0) 128 != 0), .slice a' os.length c', .string (strOfNums (zs.drop (behD zs)))], .bool true]) ∧ OS w' a' os.length os ∧ (∀ x, a' = some x → w.heap.size ≤ x.block) ∧ Below w.heap.size w w' := by
  have hl := h.len
  have hr := h.room
  have H : Hid _ := h
  have hcell : ∀ j, j < n → w.cell? ⟨b, off + j, none⟩ = some (.int .u8 (zs.getD j 0)) ∧ b < w.heap.size := fun j hj => by
    rcases h.cells with h0 | ⟨b', off', e, hc⟩
    · omega
    · cases e; exact ⟨hc j (by omega), cell_lt (hc j (by omega))⟩
  obtain ⟨c0, hbl⟩ := hcell 0 (by omega)
  obtain ⟨c1, _⟩ := hcell 1 (by omega)
  have hz0 := h.fits 0
  have e63 := u8_and63 _ hz0
  have hbd := behD_bd zs
  have hB : (8 : Int) + zs.getD 0 0 % 64 * 4 = (behD zs : Int) := by unfold behD; omega
  rw [Nat.add_zero] at c0
  have HOS : Hid _ := hos
  obtain ⟨s, hs⟩ : ∃ s, behD zs = s := ⟨_, rfl⟩
  have HOD : Hid ((zs.drop 8).take (s - 8) = optsD zs) := by show _ = _; unfold optsD; rw [hs]
  rw [hs] at hB hbd hbe hcb ⊢
  obtain rfl : s = n := by omega
  obtain rfl : s = cap := hcb.symm
  have HDN : Hid (zs.drop s = []) := List.drop_of_length_le (by omega)
  generalize hq0 : zs.getD 0 0 = z0 at *
  generalize hq1 : zs.getD 1 0 = z1 at *
  have w1 : IntKind.i64.wrap (z0 % 64) = z0 % 64 := by simp [IntKind.wrap, IntKind.bits, IntKind.signed]; omega
  have w2 : IntKind.i64.wrap (z0 % 64 * 4) = z0 % 64 * 4 := by simp [IntKind.wrap, IntKind.bits, IntKind.signed]; omega
  have w3 : IntKind.i64.wrap (8 + z0 % 64 * 4) = (s : Int) := by rw [← hB]; simp [IntKind.wrap, IntKind.bits, IntKind.signed]; omega
  have hnI : (8 : Int) ≤ (s : Int) := by omega
  have hn0 : (0 : Int) < (s : Int) := by omega
  have hn1 : (1 : Int) < (s : Int) := by omega
  have hnc : (s : Int) ≤ (s : Int) := by omega
  have hsn : (s : Int) ≤ (s : Int) := by omega
  have hscI : (s : Int) ≤ (s : Int) := by omega
  have h8s : (8 : Int) ≤ (s : Int) := by omega
  have h7 : (7 : Int) ≤ (s : Int) := by omega
  have h4 : ¬ s = 4 := by omega
  have HRO : Hid (∀ W, BS W (some ⟨b, off, none⟩) s zs → b < W.heap.size → Calls Try.prog 61 #[.slice (some ⟨b, off + 8, none⟩) (s - 8) (s - 8)] W fun e w' => (∃ a' c', e = .returned (.tuple #[.slice a' os.length c', .bool true]) ∧ OS w' a' os.length os ∧ ∀ x, a' = some x → W.heap.size ≤ x.block) ∧ Below W.heap.size W w') := fun W hBS hb => by
    have hq := greadOpts_any W (some ⟨b, off + 8, none⟩) (s - 8) (s - 8) (optsD zs) (by rw [← HOD.out]; exact (hBS.drop (by omega) 8 (by omega)).take (s - 8) (by omega)) (by omega) (by omega) (by omega) (by omega) (fun x e => by cases e; exact hb)
    rw [HOS.out] at hq
    exact hq
  clear h hcell hos hs hq0
  go_enter Try.func26, Try.ntmps26
  go_wp2_with fail
  refine scope_from ?_
  go_wp2_with fail
  refine (HRO.out _ (H.out.below (below2 w _ _)) (by simp; omega)).mono ?_
  rintro e W1 ⟨⟨a', c', rfl, hOS, hfar⟩, hb⟩
  have OS1 : Hid _ := hOS
  have HFR : Hid (∀ x, a' = some x → w.heap.size + 2 ≤ x.block) := fun x e => by have := hfar x e; simp at this; omega
  clear hfar
  have B1 : Hid (Below w.heap.size w W1) := (below2 w _ _).trans (hb.mono (by simp; omega))
  have P1 : Hid (W1.heap[w.heap.size]? = some (.cells #[.int .u32 0, .int .u32 0, .int .i64 0, .int .i64 0, .bool false, .slice none 0 0, .string ⟨#[]⟩] 25 (0, 0))) := (hb.block _ (Ca.lt_of_heap (Ca.two_first w _ _))).trans (Ca.two_first w _ _)
  have Q1 : Hid (W1.heap[w.heap.size + 1]? = some (.cells #[.int .u32 0, .int .u32 0, .int .i64 0, .int .i64 0, .bool false, .slice none 0 0, .string ⟨#[]⟩] 25 (0, 0))) := (hb.block _ (Ca.lt_of_heap (Ca.two_last w _ _))).trans (Ca.two_last w _ _)
  clear hOS hb HRO e63 w1 w2 w3 hB
  have q5 := cells14g' Q1.out 5
  have q4 := cells14g' Q1.out 4
  simp only [List.getElem?_toArray, List.getElem?_cons_succ, List.getElem?_cons_zero] at q5 q4
  have f5 := frozen_of_row W1 _ 5 _ _ Q1.out
  have f4 := frozen_of_row W1 _ 4 _ _ Q1.out
  have d1 : W1.cell? ⟨b, off + 1, none⟩ = some (.int .u8 z1) := (B1.out.cell (p := ⟨b, off + 1, none⟩) hbl).trans c1
  have hnb : ¬ b = w.heap.size + 1 := by omega
  have hnb2 : ¬ w.heap.size + 1 = b := by omega
  clear c0 c1
  go_wp2_with fail
  have B2 : Hid (Below w.heap.size w ((W1.setCell ⟨w.heap.size + 1, 5, none⟩ (.slice a' os.length c')).setCell ⟨w.heap.size + 1, 4, none⟩ (.bool (bits .and .u8 z1 128 != 0)))) := (B1.out.setCell (show w.heap.size ≤ w.heap.size + 1 by omega) _).setCell (show w.heap.size ≤ w.heap.size + 1 by omega) _
  have Q2 : Hid (((W1.setCell ⟨w.heap.size + 1, 5, none⟩ (.slice a' os.length c')).setCell ⟨w.heap.size + 1, 4, none⟩ (.bool (bits .and .u8 z1 128 != 0))).heap[w.heap.size + 1]? = some (.cells #[.int .u32 0, .int .u32 0, .int .i64 0, .int .i64 0, .bool (bits .and .u8 z1 128 != 0), .slice a' os.length c', .string ⟨#[]⟩] 25 (0, 0))) := Ca.row_setCell (Ca.row_setCell Q1.out 5 (.slice a' os.length c')) 4 (.bool (bits .and .u8 z1 128 != 0))
  have P2 : Hid (((W1.setCell ⟨w.heap.size + 1, 5, none⟩ (.slice a' os.length c')).setCell ⟨w.heap.size + 1, 4, none⟩ (.bool (bits .and .u8 z1 128 != 0))).heap[w.heap.size]? = some (.cells #[.int .u32 0, .int .u32 0, .int .i64 0, .int .i64 0, .bool false, .slice none 0 0, .string ⟨#[]⟩] 25 (0, 0))) := (Below.heap_setCell _ _ _ _ (show w.heap.size ≠ w.heap.size + 1 by omega)).trans ((Below.heap_setCell _ _ _ _ (show w.heap.size ≠ w.heap.size + 1 by omega)).trans P1.out)
  have OS2 : Hid (OS ((W1.setCell ⟨w.heap.size + 1, 5, none⟩ (.slice a' os.length c')).setCell ⟨w.heap.size + 1, 4, none⟩ (.bool (bits .and .u8 z1 128 != 0))) a' os.length os) := os_far (os_far OS1.out _ _ (fun x e => by have := HFR.out x e; show x.block ≠ w.heap.size + 1; omega)) _ _ (fun x e => by have := HFR.out x e; show x.block ≠ w.heap.size + 1; omega)
  obtain ⟨W2, hW⟩ : ∃ V, (W1.setCell ⟨w.heap.size + 1, 5, none⟩ (.slice a' os.length c')).setCell ⟨w.heap.size + 1, 4, none⟩ (.bool (bits .and .u8 z1 128 != 0)) = V := ⟨_, rfl⟩
  rw [hW] at B2 Q2 P2 OS2 ⊢
  clear hW q5 q4 f5 f4 d1 P1 Q1 B1 OS1
  refine (number_any (s - 4) ((((H.out.drop (by omega) 4 (by omega)).take 3 (by omega)).below B2.out)) (by omega)).mono ?_
  rintro e W3 ⟨rfl, rfl⟩
  have hn3 := num_bd (zs.drop 4) (Eth9.fits_drop9 H.out.fits 4) 3
  obtain ⟨v, hv⟩ : ∃ v, num ((zs.drop 4).take 3) = v := ⟨_, rfl⟩
  obtain ⟨fs, hfs⟩ : ∃ v, strOfNums (zs.drop s) = v := ⟨_, rfl⟩
  have HV : Hid (num ((zs.drop 4).take 3) = v) := hv
  have HFS : Hid (strOfNums (zs.drop s) = fs) := hfs
  have hcv := run_conv_bs (P := Try.prog) (w := W3.setCell ⟨w.heap.size + 1, 3, none⟩ (.int .i64 v)) 0 (BS.empty (some ⟨b, off, none⟩)) 26 9 5 Try.underlying26 Try.underlying5 Try.underlying9
  rw [show strOfNums [] = fs by rw [← hfs, HDN.out]] at hcv
  rw [hv] at hn3 ⊢
  have hw : IntKind.i64.wrap v = v := by simp [IntKind.wrap, IntKind.bits, IntKind.signed]; omega
  have q3 := cells14g' Q2.out 3
  have q6 := cells14g' Q2.out 6
  simp only [List.getElem?_toArray, List.getElem?_cons_succ, List.getElem?_cons_zero] at q3 q6
  have f3 := frozen_of_row W3 _ 3 _ _ Q2.out
  have f6 := frozen_of_row W3 _ 6 _ _ Q2.out
  have B4 : Hid (Below w.heap.size w ((W3.setCell ⟨w.heap.size + 1, 3, none⟩ (.int .i64 v)).setCell ⟨w.heap.size + 1, 6, none⟩ (.string fs))) := (B2.out.setCell (show w.heap.size ≤ w.heap.size + 1 by omega) _).setCell (show w.heap.size ≤ w.heap.size + 1 by omega) _
  have Q4 : Hid (((W3.setCell ⟨w.heap.size + 1, 3, none⟩ (.int .i64 v)).setCell ⟨w.heap.size + 1, 6, none⟩ (.string fs)).heap[w.heap.size + 1]? = some (.cells #[.int .u32 0, .int .u32 0, .int .i64 0, .int .i64 v, .bool (bits .and .u8 z1 128 != 0), .slice a' os.length c', .string fs] 25 (0, 0))) := Ca.row_setCell (Ca.row_setCell Q2.out 3 (.int .i64 v)) 6 (.string fs)
  have P4 : Hid (((W3.setCell ⟨w.heap.size + 1, 3, none⟩ (.int .i64 v)).setCell ⟨w.heap.size + 1, 6, none⟩ (.string fs)).heap[w.heap.size]? = some (.cells #[.int .u32 0, .int .u32 0, .int .i64 0, .int .i64 0, .bool false, .slice none 0 0, .string ⟨#[]⟩] 25 (0, 0))) := (Below.heap_setCell _ _ _ _ (show w.heap.size ≠ w.heap.size + 1 by omega)).trans ((Below.heap_setCell _ _ _ _ (show w.heap.size ≠ w.heap.size + 1 by omega)).trans P2.out)
  have OS4 : Hid (OS ((W3.setCell ⟨w.heap.size + 1, 3, none⟩ (.int .i64 v)).setCell ⟨w.heap.size + 1, 6, none⟩ (.string fs)) a' os.length os) := os_far (os_far OS2.out _ _ (fun x e => by have := HFR.out x e; show x.block ≠ w.heap.size + 1; omega)) _ _ (fun x e => by have := HFR.out x e; show x.block ≠ w.heap.size + 1; omega)
  clear hv hfs hn3
  go_wp2_with (first
    | refine wpList_load_row rfl 25 _ rfl (w.heap.size + 1) rfl 25 #[.int .u32 0, .int .u32 0, .int .i64 0, .int .i64 v, .bool (bits .and .u8 z1 128 != 0), .slice a' os.length c', .string fs] (0, 0) _ Q4.out Try.underlying25 rfl infoTn ?_
    | refine Ca.wpList_store_row rfl 25 _ _ rfl w.heap.size #[.int .u32 0, .int .u32 0, .int .i64 0, .int .i64 0, .bool false, .slice none 0 0, .string ⟨#[]⟩] #[.int .u32 0, .int .u32 0, .int .i64 0, .int .i64 v, .bool (bits .and .u8 z1 128 != 0), .slice a' os.length c', .string fs] 25 rfl rfl P4.out (by kernel_rfl) rfl (by kernel_rfl) ?_
    | fail)
  intro W5 y1 y2 y3 y4
  have OS5 : Hid (OS W5 a' os.length os) := os_far2 OS4.out y2 (fun x e => by have := HFR.out x e; omega)
  go_wp2
  simp only [Exit.jumpTo]
  exact bodyPost_ret (results_tb (p := 2) (u := 3) rfl _ _ w.heap.size _ rfl y1 rfl) rfl ⟨a', c', by rw [HV.out, HFS.out]; rfl, OS5.out, (fun x e => by have := HFR.out x e; omega), B4.out.trans (y4.mono (Nat.le_refl _))⟩
set_option maxHeartbeats 4000000 in
theorem read_opts1 (b off n cap : Nat) (zs : List Int) (w : World) (h : BS w (some ⟨b, off, none⟩) n zs) (hcap : n ≤ cap) (hm : cap ≤ 9223372036854775807) (h8 : 8 ≤ n) (hbe : behD zs ≤ n) (hc8 : cap = 8) (os : List Opt) (hos : rdO (optsD zs) = some os) :
    Calls Try.prog 26 #[.slice (some ⟨b, off, none⟩) n cap] w fun e w' => ∃ a' c', e = .returned (.tuple #[.agg #[.int .u32 0, .int .u32 0, .int .i64 0, .int .i64 (num ((zs.drop 4).take 3)), .bool (bits .and .u8 (zs.getD 1 0) 128 != 0), .slice a' os.length c', .string (strOfNums (zs.drop (behD zs)))], .bool true]) ∧ OS w' a' os.length os ∧ (∀ x, a' = some x → w.heap.size ≤ x.block) ∧ Below w.heap.size w w' := by
  have hl := h.len
  have hr := h.room
  have H : Hid _ := h
  have hcell : ∀ j, j < n → w.cell? ⟨b, off + j, none⟩ = some (.int .u8 (zs.getD j 0)) ∧ b < w.heap.size := fun j hj => by
    rcases h.cells with h0 | ⟨b', off', e, hc⟩
    · omega
    · cases e; exact ⟨hc j (by omega), cell_lt (hc j (by omega))⟩
  obtain ⟨c0, hbl⟩ := hcell 0 (by omega)
  obtain ⟨c1, _⟩ := hcell 1 (by omega)
  have hz0 := h.fits 0
  have e63 := u8_and63 _ hz0
  have hbd := behD_bd zs
  have hB : (8 : Int) + zs.getD 0 0 % 64 * 4 = (behD zs : Int) := by unfold behD; omega
  rw [Nat.add_zero] at c0
  have HOS : Hid _ := hos
  obtain ⟨s, hs⟩ : ∃ s, behD zs = s := ⟨_, rfl⟩
  have HOD : Hid ((zs.drop 8).take (s - 8) = optsD zs) := by show _ = _; unfold optsD; rw [hs]
  rw [hs] at hB hbd hbe ⊢
  subst hc8
  obtain rfl : n = 8 := by omega
  obtain rfl : s = 8 := by omega
  have HDN : Hid (zs.drop 8 = []) := List.drop_of_length_le (by omega)
  have HOE : Hid (optsD zs = []) := by show _ = _; rw [← HOD.out]; rfl
  generalize hq0 : zs.getD 0 0 = z0 at *
  generalize hq1 : zs.getD 1 0 = z1 at *
  have hz00 : z0 % 64 = 0 := by omega
  rw [hz00] at e63
  clear hB hz00
  have HRO : Hid (∀ W, BS W (some ⟨b, off, none⟩) 8 zs → b < W.heap.size → Calls Try.prog 61 #[.slice (some ⟨b, off, none⟩) 0 0] W fun e w' => (∃ a' c', e = .returned (.tuple #[.slice a' os.length c', .bool true]) ∧ OS w' a' os.length os ∧ ∀ x, a' = some x → W.heap.size ≤ x.block) ∧ Below W.heap.size W w') := fun W hBS hb => by
    have hq := greadOpts_any W (some ⟨b, off, none⟩) 0 0 (optsD zs) (by rw [HOE.out]; exact BS.empty _) (by omega) (by omega) (by omega) (by omega) (fun x e => by cases e; exact hb)
    rw [HOS.out] at hq
    exact hq
  clear h hcell hos hs hq0
  go_enter Try.func26, Try.ntmps26
  go_wp2_with fail
  refine scope_from ?_
  go_wp2_with fail
  refine (HRO.out _ (H.out.below (below2 w _ _)) (by simp; omega)).mono ?_
  rintro e W1 ⟨⟨a', c', rfl, hOS, hfar⟩, hb⟩
  have OS1 : Hid _ := hOS
  have HFR : Hid (∀ x, a' = some x → w.heap.size + 2 ≤ x.block) := fun x e => by have := hfar x e; simp at this; omega
  clear hfar
  have B1 : Hid (Below w.heap.size w W1) := (below2 w _ _).trans (hb.mono (by simp; omega))
  have P1 : Hid (W1.heap[w.heap.size]? = some (.cells #[.int .u32 0, .int .u32 0, .int .i64 0, .int .i64 0, .bool false, .slice none 0 0, .string ⟨#[]⟩] 25 (0, 0))) := (hb.block _ (Ca.lt_of_heap (Ca.two_first w _ _))).trans (Ca.two_first w _ _)
  have Q1 : Hid (W1.heap[w.heap.size + 1]? = some (.cells #[.int .u32 0, .int .u32 0, .int .i64 0, .int .i64 0, .bool false, .slice none 0 0, .string ⟨#[]⟩] 25 (0, 0))) := (hb.block _ (Ca.lt_of_heap (Ca.two_last w _ _))).trans (Ca.two_last w _ _)
  clear hOS hb HRO e63
  have q5 := cells14g' Q1.out 5
  have q4 := cells14g' Q1.out 4
  simp only [List.getElem?_toArray, List.getElem?_cons_succ, List.getElem?_cons_zero] at q5 q4
  have f5 := frozen_of_row W1 _ 5 _ _ Q1.out
  have f4 := frozen_of_row W1 _ 4 _ _ Q1.out
  have d1 : W1.cell? ⟨b, off + 1, none⟩ = some (.int .u8 z1) := (B1.out.cell (p := ⟨b, off + 1, none⟩) hbl).trans c1
  have hnb : ¬ b = w.heap.size + 1 := by omega
  have hnb2 : ¬ w.heap.size + 1 = b := by omega
  clear c0 c1
  go_wp2_with fail
  have B2 : Hid (Below w.heap.size w ((W1.setCell ⟨w.heap.size + 1, 5, none⟩ (.slice a' os.length c')).setCell ⟨w.heap.size + 1, 4, none⟩ (.bool (bits .and .u8 z1 128 != 0)))) := (B1.out.setCell (show w.heap.size ≤ w.heap.size + 1 by omega) _).setCell (show w.heap.size ≤ w.heap.size + 1 by omega) _
  have Q2 : Hid (((W1.setCell ⟨w.heap.size + 1, 5, none⟩ (.slice a' os.length c')).setCell ⟨w.heap.size + 1, 4, none⟩ (.bool (bits .and .u8 z1 128 != 0))).heap[w.heap.size + 1]? = some (.cells #[.int .u32 0, .int .u32 0, .int .i64 0, .int .i64 0, .bool (bits .and .u8 z1 128 != 0), .slice a' os.length c', .string ⟨#[]⟩] 25 (0, 0))) := Ca.row_setCell (Ca.row_setCell Q1.out 5 (.slice a' os.length c')) 4 (.bool (bits .and .u8 z1 128 != 0))
  have P2 : Hid (((W1.setCell ⟨w.heap.size + 1, 5, none⟩ (.slice a' os.length c')).setCell ⟨w.heap.size + 1, 4, none⟩ (.bool (bits .and .u8 z1 128 != 0))).heap[w.heap.size]? = some (.cells #[.int .u32 0, .int .u32 0, .int .i64 0, .int .i64 0, .bool false, .slice none 0 0, .string ⟨#[]⟩] 25 (0, 0))) := (Below.heap_setCell _ _ _ _ (show w.heap.size ≠ w.heap.size + 1 by omega)).trans ((Below.heap_setCell _ _ _ _ (show w.heap.size ≠ w.heap.size + 1 by omega)).trans P1.out)
  have OS2 : Hid (OS ((W1.setCell ⟨w.heap.size + 1, 5, none⟩ (.slice a' os.length c')).setCell ⟨w.heap.size + 1, 4, none⟩ (.bool (bits .and .u8 z1 128 != 0))) a' os.length os) := os_far (os_far OS1.out _ _ (fun x e => by have := HFR.out x e; show x.block ≠ w.heap.size + 1; omega)) _ _ (fun x e => by have := HFR.out x e; show x.block ≠ w.heap.size + 1; omega)
  obtain ⟨W2, hW⟩ : ∃ V, (W1.setCell ⟨w.heap.size + 1, 5, none⟩ (.slice a' os.length c')).setCell ⟨w.heap.size + 1, 4, none⟩ (.bool (bits .and .u8 z1 128 != 0)) = V := ⟨_, rfl⟩
  rw [hW] at B2 Q2 P2 OS2 ⊢
  clear hW q5 q4 f5 f4 d1 P1 Q1 B1 OS1
  have hnb3 : BS W2 (some ⟨b, off + 4, none⟩) 3 ((zs.drop 4).take 3) := ((H.out.drop (by omega) 4 (by omega)).take 3 (by omega)).below B2.out
  refine (number_any 4 hnb3 (by omega)).mono ?_
  rintro e W3 ⟨rfl, rfl⟩
  have hn3 := num_bd (zs.drop 4) (Eth9.fits_drop9 H.out.fits 4) 3
  obtain ⟨v, hv⟩ : ∃ v, num ((zs.drop 4).take 3) = v := ⟨_, rfl⟩
  obtain ⟨fs, hfs⟩ : ∃ v, strOfNums (zs.drop 8) = v := ⟨_, rfl⟩
  have HV : Hid (num ((zs.drop 4).take 3) = v) := hv
  have HFS : Hid (strOfNums (zs.drop 8) = fs) := hfs
  have hcv := run_conv_bs (P := Try.prog) (w := W3.setCell ⟨w.heap.size + 1, 3, none⟩ (.int .i64 v)) 0 (BS.empty (some ⟨b, off, none⟩)) 26 9 5 Try.underlying26 Try.underlying5 Try.underlying9
  rw [show strOfNums [] = fs by rw [← hfs, HDN.out]] at hcv
  rw [hv] at hn3 ⊢
  have hw : IntKind.i64.wrap v = v := by simp [IntKind.wrap, IntKind.bits, IntKind.signed]; omega
  have q3 := cells14g' Q2.out 3
  have q6 := cells14g' Q2.out 6
  simp only [List.getElem?_toArray, List.getElem?_cons_succ, List.getElem?_cons_zero] at q3 q6
  have f3 := frozen_of_row W3 _ 3 _ _ Q2.out
  have f6 := frozen_of_row W3 _ 6 _ _ Q2.out
  have B4 : Hid (Below w.heap.size w ((W3.setCell ⟨w.heap.size + 1, 3, none⟩ (.int .i64 v)).setCell ⟨w.heap.size + 1, 6, none⟩ (.string fs))) := (B2.out.setCell (show w.heap.size ≤ w.heap.size + 1 by omega) _).setCell (show w.heap.size ≤ w.heap.size + 1 by omega) _
  have Q4 : Hid (((W3.setCell ⟨w.heap.size + 1, 3, none⟩ (.int .i64 v)).setCell ⟨w.heap.size + 1, 6, none⟩ (.string fs)).heap[w.heap.size + 1]? = some (.cells #[.int .u32 0, .int .u32 0, .int .i64 0, .int .i64 v, .bool (bits .and .u8 z1 128 != 0), .slice a' os.length c', .string fs] 25 (0, 0))) := Ca.row_setCell (Ca.row_setCell Q2.out 3 (.int .i64 v)) 6 (.string fs)
  have P4 : Hid (((W3.setCell ⟨w.heap.size + 1, 3, none⟩ (.int .i64 v)).setCell ⟨w.heap.size + 1, 6, none⟩ (.string fs)).heap[w.heap.size]? = some (.cells #[.int .u32 0, .int .u32 0, .int .i64 0, .int .i64 0, .bool false, .slice none 0 0, .string ⟨#[]⟩] 25 (0, 0))) := (Below.heap_setCell _ _ _ _ (show w.heap.size ≠ w.heap.size + 1 by omega)).trans ((Below.heap_setCell _ _ _ _ (show w.heap.size ≠ w.heap.size + 1 by omega)).trans P2.out)
  have OS4 : Hid (OS ((W3.setCell ⟨w.heap.size + 1, 3, none⟩ (.int .i64 v)).setCell ⟨w.heap.size + 1, 6, none⟩ (.string fs)) a' os.length os) := os_far (os_far OS2.out _ _ (fun x e => by have := HFR.out x e; show x.block ≠ w.heap.size + 1; omega)) _ _ (fun x e => by have := HFR.out x e; show x.block ≠ w.heap.size + 1; omega)
  clear hv hfs hn3
  go_wp2_with (first
    | refine wpList_load_row rfl 25 _ rfl (w.heap.size + 1) rfl 25 #[.int .u32 0, .int .u32 0, .int .i64 0, .int .i64 v, .bool (bits .and .u8 z1 128 != 0), .slice a' os.length c', .string fs] (0, 0) _ Q4.out Try.underlying25 rfl infoTn ?_
    | refine Ca.wpList_store_row rfl 25 _ _ rfl w.heap.size #[.int .u32 0, .int .u32 0, .int .i64 0, .int .i64 0, .bool false, .slice none 0 0, .string ⟨#[]⟩] #[.int .u32 0, .int .u32 0, .int .i64 0, .int .i64 v, .bool (bits .and .u8 z1 128 != 0), .slice a' os.length c', .string fs] 25 rfl rfl P4.out (by kernel_rfl) rfl (by kernel_rfl) ?_
    | fail)
  intro W5 y1 y2 y3 y4
  have OS5 : Hid (OS W5 a' os.length os) := os_far2 OS4.out y2 (fun x e => by have := HFR.out x e; omega)
  go_wp2
  simp only [Exit.jumpTo]
  exact bodyPost_ret (results_tb (p := 2) (u := 3) rfl _ _ w.heap.size _ rfl y1 rfl) rfl ⟨a', c', by rw [HV.out, HFS.out]; rfl, OS5.out, (fun x e => by have := HFR.out x e; omega), B4.out.trans (y4.mono (Nat.le_refl _))⟩
/-- read of any data whose options can be read. -/
theorem read_all (b off n cap : Nat) (zs : List Int) (w : World) (h : BS w (some ⟨b, off, none⟩) n zs) (hcap : n ≤ cap) (hm : cap ≤ 9223372036854775807) (h8 : 8 ≤ n) (hbe : behD zs ≤ n) (os : List Opt) (hos : rdO (optsD zs) = some os) :
    Calls Try.prog 26 #[.slice (some ⟨b, off, none⟩) n cap] w fun e w' => ∃ a' c', e = .returned (.tuple #[.agg #[.int .u32 0, .int .u32 0, .int .i64 0, .int .i64 (num ((zs.drop 4).take 3)), .bool (bits .and .u8 (zs.getD 1 0) 128 != 0), .slice a' os.length c', .string (strOfNums (zs.drop (behD zs)))], .bool true]) ∧ OS w' a' os.length os ∧ (∀ x, a' = some x → w.heap.size ≤ x.block) ∧ Below w.heap.size w w' := by
  have hl := h.len
  have hbd := behD_bd zs
  by_cases h1 : cap = 8
  · exact read_opts1 b off n cap zs w h hcap hm h8 hbe h1 os hos
  by_cases h2 : cap = behD zs
  · exact read_opts2 b off n cap zs w h hcap hm h8 hbe h1 h2 os hos
  · exact read_opts b off n cap zs w h hcap hm h8 hbe h1 h2 os hos
end Go.Proofs.Ytgonckbdkgiddaa
