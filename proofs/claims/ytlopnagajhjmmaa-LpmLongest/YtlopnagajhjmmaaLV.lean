/- The document's table: Get, Find; the program's Get. Conditions: as said. -/
import Derived.Test.YtlopnagajhjmmaaLU
namespace Go.Proofs.Ytlopnagajhjmmaa
open Go.RowKit Tr
def GetV (L : List Ro) (p : BitVec 32) (n v : Int) (ok : Bool) : Prop := (ok = true ∧ ∃ x ∈ L, IsK p n x ∧ v = x.2.2) ∨ (ok = false ∧ v = 0 ∧ ∀ x ∈ L, ¬ IsK p n x)
theorem getV_one {L : List Ro} (hs : L.Pairwise ltR) {p : BitVec 32} {n v u : Int} {a b : Bool} (h : GetV L p n v a) (h' : GetV L p n u b) : v = u ∧ a = b := by
  rcases h with ⟨rfl, x, hx, kx, rfl⟩ | ⟨rfl, rfl, hn⟩ <;> rcases h' with ⟨rfl, y, hy, ky, rfl⟩ | ⟨rfl, rfl, hm⟩
  · have := key_one hs hx hy (kx.1.trans ky.1.symm) (by have := kx.2; have := ky.2; omega)
    subst this
    exact ⟨rfl, rfl⟩
  · exact absurd kx (hm x hx)
  · exact absurd ky (hn y hy)
  · exact ⟨rfl, rfl⟩
set_option maxHeartbeats 2000000 in
theorem rget_any {w : World} {B xb : Nat} {L : List Ro} {qa : Option Addr} {qc : Nat} (h : RTab w B xb L qa qc) (p : BitVec 32) (n : Int) :
    Calls Try.prog 17 #[ptr xb, .int .u32 p.toNat, .int .i64 n] w fun e w' => ∃ v ok, e = .returned (.tuple #[.int .i64 v, .bool ok]) ∧ GetV L p n v ok ∧ w' = w := by
  have cx : w.cell? ⟨xb, 0, none⟩ = some (.slice qa L.length qc) := cell_row h.blk 0
  have HL : Hid _ := h
  have HF : Hid _ := rfind_any h p n
  have hlen := h.len
  clear h
  go_enter Try.func17, Try.ntmps17
  go_wp2_with fail
  refine Calls.mono HF.out ?_
  rintro e w9 ⟨r, rfl, hr, hw9⟩
  rw [hw9]; clear hw9 w9
  rcases hr with ⟨i, x, rfl, hx, hk⟩ | ⟨rfl, hn⟩
  · obtain ⟨g, rfl, c0, c1, c2⟩ := HL.out.at hx
    have hlt : i < L.length := (List.getElem?_eq_some_iff.1 hx).1
    have hI : (i : Int) < (L.length : Int) := by omega
    have HK : Hid (GetV L p n x.2.2 true) := .inl ⟨rfl, x, List.mem_of_getElem? hx, hk, rfl⟩
    clear hx hk
    go_wp2
    go_ret2
    exact ⟨x.2.2, true, rfl, HK.out, rfl⟩
  · have HK : Hid (GetV L p n 0 false) := .inr ⟨rfl, rfl, hn⟩
    clear hn
    go_wp2
    go_ret2
    exact ⟨0, false, rfl, HK.out, rfl⟩
set_option maxRecDepth 20000 in
set_option maxHeartbeats 2000000 in
theorem get_any {w : World} {tb : Nat} {t : Tr} (hT : Tab w tb t) (p : BitVec 32) (n : Int) :
    Calls Try.prog 16 #[ptr tb, .int .u32 p.toNat, .int .i64 n] w fun e w' => ∃ v ok, e = .returned (.tuple #[.int .i64 v, .bool ok]) ∧ GetV t.ents p n v ok ∧ Below w.heap.size w w' := by
  have hT' := hT
  obtain ⟨rb, rv, rth, rl, rr, rfl, ht⟩ := hT'.root
  obtain ⟨t, hTr⟩ : ∃ t, t = node rb 0#32 0 rv rth rl rr := ⟨_, rfl⟩
  have HC : Hid _ := check_yes ht p n
  rcases chk_two p n with ⟨h, h'⟩ | ⟨h, m, rfl, hm, hr⟩
  · rw [h] at HC
    have HK : Hid (GetV t.ents p n 0 false) := by
      refine .inr ⟨rfl, rfl, fun x hx hk => h' ?_⟩
      have hle := ents_le hT.wf x (hTr ▸ hx)
      unfold chk
      refine if_pos ⟨by have := hk.2; omega, by have := hk.2; omega, ?_⟩
      rw [← hk.2, ← hk.1]
      exact hle.2
    rw [← hTr]
    clear hT hT' ht h h' hTr
    go_enter Try.func16, Try.ntmps16
    go_wp2_with (first
      | (go_at_call 23; refine Calls.mono HC.out ?_; rintro e w9 ⟨rfl, hw9⟩; rw [hw9]; clear hw9; skip)
      | fail)
    go_ret2
    exact ⟨0, false, rfl, HK.out, Below.refl _ _⟩
  · rw [h] at HC
    have HP : Hid _ := path_any ht hT'.own hT'.wf p m hm
    rw [← hTr] at HP hT ⊢
    have HT : Hid _ := hT
    clear hT' h ht hT hTr
    go_enter Try.func16, Try.ntmps16
    go_wp2_with (first
      | (go_at_call 23; refine Calls.mono HC.out ?_; rintro e w9 ⟨rfl, hw9⟩; rw [hw9]; clear hw9; skip)
      | fail)
    refine Calls.mono HP.out ?_
    rintro e W ⟨C, b, ps, ns, vs, th, l, r, q, rfl, wt, st, oq, bel⟩
    obtain ⟨g, cap, cur, rfl, g1, g2, g3, g4⟩ := oq_last oq
    obtain ⟨wk1, wk2, wk3⟩ := way_key HT.out.wf wt st hr hm
    have wfp : (plug C (node b ps ns vs th l r)).Wf := wt.t.symm ▸ HT.out.wf
    have hC : C.length ≤ 32 := by have := way_rises C b ps ns vs th l r wfp; omega
    have oS : Own W (node b ps ns vs th l r) := ((own_plug C _).1 (wt.t.symm ▸ bel_own HT.out.own bel)).2
    have c2 : W.cell? ⟨b, 2, none⟩ = some (.int .i64 vs) := cell_row oS.1 2
    have HIS : Hid _ := is_any oS.1 m
    cases hk : hasKey t.ents p m
    · rw [← wk1, hk] at HIS
      have HK : Hid (GetV t.ents p m 0 false) := by
        refine .inr ⟨rfl, rfl, fun x hx hkk => ?_⟩
        have : hasKey t.ents p m = true := hasKey_iff.2 ⟨x.2.2, by have e1 := hkk.1; have e2 : x.2.1 = m := by have := hkk.2; omega
                                                                   rw [← e1, ← e2]; exact hx⟩
        rw [hk] at this; cases this
      clear HP HC oq wk1 hk
      go_wp2_with (first
        | (go_at_call 28; refine Calls.mono HIS.out ?_; rintro e w9 ⟨rfl, hw9⟩; rw [hw9]; clear hw9; skip)
        | fail)
      go_ret2
      exact ⟨0, false, rfl, HK.out, bel⟩
    · rw [← wk1, hk] at HIS
      have hb := wk1.symm.trans hk
      obtain ⟨hth, hns⟩ : th = true ∧ ns = m := by simpa using hb
      have HK : Hid (GetV t.ents p m vs true) := .inl ⟨rfl, _, wk3 hth, ⟨wk2 hns, by show (ns : Int) = m; omega⟩, rfl⟩
      clear HP HC oq wk1 hk hb
      go_wp2_with (first
        | (go_at_call 28; refine Calls.mono HIS.out ?_; rintro e w9 ⟨rfl, hw9⟩; rw [hw9]; clear hw9; skip)
        | fail)
      go_ret2
      exact ⟨vs, true, rfl, HK.out, bel⟩
/-! Find: the best one so far. -/
theorem and_has {p : BitVec 32} {n : Nat} (ip : BitVec 32) (hn : n ≤ 32) (hr : rightB p n = true) : ((bits BinOp.and IntKind.u32 ip.toNat (mskI n).toNat) == (p.toNat : Int)) = hasB p n ip := by
  rw [bits_and, bv_nat, bv_nat, mskI_mid n hn]
  rw [Bool.eq_iff_iff]
  rw [hasB_iff hn]
  rw [rightB_iff hn] at hr
  constructor
  · intro h i hi
    have e : ip &&& msk n = p := BitVec.eq_of_toNat_eq (by have := eq_of_beq h; omega)
    rw [← e, cut_msb _ _ _ hn]; simp [hi]
  · intro h
    have e : ip &&& msk n = p := by
      apply BitVec.eq_of_getMsbD_eq
      intro i hi
      rw [cut_msb _ _ _ hn]
      by_cases g : i < n
      · simp [g, h i g]
      · simp [g, hr i (by omega)]
    rw [e]; simp
/-- The best of the first k, as Find keeps it. -/
def BestK (L : List Ro) (ip : BitVec 32) (k : Nat) (bp bn bv : Int) : Prop :=
  (bp = 0 ∧ bn = -1 ∧ bv = 0 ∧ ∀ j x, j < k → L[j]? = some x → hasB x.1 x.2.1 ip = false) ∨
  (∃ x ∈ L, hasB x.1 x.2.1 ip = true ∧ bp = x.1.toNat ∧ bn = x.2.1 ∧ bv = x.2.2 ∧ ∀ j y, j < k → L[j]? = some y → hasB y.1 y.2.1 ip = true → y.2.1 ≤ x.2.1)
theorem BestK.step {L : List Ro} {ip : BitVec 32} {k : Nat} {bp bn bv : Int} {x : Ro} (h : BestK L ip k bp bn bv) (hx : L[k]? = some x) :
    (hasB x.1 x.2.1 ip = false → BestK L ip (k + 1) bp bn bv) ∧ (hasB x.1 x.2.1 ip = true → ¬ (bn < (x.2.1 : Int)) → BestK L ip (k + 1) bp bn bv) ∧ (hasB x.1 x.2.1 ip = true → bn < (x.2.1 : Int) → BestK L ip (k + 1) x.1.toNat x.2.1 x.2.2) := by
  have hl : ∀ j y, j < k + 1 → L[j]? = some y → (j < k ∧ L[j]? = some y) ∨ y = x := by
    intro j y hj hy
    by_cases e : j = k
    · subst e; rw [hx] at hy; injection hy with hy; exact .inr hy.symm
    · exact .inl ⟨by omega, hy⟩
  refine ⟨fun hb => ?_, fun hb hn => ?_, fun hb hn => ?_⟩
  · rcases h with ⟨h1, h2, h3, h4⟩ | ⟨y, hy, h1, h2, h3, h4, h5⟩
    · refine .inl ⟨h1, h2, h3, fun j z hj hz => ?_⟩
      rcases hl j z hj hz with ⟨a, b⟩ | rfl
      · exact h4 j z a b
      · exact hb
    · refine .inr ⟨y, hy, h1, h2, h3, h4, fun j z hj hz hh => ?_⟩
      rcases hl j z hj hz with ⟨a, b⟩ | rfl
      · exact h5 j z a b hh
      · rw [hb] at hh; cases hh
  · rcases h with ⟨h1, h2, h3, h4⟩ | ⟨y, hy, h1, h2, h3, h4, h5⟩
    · omega
    · refine .inr ⟨y, hy, h1, h2, h3, h4, fun j z hj hz hh => ?_⟩
      rcases hl j z hj hz with ⟨a, b⟩ | rfl
      · exact h5 j z a b hh
      · omega
  · refine .inr ⟨x, List.mem_of_getElem? hx, hb, rfl, rfl, rfl, fun j z hj hz hh => ?_⟩
    rcases hl j z hj hz with ⟨a, b⟩ | rfl
    · rcases h with ⟨h1, h2, h3, h4⟩ | ⟨y, hy, h1, h2, h3, h4, h5⟩
      · rw [h4 j z a b] at hh; cases hh
      · have := h5 j z a b hh; omega
    · exact Nat.le_refl _
theorem BestK.all {L : List Ro} {ip : BitVec 32} {bp bn bv : Int} (h : BestK L ip L.length bp bn bv) : (bn < 0 ∧ FindV L ip ro0 false) ∨ (¬ bn < 0 ∧ ∃ x, bp = x.1.toNat ∧ bn = x.2.1 ∧ bv = x.2.2 ∧ FindV L ip x true) := by
  have hl : ∀ y ∈ L, ∃ j, j < L.length ∧ L[j]? = some y := fun y hy => by
    obtain ⟨j, hj⟩ := List.mem_iff_getElem?.1 hy
    exact ⟨j, (List.getElem?_eq_some_iff.1 hj).1, hj⟩
  rcases h with ⟨h1, h2, h3, h4⟩ | ⟨x, hx, h1, h2, h3, h4, h5⟩
  · refine .inl ⟨by omega, .inr ⟨rfl, rfl, fun y hy => ?_⟩⟩
    obtain ⟨j, a, b⟩ := hl y hy
    exact h4 j y a b
  · refine .inr ⟨by omega, x, h2, h3, h4, .inl ⟨rfl, hx, h1, fun y hy hh => ?_⟩⟩
    obtain ⟨j, a, b⟩ := hl y hy
    exact h5 j y a b hh
end Go.Proofs.Ytlopnagajhjmmaa
