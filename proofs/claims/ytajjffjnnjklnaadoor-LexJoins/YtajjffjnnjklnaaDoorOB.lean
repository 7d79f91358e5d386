/- Blanks ahead of a text and one behind it change nothing but places (plain facts). Conditions: none. -/
import Derived.Test.YtajjffjnnjklnaaDoorMC
namespace Go.Proofs.YtajjffjnnjklnaaDoor
open Go.Shelf Go.RowKit
theorem size_spc : spc.size = 1 := rfl
theorem byt_spc (v : ByteArray) : byt (v ++ spc) v.size = 32 := byt_r v spc 0
theorem ext_pre2 {c w : ByteArray} {i j : Nat} (h : j ≤ c.size) : (c ++ w).extract i j = c.extract i j := by
  apply ext_bytes
  · rw [ByteArray.size_extract, ByteArray.size_extract, size_app]; omega
  · intro k hk
    rw [ByteArray.size_extract, size_app] at hk
    rw [byt_x (by omega), byt_x (by omega), byt_l (by omega)]
theorem run_spc {v : ByteArray} {B : Int → Bool} (hB : B 32 = false) : runS (v ++ spc) B = runS v B := by
  have hb := runS_b v B
  refine runS_is (by rw [size_app]; omega) (fun j hj => by rw [byt_l (by omega)]; exact runS_all hj) (.inr ?_)
  by_cases h : runS v B = v.size
  · rw [h, byt_spc]; exact hB
  · rw [byt_l (by omega)]; exact runS_stop (by omega)
theorem inv_name {v : ByteArray} (h0 : 0 < v.size) : tkName (v ++ spc) = tkName v := by
  unfold tkName
  rw [byt_l h0, run_spc (by decide), ext_pre2 (runS_b v nameB)]
theorem isX_spc {v : ByteArray} (h0 : 0 < v.size) : isX (v ++ spc) = isX v := by
  cases h : isX v
  · refine not_of fun q => ?_
    obtain ⟨q1, q2, q3⟩ := isX_byt q
    by_cases h2 : 2 ≤ v.size
    · rw [byt_l h0] at q2
      rw [byt_l (by omega)] at q3
      rw [isX_of h2 q2 q3] at h
      cases h
    · have := byt_spc v
      rw [show v.size = 1 by omega] at this
      omega
  · obtain ⟨q1, q2, q3⟩ := isX_byt h
    exact isX_of (by rw [size_app]; omega) (by rw [byt_l h0]; exact q2) (by rw [byt_l (by omega)]; exact q3)
theorem inv_num {v : ByteArray} (h0 : 0 < v.size) : tkNum (v ++ spc) = tkNum v := by
  have hp : numP (v ++ spc) = numP v := by
    unfold numP
    rw [run_spc (by decide), byt_l h0, isX_spc h0]
    split
    · rfl
    · split
      · rename_i hX
        obtain ⟨q1, _, _⟩ := isX_byt hX
        have hr : hexRun (v ++ spc) = hexRun v := by
          unfold hexRun
          rw [ext_r1 q1 rfl, run_spc (by decide)]
        have hb := runS_b (v.extract 2 v.size) hexB
        rw [show (v.extract 2 v.size).size = v.size - 2 by rw [ByteArray.size_extract]; omega] at hb
        have hh : hexRun v ≤ v.size - 2 := by unfold hexRun; omega
        rw [hr, ext_pre2 (by omega)]
      · rw [ext_pre2 (runS_b v digB)]
  unfold tkNum fin9
  rw [hp]
  cases hq : numP v with
  | none => rfl
  | some r =>
    have hk := numP_le hq
    show (if r.1 < (v ++ spc).size ∧ wordB (byt (v ++ spc) r.1) = true then (tz, 0) else ((⟨2, (v ++ spc).extract 0 r.1, r.2, 0⟩ : Tk), r.1)) = (if r.1 < v.size ∧ wordB (byt v r.1) = true then (tz, 0) else ((⟨2, v.extract 0 r.1, r.2, 0⟩ : Tk), r.1))
    rw [ext_pre2 hk]
    by_cases he : r.1 = v.size
    · rw [he, byt_spc, if_neg (fun q => by have := q.2; revert this; decide), if_neg (fun q => by omega)]
    · rw [byt_l (by omega), size_app, size_spc]
      by_cases hw : wordB (byt v r.1) = true
      · rw [if_pos ⟨by omega, hw⟩, if_pos ⟨by omega, hw⟩]
      · rw [if_neg (fun q => hw q.2), if_neg (fun q => hw q.2)]
theorem inv_mac {v : ByteArray} : tkMac (v ++ spc) = tkMac v := by
  unfold tkMac
  by_cases h : 17 ≤ v.size
  · rw [show min (v ++ spc).size 17 = 17 by rw [size_app]; omega, show min v.size 17 = 17 by omega, ext_pre2 h]
    unfold fin3
    rw [show min (v ++ spc).size 17 = 17 by rw [size_app]; omega, show min v.size 17 = 17 by omega, ext_pre2 h]
  · have e1 : macSpec (v.extract 0 (min v.size 17)) = none := by
      cases hm : macSpec (v.extract 0 (min v.size 17)) with
      | none => rfl
      | some m =>
        have := macSpec_size hm
        rw [ByteArray.size_extract] at this
        omega
    have e2 : macSpec ((v ++ spc).extract 0 (min (v ++ spc).size 17)) = none := by
      cases hm : macSpec ((v ++ spc).extract 0 (min (v ++ spc).size 17)) with
      | none => rfl
      | some m =>
        obtain ⟨h1, h2⟩ := macSpec_all hm
        rw [ByteArray.size_extract, size_app, size_spc] at h1
        have h3 := h2 16 (by omega)
        simp only [Nat.reduceMod, Nat.reduceEqDiff, if_false] at h3
        rw [byt_x (by rw [size_app, size_spc]; omega), show 0 + 16 = v.size by omega, byt_spc] at h3
        exact absurd h3 (by decide)
    rw [e1, e2]
    rfl
theorem adFrom_pre {v : ByteArray} : ∀ {k : Nat}, k ≤ v.size → adFrom (v ++ spc) k = adFrom v k
  | 0, _ => rfl
  | k + 1, h => by
    unfold adFrom
    rw [ext_pre2 h, adFrom_pre (by omega)]
theorem fin4_eq {v : ByteArray} {o : Option (Nat × Int)} (h : ∀ r, o = some r → r.1 ≤ v.size) : fin4 (v ++ spc) o = fin4 v o := by
  cases o with
  | none => rfl
  | some r =>
    show ((⟨4, (v ++ spc).extract 0 r.1, r.2, 0⟩ : Tk), r.1) = ((⟨4, v.extract 0 r.1, r.2, 0⟩ : Tk), r.1)
    rw [ext_pre2 (h r rfl)]
theorem inv_addr {v : ByteArray} : tkAddr (v ++ spc) = tkAddr v := by
  have he : adFrom (v ++ spc) (min (v ++ spc).size 15) = adFrom v (min v.size 15) := by
    rw [size_app, size_spc]
    by_cases h : 15 ≤ v.size
    · rw [show min (v.size + 1) 15 = 15 by omega, show min v.size 15 = 15 by omega, adFrom_pre h]
    · rw [show min (v.size + 1) 15 = v.size + 1 by omega, show min v.size 15 = v.size by omega, adFrom]
      split
      · exact (adFrom_lt (by omega)).symm
      · have hn : addrSpec ((v ++ spc).extract 0 (v.size + 1)) = none := by
          cases hm : addrSpec ((v ++ spc).extract 0 (v.size + 1)) with
          | none => rfl
          | some r =>
            obtain ⟨_, _, h3, _⟩ := addrSpec_all hm
            have := h3 v.size (by rw [ByteArray.size_extract, size_app, size_spc]; omega)
            rw [byt_x (by omega), Nat.zero_add, byt_spc] at this
            rcases this with q | q
            · exact absurd q (by decide)
            · exact absurd q (by decide)
        rw [hn]
        exact adFrom_pre (Nat.le_refl _)
  unfold tkAddr
  rw [he]
  exact fin4_eq fun r hr => by have := (adFrom_some hr).2.1; omega
theorem inv_op {v : ByteArray} (h0 : 0 < v.size) : tkOp (v ++ spc) = tkOp v := by
  unfold tkOp
  rw [size_app, size_spc, ext_pre2 (show 1 ≤ v.size by omega)]
  by_cases h : 2 ≤ v.size
  · rw [ext_pre2 h]
    by_cases q : opB (v.extract 0 2) = true
    · rw [if_pos ⟨by omega, q⟩, if_pos ⟨h, q⟩]
    · rw [if_neg (show ¬ (2 ≤ v.size + 1 ∧ opB (v.extract 0 2) = true) from fun z => q z.2), if_neg (show ¬ (2 ≤ v.size ∧ opB (v.extract 0 2) = true) from fun z => q z.2)]
      by_cases q1 : opB (v.extract 0 1) = true
      · rw [if_pos ⟨by omega, q1⟩, if_pos ⟨by omega, q1⟩]
      · rw [if_neg (fun z => q1 z.2), if_neg (fun z => q1 z.2)]
  · have hno : ¬ (2 ≤ v.size + 1 ∧ opB ((v ++ spc).extract 0 2) = true) := fun z => by
      have := (opB_first z.2).2.2 (by rw [ByteArray.size_extract, size_app, size_spc]; omega)
      rw [byt_x (by omega), show 0 + 1 = v.size by omega, byt_spc] at this
      omega
    have hno2 : ¬ (2 ≤ v.size ∧ opB (v.extract 0 2) = true) := fun z => h z.1
    rw [if_neg hno, if_neg hno2]
    by_cases q1 : opB (v.extract 0 1) = true
    · rw [if_pos ⟨by omega, q1⟩, if_pos ⟨by omega, q1⟩]
    · rw [if_neg (fun z => q1 z.2), if_neg (fun z => q1 z.2)]
theorem inv_text {v : ByteArray} (h0 : 0 < v.size) : tkText (v ++ spc) = tkText v := by
  unfold tkText
  rw [byt_l h0, ext_r1 (show 1 ≤ v.size by omega) rfl]
  have hb := runS_b (v.extract 1 v.size) textB
  have hsz : (v.extract 1 v.size).size = v.size - 1 := by rw [ByteArray.size_extract]; omega
  by_cases h : runS (v.extract 1 v.size) textB = v.size - 1
  · have h2 : runS (v.extract 1 v.size ++ spc) textB = v.size := by
      refine runS_is (by rw [size_app, hsz, size_spc]; omega) (fun j hj => ?_) (.inl (by rw [size_app, hsz, size_spc]; omega))
      by_cases hj2 : j < v.size - 1
      · rw [byt_l (by omega)]; exact runS_all (by omega)
      · rw [show j = (v.extract 1 v.size).size by omega, byt_spc]; decide
    rw [if_neg (fun q => by have := q.2.2.1; rw [h2, size_app, size_spc] at this; omega), if_neg (fun q => by have := q.2.2.1; omega)]
  · have h2 : runS (v.extract 1 v.size ++ spc) textB = runS (v.extract 1 v.size) textB := by
      refine runS_is (by rw [size_app]; omega) (fun j hj => by rw [byt_l (by omega)]; exact runS_all hj) (.inr ?_)
      rw [byt_l (by omega)]; exact runS_stop (by omega)
    rw [h2, size_app, size_spc, byt_l (by omega), ext_pre2 (by omega)]
    by_cases q : byt v 0 = 34 ∧ (runS (v.extract 1 v.size) textB ≤ 64 ∧ 1 + runS (v.extract 1 v.size) textB < v.size ∧ byt v (1 + runS (v.extract 1 v.size) textB) = 34)
    · rw [if_pos q, if_pos ⟨q.1, q.2.1, by omega, q.2.2.2⟩]
    · rw [if_neg q, if_neg (fun z => q ⟨z.1, z.2.1, by omega, z.2.2.2⟩)]
/-- A blank behind a text changes nothing of its first token. -/
theorem inv_long {v : ByteArray} (h0 : 0 < v.size) : longS (v ++ spc) = longS v := by
  rw [longS_eq, longS_eq, inv_name h0, inv_num h0, inv_mac, inv_addr, inv_op h0, inv_text h0]
/- Blanks without a number that falls. -/
theorem mu_blank {u : ByteArray} {k : Nat} (m m' : Bool) (h : k < u.size) : muB u (k + 1) m < muB u k m' := by
  have := muB_le u (k + 1) m
  have h2 : 2 * (u.size - k) ≤ muB u k m' := by unfold muB; omega
  omega
theorem mu_in {u : ByteArray} {k : Nat} (h : k < u.size) (h2 : byt u k = 35) : muB u k true < muB u k false := by
  unfold muB
  rw [if_pos rfl, if_neg (by intro q; rcases q with q | q <;> omega), if_neg (by decide), if_pos ⟨h, h2⟩]
  omega
theorem mu_out {u : ByteArray} {k : Nat} (h : k = u.size ∨ byt u k = 10) : muB u k false < muB u k true := by
  unfold muB
  rw [if_neg (by decide), if_pos rfl, if_pos h, if_neg (by intro q; rcases h with h | h <;> omega)]
  omega
theorem blkF_fuel {u : ByteArray} : ∀ (f g k : Nat) (m : Bool), k ≤ u.size → muB u k m < f → muB u k m < g → blkF u f k m = blkF u g k m
  | 0, g, k, m, _, h, _ => by omega
  | f + 1, 0, k, m, _, _, h => by omega
  | f + 1, g + 1, k, false, hk, h1, h2 => by
    unfold blkF
    by_cases he : k = u.size
    · rw [if_pos he, if_pos he]
    · rw [if_neg he, if_neg he]
      have hlt : k < u.size := by omega
      have hm := mu_blank (u := u) (k := k) false false hlt
      by_cases hb : isBlk (byt u k) = true
      · rw [if_pos hb, if_pos hb]
        exact blkF_fuel f g (k + 1) false (by omega) (by omega) (by omega)
      · rw [if_neg hb, if_neg hb]
        by_cases hc : byt u k = 35
        · have hm2 := mu_in hlt hc
          rw [if_pos hc, if_pos hc]
          exact blkF_fuel f g k true hk (by omega) (by omega)
        · rw [if_neg hc, if_neg hc]
  | f + 1, g + 1, k, true, hk, h1, h2 => by
    unfold blkF
    by_cases he : k = u.size ∨ byt u k = 10
    · have hm := mu_out he
      rw [if_pos he, if_pos he]
      exact blkF_fuel f g k false hk (by omega) (by omega)
    · have hlt : k < u.size := by
        rcases Nat.lt_or_ge k u.size with h | h
        · exact h
        · exact absurd (.inl (by omega)) he
      have hm := mu_blank (u := u) (k := k) true true hlt
      rw [if_neg he, if_neg he]
      exact blkF_fuel f g (k + 1) true (by omega) (by omega) (by omega)
def blkN (u : ByteArray) (k : Nat) (m : Bool) : Nat := blkF u (muB u k m + 1) k m
theorem blkS_N (u : ByteArray) : blkS u = blkN u 0 false := by
  have := muB_le u 0 false
  exact blkF_fuel _ _ 0 false (Nat.zero_le _) (by omega) (by omega)
theorem blkN_e {u : ByteArray} {k : Nat} (h : k = u.size) : blkN u k false = k := by unfold blkN blkF; rw [if_pos h]
theorem blkN_b {u : ByteArray} {k : Nat} (h : k < u.size) (hb : isBlk (byt u k) = true) : blkN u k false = blkN u (k + 1) false := by
  have hm := mu_blank (u := u) (k := k) false false h
  show blkF u (muB u k false + 1) k false = _
  rw [blkF, if_neg (by omega), if_pos hb]
  exact blkF_fuel _ _ _ _ (by omega) (by omega) (by omega)
theorem blkN_c {u : ByteArray} {k : Nat} (h : k < u.size) (hb : byt u k = 35) : blkN u k false = blkN u k true := by
  have hm := mu_in h hb
  show blkF u (muB u k false + 1) k false = _
  rw [blkF, if_neg (by omega), if_neg (by rw [hb]; decide), if_pos hb]
  exact blkF_fuel _ _ _ _ (by omega) (by omega) (by omega)
theorem blkN_s {u : ByteArray} {k : Nat} (h : k < u.size) (h1 : isBlk (byt u k) = false) (h2 : byt u k ≠ 35) : blkN u k false = k := by
  show blkF u (muB u k false + 1) k false = _
  rw [blkF, if_neg (by omega), if_neg (by rw [h1]; exact Bool.false_ne_true), if_neg h2]
theorem blkN_o {u : ByteArray} {k : Nat} (hk : k ≤ u.size) (h : k = u.size ∨ byt u k = 10) : blkN u k true = blkN u k false := by
  have hm := mu_out h
  show blkF u (muB u k true + 1) k true = _
  rw [blkF, if_pos h]
  exact blkF_fuel _ _ _ _ hk (by omega) (by omega)
theorem blkN_i {u : ByteArray} {k : Nat} (h : k < u.size) (h2 : byt u k ≠ 10) : blkN u k true = blkN u (k + 1) true := by
  have hm := mu_blank (u := u) (k := k) true true h
  show blkF u (muB u k true + 1) k true = _
  rw [blkF, if_neg (by intro q; rcases q with q | q <;> omega)]
  exact blkF_fuel _ _ _ _ (by omega) (by omega) (by omega)
theorem blkN_le {u : ByteArray} {k : Nat} {m : Bool} (h : k ≤ u.size) : k ≤ blkN u k m ∧ blkN u k m ≤ u.size := blkF_le u _ k m h
/-- One blank behind. -/
theorem blkN_spc {u : ByteArray} : ∀ (n k : Nat) (m : Bool), k ≤ u.size → muB u k m < n → blkN (u ++ spc) k m = if blkN u k m = u.size then u.size + 1 else blkN u k m
  | 0, k, m, _, h => by omega
  | n + 1, k, m, hk, hn => by
    have hs : (u ++ spc).size = u.size + 1 := by rw [size_app]; rfl
    have hend : blkN (u ++ spc) u.size false = u.size + 1 := by
      rw [blkN_b (by omega) (by rw [byt_spc]; decide), blkN_e (by omega)]
    by_cases he : k = u.size
    · subst he
      cases m
      · rw [hend, blkN_e rfl, if_pos rfl]
      · rw [blkN_i (by omega) (by rw [byt_spc]; decide), blkN_o (by omega) (.inl (by omega)), blkN_e (by omega), blkN_o (Nat.le_refl _) (.inl rfl), blkN_e rfl, if_pos rfl]
    · have hlt : k < u.size := by omega
      have hb := byt_l (c := u) (w := spc) hlt
      cases m
      · by_cases h1 : isBlk (byt u k) = true
        · have hm := mu_blank (u := u) (k := k) false false hlt
          rw [blkN_b (by omega) (by rw [hb]; exact h1), blkN_b hlt h1]
          exact blkN_spc n (k + 1) false (by omega) (by omega)
        · by_cases h2 : byt u k = 35
          · have hm := mu_in hlt h2
            rw [blkN_c (by omega) (by rw [hb]; exact h2), blkN_c hlt h2]
            exact blkN_spc n k true hk (by omega)
          · rw [blkN_s (by omega) (by rw [hb]; exact not_of h1) (by rw [hb]; exact h2), blkN_s hlt (not_of h1) h2, if_neg he]
      · by_cases h1 : byt u k = 10
        · have hm := mu_out (u := u) (k := k) (.inr h1)
          rw [blkN_o (by omega) (.inr (by rw [hb]; exact h1)), blkN_o hk (.inr h1)]
          exact blkN_spc n k false hk (by omega)
        · have hm := mu_blank (u := u) (k := k) true true hlt
          rw [blkN_i (by omega) (by rw [hb]; exact h1), blkN_i hlt h1]
          exact blkN_spc n (k + 1) true (by omega) (by omega)
theorem blkS_spc (u : ByteArray) : blkS (u ++ spc) = if blkS u = u.size then u.size + 1 else blkS u := by
  rw [blkS_N, blkS_N]
  exact blkN_spc (muB u 0 false + 1) 0 false (Nat.zero_le _) (by omega)
/-- Bytes ahead. -/
theorem blkF_shift {t v : ByteArray} : ∀ (f k : Nat) (m : Bool), blkF (t ++ v) f (t.size + k) m = t.size + blkF v f k m
  | 0, k, m => rfl
  | f + 1, k, false => by
    unfold blkF
    rw [byt_r, size_app]
    by_cases he : k = v.size
    · rw [if_pos (by omega), if_pos he]
    · rw [if_neg (by omega), if_neg he]
      by_cases hb : isBlk (byt v k) = true
      · rw [if_pos hb, if_pos hb]; exact blkF_shift f (k + 1) false
      · rw [if_neg hb, if_neg hb]
        by_cases hc : byt v k = 35
        · rw [if_pos hc, if_pos hc]; exact blkF_shift f k true
        · rw [if_neg hc, if_neg hc]
  | f + 1, k, true => by
    unfold blkF
    rw [byt_r, size_app]
    by_cases he : k = v.size ∨ byt v k = 10
    · rw [if_pos (by rcases he with h | h; exact .inl (by omega); exact .inr h), if_pos he]; exact blkF_shift f k false
    · rw [if_neg (by intro q; exact he (by rcases q with q | q; exact .inl (by omega); exact .inr q)), if_neg he]; exact blkF_shift f (k + 1) true
theorem run_comment {u : ByteArray} : ∀ (n k : Nat), k + n ≤ u.size → (∀ j, k ≤ j → j < k + n → byt u j ≠ 10) → blkN u k true = blkN u (k + n) true
  | 0, k, _, _ => rfl
  | n + 1, k, h1, h2 => by
    rw [blkN_i (by omega) (h2 k (Nat.le_refl _) (by omega)), run_comment n (k + 1) (by omega) (fun j a b => h2 j (by omega) (by omega)), show k + 1 + n = k + (n + 1) by omega]
theorem run_blank {u : ByteArray} : ∀ (n k : Nat), k + n ≤ u.size → (∀ j, k ≤ j → j < k + n → isBlk (byt u j) = true) → blkN u k false = blkN u (k + n) false
  | 0, k, _, _ => rfl
  | n + 1, k, h1, h2 => by
    rw [blkN_b (by omega) (h2 k (Nat.le_refl _) (by omega)), run_blank n (k + 1) (by omega) (fun j a b => h2 j (by omega) (by omega)), show k + 1 + n = k + (n + 1) by omega]
/-- A line of a comment, and blanks. -/
def Pre (t : ByteArray) : Prop := byt t 0 = 35 ∧ ∃ i, 0 < i ∧ i < t.size ∧ (∀ j, j < i → byt t j ≠ 10) ∧ byt t i = 10 ∧ (∀ j, i < j → j < t.size → isBlk (byt t j) = true)
theorem blkS_pre {t : ByteArray} (h : Pre t) (v : ByteArray) : blkS (t ++ v) = t.size + blkS v := by
  obtain ⟨h0, i, h1, h2, h3, h4, h5⟩ := h
  have hs := size_app t v
  have hb : ∀ j, j < t.size → byt (t ++ v) j = byt t j := fun j hj => byt_l hj
  have e : blkN (t ++ v) 0 false = blkN (t ++ v) t.size false := by
    rw [blkN_c (by omega) (by rw [hb 0 (by omega)]; exact h0), run_comment i 0 (by omega) (fun j _ b => by rw [hb j (by omega)]; exact h3 j (by omega)), blkN_o (by omega) (.inr (by rw [hb _ (by omega), Nat.zero_add]; exact h4)),
      run_blank (t.size - i) (0 + i) (by omega) (fun j a b => ?_), show 0 + i + (t.size - i) = t.size by omega]
    rw [hb j (by omega)]
    by_cases hj : j = i
    · subst hj; rw [h4]; decide
    · exact h5 j (by omega) (by omega)
  have e2 : blkN (t ++ v) t.size false = t.size + blkN v 0 false := by
    have hmu : muB (t ++ v) (t.size + 0) false = muB v 0 false := by
      unfold muB
      have hft : ¬ (false = true) := by decide
      rw [if_neg hft, if_neg hft, hs, byt_r, show t.size + v.size - (t.size + 0) = v.size - 0 by omega]
      by_cases q : 0 < v.size ∧ byt v 0 = 35
      · rw [if_pos ⟨by omega, q.2⟩, if_pos q]
      · rw [if_neg (fun z => q ⟨by omega, z.2⟩), if_neg q]
    show blkF (t ++ v) (muB (t ++ v) (t.size + 0) false + 1) (t.size + 0) false = _
    rw [hmu]
    exact blkF_shift _ 0 false
  rw [blkS_N, e, e2, ← blkS_N]
end Go.Proofs.YtajjffjnnjklnaaDoor
