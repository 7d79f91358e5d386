/- What is read is a token's own bytes; texts of tokens, one behind the other (plain facts). Conditions: none. -/
import Derived.Test.YtajjffjnnjklnaaDoorMB
namespace Go.Proofs.YtajjffjnnjklnaaDoor
open Go.Shelf Go.RowKit
def OwnAt (u : ByteArray) (r : Tk × Nat) : Prop := 0 < r.2 → Own (u.extract 0 r.2) r.1
theorem ownAt_tz (u : ByteArray) : OwnAt u (tz, 0) := fun h => absurd h (by decide)
theorem byt_x0 {u : ByteArray} {k j : Nat} (h : j < k) : byt (u.extract 0 k) j = byt u j := by rw [byt_x (by omega), Nat.zero_add]
theorem size_x0 {u : ByteArray} {k : Nat} (h : k ≤ u.size) : (u.extract 0 k).size = k := by rw [ByteArray.size_extract]; omega
theorem ext_ext0 (u : ByteArray) {i k : Nat} (hk : k ≤ u.size) : (u.extract 0 k).extract i k = u.extract i k := by
  apply ext_bytes
  · rw [ByteArray.size_extract, ByteArray.size_extract, ByteArray.size_extract]; omega
  · intro j hj
    rw [ByteArray.size_extract, ByteArray.size_extract] at hj
    rw [byt_x (by omega), byt_x (by omega), byt_x (by omega), Nat.zero_add]
theorem ext_ext1 (u : ByteArray) {i k n : Nat} (hk : k ≤ n) : (u.extract 0 n).extract i k = u.extract i k := by
  apply ext_bytes
  · rw [ByteArray.size_extract, ByteArray.size_extract, ByteArray.size_extract]; omega
  · intro j hj
    rw [ByteArray.size_extract, ByteArray.size_extract] at hj
    rw [byt_x (by omega), byt_x (by omega), byt_x (by omega), Nat.zero_add]
theorem ownAt_name (u : ByteArray) : OwnAt u (tkName u) := by
  intro h
  have hb := runS_b u nameB
  unfold tkName at h ⊢
  split at h
  · exact (Nat.lt_irrefl 0 h).elim
  · rename_i hc
    rw [if_neg hc]
    have h : 0 < runS u nameB := h
    have hs := size_x0 hb
    refine .inl ⟨by show 0 < (u.extract 0 (runS u nameB)).size; omega, ?_, ?_, fun j hj => ?_, rfl⟩
    · show digB (byt (u.extract 0 (runS u nameB)) 0) = false
      rw [byt_x0 h]
      exact not_of fun q => hc (by rw [q]; rfl)
    · show byt (u.extract 0 (runS u nameB)) 0 ≠ 46
      rw [byt_x0 h]
      intro q
      exact hc (by rw [q]; simp)
    · have hj : j < (u.extract 0 (runS u nameB)).size := hj
      show nameB (byt (u.extract 0 (runS u nameB)) j) = true
      rw [byt_x0 (by omega)]
      exact runS_all (by omega)
theorem ownAt_num (u : ByteArray) : OwnAt u (tkNum u) := by
  intro h
  have hb := runS_b u digB
  unfold tkNum fin9 at h ⊢
  cases hp : numP u with
  | none => rw [hp] at h; exact (Nat.lt_irrefl 0 h).elim
  | some r =>
    obtain ⟨k, v⟩ := r
    have hk := numP_le hp
    rw [hp] at h
    have h : 0 < (if k < u.size ∧ wordB (byt u k) = true then (tz, 0) else ((⟨2, u.extract 0 k, (v : Int), 0⟩ : Tk), k)).2 := h
    show Own (u.extract 0 (if k < u.size ∧ wordB (byt u k) = true then (tz, 0) else ((⟨2, u.extract 0 k, (v : Int), 0⟩ : Tk), k)).2) (if k < u.size ∧ wordB (byt u k) = true then (tz, 0) else ((⟨2, u.extract 0 k, (v : Int), 0⟩ : Tk), k)).1
    by_cases hc : k < u.size ∧ wordB (byt u k) = true
    · rw [if_pos hc] at h; exact (Nat.lt_irrefl 0 h).elim
    · rw [if_neg hc] at h ⊢
      have h : 0 < k := h
      show Own (u.extract 0 k) ⟨2, u.extract 0 k, (v : Int), 0⟩
      have hs := size_x0 (u := u) (k := k) hk
      unfold numP at hp
      split at hp
      · cases hp
      · rename_i hz
        split at hp
        · rename_i hX
          obtain ⟨x1, x2, x3⟩ := isX_byt hX
          have hbx := runS_b (u.extract 2 u.size) hexB
          rw [show (u.extract 2 u.size).size = u.size - 2 by rw [ByteArray.size_extract]; omega] at hbx
          have hhr : hexRun u ≤ 16 ∧ hexRun u ≤ runS (u.extract 2 u.size) hexB := by unfold hexRun; omega
          unfold hexP with9 at hp
          have hsx : (u.extract 2 (2 + hexRun u)).size = hexRun u := by rw [ByteArray.size_extract]; omega
          rw [hsx] at hp
          split at hp
          · rename_i v' hv
            split at hv
            · cases hv
            · rename_i hn0
              have hv : hexN 0 (u.extract 2 (2 + hexRun u)).data.toList = v' := Option.some.inj hv
              have hp : (2 + hexRun u, v') = (k, v) := Option.some.inj hp
              have hpk : 2 + hexRun u = k := congrArg Prod.fst hp
              have hpv : v' = v := congrArg Prod.snd hp
              clear hp
              subst hpv
              rw [hpk] at hv
              refine .inr (.inr (.inl ⟨by omega, by omega, by rw [byt_x0 (by omega)]; exact x2, by rw [byt_x0 (by omega)]; exact x3, fun j j2 hj => ?_, ?_⟩))
              · rw [hs] at hj
                rw [byt_x0 hj]
                have := runS_all (s := u.extract 2 u.size) (B := hexB) (j := j - 2) (by omega)
                rw [byt_x (by omega), show 2 + (j - 2) = j by omega] at this
                exact this
              · rw [hs, ext_ext0 u hk, hv]
          · cases hp
        · unfold with9 at hp
          split at hp
          · rename_i v' hv
            cases hp
            refine .inr (.inl ⟨by omega, fun j hj => ?_, ?_, v, hv, rfl⟩)
            · rw [hs] at hj
              rw [byt_x0 hj]
              exact runS_all hj
            · rw [hs, byt_x0 h]; exact hz
          · cases hp
theorem ownAt_mac (u : ByteArray) : OwnAt u (tkMac u) := by
  intro h
  unfold tkMac fin3 at h ⊢
  cases hm : macSpec (u.extract 0 (min u.size 17)) with
  | none => rw [hm] at h; exact (Nat.lt_irrefl 0 h).elim
  | some m =>
    have := macSpec_size hm
    rw [ByteArray.size_extract] at this
    have e : min u.size 17 = 17 := by omega
    rw [e] at hm ⊢
    exact .inr (.inr (.inr (.inl ⟨m, hm, rfl⟩)))
theorem ownAt_addr (u : ByteArray) : OwnAt u (tkAddr u) := by
  intro h
  unfold tkAddr fin4 at h ⊢
  cases hm : adFrom u (min u.size 15) with
  | none => rw [hm] at h; exact (Nat.lt_irrefl 0 h).elim
  | some r =>
    obtain ⟨h1, h2, h3⟩ := adFrom_some hm
    have hs := size_x0 (u := u) (k := r.1) (by omega)
    exact .inr (.inr (.inr (.inr (.inl ⟨by show 7 ≤ (u.extract 0 r.1).size; omega, by show (u.extract 0 r.1).size ≤ 15; omega, r.2, h3, rfl⟩))))
theorem ownAt_op (u : ByteArray) : OwnAt u (tkOp u) := by
  intro h
  unfold tkOp at h ⊢
  split
  · rename_i hc
    exact .inr (.inr (.inr (.inr (.inr (.inl ⟨hc.2, rfl⟩)))))
  · split
    · rename_i hc
      exact .inr (.inr (.inr (.inr (.inr (.inl ⟨hc.2, rfl⟩)))))
    · rename_i h1 h2
      rw [if_neg h1, if_neg h2] at h
      exact (Nat.lt_irrefl 0 h).elim
theorem ownAt_text (u : ByteArray) : OwnAt u (tkText u) := by
  intro h
  have hb := runS_b (u.extract 1 u.size) textB
  rw [show (u.extract 1 u.size).size = u.size - 1 by rw [ByteArray.size_extract]; omega] at hb
  have hall := fun j (hj : j < runS (u.extract 1 u.size) textB) => runS_all (s := u.extract 1 u.size) (B := textB) hj
  unfold tkText at h ⊢
  split
  · rename_i hc
    generalize runS (u.extract 1 u.size) textB = n at *
    obtain ⟨c1, c2, c3, c4⟩ := hc
    have hs := size_x0 (u := u) (k := 1 + n + 1) (by omega)
    show Own (u.extract 0 (1 + n + 1)) ⟨6, u.extract 1 (1 + n), 0, 0⟩
    refine .inr (.inr (.inr (.inr (.inr (.inr ⟨by omega, by omega, by rw [byt_x0 (by omega)]; exact c1, ?_, fun j j1 hj => ?_, ?_⟩)))))
    · rw [hs, Nat.add_sub_cancel, byt_x0 (by omega)]; exact c4
    · rw [hs] at hj
      rw [byt_x0 (by omega)]
      have := hall (j - 1) (by omega)
      rw [byt_x (by omega), show 1 + (j - 1) = j by omega] at this
      exact this
    · rw [hs, Nat.add_sub_cancel, ext_ext1 u (by omega)]
  · rename_i hc
    rw [if_neg hc] at h
    exact (Nat.lt_irrefl 0 h).elim
theorem ownAt_best {u : ByteArray} {a b : Tk × Nat} (ha : OwnAt u a) (hb : OwnAt u b) : OwnAt u (best a b) := by unfold best; split <;> assumption
/-- What is read is a token's own bytes. -/
theorem ownAt_long (u : ByteArray) : OwnAt u (longS u) := by
  rw [longS_eq]
  exact ownAt_best (ownAt_best (ownAt_best (ownAt_best (ownAt_best (ownAt_best (ownAt_tz u) (ownAt_name u)) (ownAt_num u)) (ownAt_mac u)) (ownAt_addr u)) (ownAt_op u)) (ownAt_text u)
/-- A token's first byte is no blank and begins no comment. -/
theorem own_first {c : ByteArray} {x : Tk} (h : Own c x) : 0 < c.size ∧ isBlk (byt c 0) = false ∧ byt c 0 ≠ 35 := by
  have key : byt c 0 ≠ 32 → byt c 0 ≠ 9 → byt c 0 ≠ 10 → byt c 0 ≠ 13 → isBlk (byt c 0) = false := fun a b d e => by simp [isBlk, a, b, d, e]
  rcases h with ⟨a, b, d, e, rfl⟩ | ⟨a, b, d, v, e, rfl⟩ | ⟨a, b, d, e, f, rfl⟩ | ⟨v, a, rfl⟩ | ⟨a, b, v, d, rfl⟩ | ⟨a, rfl⟩ | ⟨a, b, d, e, f, rfl⟩
  · have := nameB_iff.1 (e 0 a)
    exact ⟨a, key (by omega) (by omega) (by omega) (by omega), by omega⟩
  · have := digB_iff.1 (b 0 a)
    exact ⟨a, key (by omega) (by omega) (by omega) (by omega), by omega⟩
  · exact ⟨by omega, key (by omega) (by omega) (by omega) (by omega), by omega⟩
  · obtain ⟨h1, h2⟩ := macSpec_all a
    have h0 := h2 0 (by omega)
    simp only [Nat.reduceMod, Nat.reduceEqDiff, if_false] at h0
    have := hexB_iff.1 h0
    exact ⟨by omega, key (by omega) (by omega) (by omega) (by omega), by omega⟩
  · obtain ⟨_, h2, _⟩ := addrSpec_all d
    have := digB_iff.1 h2
    exact ⟨by omega, key (by omega) (by omega) (by omega) (by omega), by omega⟩
  · obtain ⟨h1, h2, _⟩ := opB_first a
    exact ⟨by omega, key (by omega) (by omega) (by omega) (by omega), by omega⟩
  · exact ⟨by omega, key (by omega) (by omega) (by omega) (by omega), by omega⟩
/-- No blank at all. -/
theorem blkS_0 {u : ByteArray} (h0 : 0 < u.size) (h1 : isBlk (byt u 0) = false) (h2 : byt u 0 ≠ 35) : blkS u = 0 := by
  unfold blkS blkF
  rw [if_neg (by omega), if_neg (by rw [h1]; exact Bool.false_ne_true), if_neg h2]
theorem blkS_1 {u : ByteArray} (h0 : 1 < u.size) (hb : isBlk (byt u 0) = true) (h1 : isBlk (byt u 1) = false) (h2 : byt u 1 ≠ 35) : blkS u = 1 := by
  unfold blkS blkF
  rw [if_neg (by omega), if_pos hb]
  unfold blkF
  rw [if_neg (by omega), if_neg (by rw [h1]; exact Bool.false_ne_true), if_neg h2]
theorem blkS_e {u : ByteArray} (h0 : u.size = 0) : blkS u = 0 := by
  unfold blkS blkF
  rw [if_pos h0.symm]
def spc : ByteArray := ⟨#[32]⟩
def non : ByteArray := ⟨#[]⟩
theorem app_nil (c : ByteArray) : c ++ non = c := by apply ByteArray.ext; rw [data_app]; exact Array.append_empty
theorem nil_app (c : ByteArray) : non ++ c = c := by apply ByteArray.ext; rw [data_app]; exact Array.empty_append
/-- One token, behind no blank or one. -/
theorem tokF_step {J sp c w : ByteArray} {x : Tk} {k f : Nat} {acc : List Tk} (hk : k ≤ J.size) (hJ : J.extract k J.size = sp ++ (c ++ w)) (hsp : sp = non ∨ sp = spc) (ho : Own c x) (he : Ends x.k w) :
    tokF J (f + 1) k acc = tokF J f (k + sp.size + c.size) (acc ++ [{ x with a := ((k + sp.size : Nat) : Int) }]) ∧ k + sp.size + c.size ≤ J.size ∧ J.extract (k + sp.size + c.size) J.size = w := by
  obtain ⟨hc0, hc1, hc2⟩ := own_first ho
  have hsz : J.size - k = sp.size + (c.size + w.size) := by
    have := congrArg ByteArray.size hJ
    rw [size_app, size_app, ByteArray.size_extract] at this
    omega
  have hbl : blkS (J.extract k J.size) = sp.size := by
    rw [hJ]
    rcases hsp with rfl | rfl
    · rw [nil_app]
      exact blkS_0 (by rw [size_app]; omega) (by rw [byt_l hc0]; exact hc1) (by rw [byt_l hc0]; exact hc2)
    · have e1 : byt (spc ++ (c ++ w)) 1 = byt c 0 := by
        have := byt_r spc (c ++ w) 0
        rw [byt_l hc0] at this
        exact this
      exact blkS_1 (by rw [size_app, size_app]; have : spc.size = 1 := rfl; omega) (by rw [byt_l (by decide)]; decide) (by rw [e1]; exact hc1) (by rw [e1]; exact hc2)
  have hx1 : J.extract (k + sp.size) J.size = c ++ w := by
    have e : J.extract (k + sp.size) J.size = (J.extract k J.size).extract sp.size (J.extract k J.size).size := by
      rw [show (J.extract k J.size).size = J.size - k by rw [ByteArray.size_extract]; omega, ext_ext J k sp.size (J.size - k) (by omega), show k + (J.size - k) = J.size by omega]
    rw [e, hJ]
    exact ext_r rfl rfl
  have hx2 : J.extract (k + sp.size + c.size) J.size = w := by
    have e : J.extract (k + sp.size + c.size) J.size = (J.extract (k + sp.size) J.size).extract c.size (J.extract (k + sp.size) J.size).size := by
      rw [show (J.extract (k + sp.size) J.size).size = J.size - (k + sp.size) by rw [ByteArray.size_extract]; omega, ext_ext J (k + sp.size) c.size (J.size - (k + sp.size)) (by omega), show k + sp.size + (J.size - (k + sp.size)) = J.size by omega]
    rw [e, hx1]
    exact ext_r rfl rfl
  have hl := own_long ho he
  refine ⟨?_, by omega, hx2⟩
  rw [tokF, hbl, if_neg (by omega), hx1, hl]
  rw [if_neg (show ¬ c.size = 0 by omega)]
theorem tokF_end {J : ByteArray} {f : Nat} {acc : List Tk} : tokF J (f + 1) J.size acc = (some (acc ++ [⟨7, ⟨#[]⟩, 0, (J.size : Nat)⟩]), 0) := by
  have h0 : blkS (J.extract J.size J.size) = 0 := blkS_e (by rw [ByteArray.size_extract]; omega)
  rw [tokF, h0, if_pos (by omega)]
end Go.Proofs.YtajjffjnnjklnaaDoor
