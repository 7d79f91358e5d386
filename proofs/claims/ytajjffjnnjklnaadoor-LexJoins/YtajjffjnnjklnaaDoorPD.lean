/- LexJoins: tokens that are joined, and read again. Conditions: the library's two errors lie where the program's text lays them. -/
import Derived.Test.YtajjffjnnjklnaaDoorPC
namespace Go.Proofs.YtajjffjnnjklnaaDoor
open Go.Shelf Go.RowKit
theorem tokF_fit (s : ByteArray) : ∀ (f k : Nat) (acc L : List Tk) (n : Nat), (∀ x ∈ acc, x.t.size ≤ s.size) → tokF s f k acc = (some L, n) → ∀ x ∈ L, x.t.size ≤ s.size := by
  intro f
  induction f with
  | zero => intro k acc L n _ h; cases h
  | succ f ih =>
    intro k acc L n ha h
    rw [tokF_succ] at h
    generalize k + blkS (s.extract k s.size) = p at *
    have hf := (fits_long (s.extract p s.size)).2
    generalize longS (s.extract p s.size) = x at *
    split at h
    · cases h
      intro y hy
      rcases List.mem_append.1 hy with hy | hy
      · exact ha y hy
      · obtain rfl : y = ⟨7, ⟨#[]⟩, 0, (s.size : Nat)⟩ := by simpa using hy
        exact Nat.zero_le _
    · split at h
      · cases h
      · refine ih _ _ L n (fun y hy => ?_) h
        rcases List.mem_append.1 hy with hy | hy
        · exact ha y hy
        · obtain rfl : y = { x.1 with a := ((p : Nat) : Int) } := by simpa using hy
          have : (s.extract p s.size).size ≤ s.size := by rw [ByteArray.size_extract]; omega
          show x.1.t.size ≤ s.size
          omega
theorem tokS_fit {s : ByteArray} {L : List Tk} {n : Nat} (h : tokS s = (some L, n)) : ∀ x ∈ L, x.t.size ≤ s.size :=
  tokF_fit s _ 0 [] L n (fun _ hx => absurd hx (List.not_mem_nil)) h
/-- What is read of tokens joined. -/
theorem join_again {s : ByteArray} {L : List Tk} {n : Nat} (h : tokS s = (some L, n)) : ∃ M, tokS (jn (reprs L)) = (some M, 0) ∧ AlikeC L M ∧ reprs M = reprs L := by
  obtain ⟨r, h1, h2⟩ := tokF_own s _ 0 [] L n h
  rw [List.nil_append] at h1
  have hr : reprs L = r.map repr9 := by
    rw [h1, reprs_app, reprs_one, if_pos rfl, List.append_nil]
    exact reprs_all (fun x hx => (h2 x hx).2)
  obtain ⟨r', h3, h4⟩ := toks_joined h2
  have hA : AlikeC L (r' ++ [⟨7, ⟨#[]⟩, 0, ((jn (r.map repr9)).size : Nat)⟩]) := by rw [h1]; exact h4.snoc rfl
  exact ⟨_, by rw [hr]; exact h3, hA, (reprs_alike hA).symm⟩
set_option maxRecDepth 20000 in
set_option maxHeartbeats 16000000 in
theorem joins_any (s : ByteArray) (hm : s.size ≤ maxLen) (w : World) (E : Errs w) :
    Calls Tryd.prog 3 #[.string s] w fun e w' => e = .returned (.bool true) ∧ Below w.heap.size w w' := by
  have HL : Hid (∀ W, Errs W → Calls Tryd.prog 8 #[] W fun e w' => e = .returned (.bool true) ∧ Below W.heap.size W w') := fun W E => lives_any W E
  have HE : Hid (Errs w) := E
  clear E
  by_cases hs : s.size ≤ 4096
  · have HT : Hid (∀ W, Errs W → Calls Tryd.prog 7 #[.string s] W fun e w' => TokAns W w' (tokS s) e ∧ Below W.heap.size W w') := fun W E => tokens_any s hs W E
    obtain ⟨⟨o, n⟩, hr⟩ : ∃ r, tokS s = r := ⟨_, rfl⟩
    rw [hr] at HT
    cases o with
    | none =>
      clear hr
      go_enter Tryd.func3, Tryd.ntmps3
      go_wp2_with fail
      refine (HT.out _ HE.out).mono ?_
      rintro e W1 ⟨hte, hb1⟩
      have hte : e = .returned (.tuple #[.slice none 0 0, .int .i64 140, .int .i64 (n : Nat)]) := hte
      subst hte
      have EW := Lib.hid (HE.out.below hb1)
      have HB1 := Lib.hid hb1
      clear hb1 HT
      go_wp2_with fail
      refine (HL.out _ EW.out).mono ?_
      rintro e W2 ⟨rfl, hb2⟩
      have HB2 := Lib.hid (HB1.out.trans (hb2.mono HB1.out.size))
      clear hb2 EW HB1 HL
      go_wp2
      go_ret
      exact ⟨rfl, HB2.out⟩
    | some L =>
      obtain ⟨M, hM, hAl, hRep⟩ := join_again hr
      have hLz : ∀ x ∈ L, x.t.size ≤ 4096 := fun x hx => Nat.le_trans (tokS_fit hr x hx) hs
      obtain ⟨J, hJ⟩ : ∃ J, jn (reprs L) = J := ⟨_, rfl⟩
      rw [hJ] at hM
      have hMz := tokS_fit hM
      have HLZ := Lib.hid hLz
      have HMZ := Lib.hid hMz
      have HAL := Lib.hid hAl.alike
      have HTJ := Lib.hid (fun (h : J.size ≤ 4096) W E => tokens_any J h W E)
      rw [hM] at HTJ
      have HJE := Lib.hid hJ
      have HRE := Lib.hid hRep
      obtain ⟨m, hm9⟩ : ∃ m, L.length = m := ⟨_, rfl⟩
      have hmM : M.length = m := by have := hAl.alike.1; omega
      clear hr hM hAl hRep hLz hMz hJ
      go_enter Tryd.func3, Tryd.ntmps3
      go_wp2_with fail
      refine (HT.out _ HE.out).mono ?_
      rintro e W1 ⟨⟨v, rfl, hrow, hlen⟩, hb1⟩
      obtain ⟨a, cap, rfl, hcap, ht⟩ := own_tks hrow (by omega)
      rw [hm9] at hlen hcap ht
      rw [hm9]
      clear hm9
      have EW := Lib.hid (HE.out.below hb1)
      have HB1 := Lib.hid hb1
      have HTK := Lib.hid ht
      clear hb1 HT hrow ht
      go_wp2_with fail
      refine (HL.out _ EW.out).mono ?_
      rintro e W2 ⟨rfl, hb2⟩
      have HB2 := Lib.hid (HB1.out.trans (hb2.mono HB1.out.size))
      have HT2 := Lib.hid (HTK.out.below hb2)
      have EW2 := Lib.hid (EW.out.below hb2)
      have HJ1 := Lib.hid (join_any a m cap L W2 HT2.out HLZ.out hlen)
      rw [HJE.out] at HJ1
      clear hb2 EW HB1 HL HTK
      go_wp2_with fail
      refine HJ1.out.mono ?_
      rintro e W3 ⟨rfl, hb3⟩
      have HB3 := Lib.hid (HB2.out.trans (hb3.mono HB2.out.size))
      have HT3 := Lib.hid (HT2.out.below hb3)
      have EW3 := Lib.hid (EW2.out.below hb3)
      have HJ2 := Lib.hid (rjoin_any a m cap L W3 HT3.out hcap HLZ.out hlen)
      rw [HJE.out] at HJ2
      clear hb3 HJ1 HT2 EW2 HB2
      go_wp2_with fail
      refine HJ2.out.mono ?_
      rintro e W4 ⟨rfl, hb4⟩
      have HB4 := Lib.hid (HB3.out.trans (hb4.mono HB3.out.size))
      have HT4 := Lib.hid (HT3.out.below hb4)
      have EW4 := Lib.hid (EW3.out.below hb4)
      clear hb4 HJ2 HT3 EW3 HB3
      by_cases hJs : J.size ≤ 4096
      · have hJI : ¬ (4096 : Int) < (J.size : Int) := by omega
        go_wp2_with fail
        refine (HTJ.out hJs _ EW4.out).mono ?_
        rintro e W5 ⟨⟨v, rfl, hrow, _⟩, hb5⟩
        obtain ⟨a5, cap5, rfl, hcap5, ht5⟩ := own_tks hrow (by omega)
        rw [hmM] at hcap5 ht5
        rw [hmM]
        have HB5 := Lib.hid (HB4.out.trans (hb5.mono HB4.out.size))
        have HS := Lib.hid (same_any a a5 m cap cap5 L M W5 (HT4.out.below hb5) ht5 hcap hcap5 HAL.out)
        have HT5 := Lib.hid ht5
        clear hb5 hrow ht5 HT4 EW4 HB4 HTJ
        go_wp2_with fail
        refine HS.out.mono ?_
        rintro e W6 ⟨rfl, hb6⟩
        have HB6 := Lib.hid (HB5.out.trans (hb6.mono HB5.out.size))
        have HJ3 := Lib.hid (join_any a5 m cap5 M W6 (HT5.out.below hb6) (fun x hx => Nat.le_trans (HMZ.out x hx) hJs) hlen)
        rw [HRE.out, HJE.out] at HJ3
        clear hb6 HS HT5 HB5
        go_wp2_with fail
        refine HJ3.out.mono ?_
        rintro e W7 ⟨rfl, hb7⟩
        have HB7 := Lib.hid (HB6.out.trans (hb7.mono HB6.out.size))
        clear hb7 HJ3 HB6
        go_wp2
        go_ret
        exact ⟨rfl, HB7.out⟩
      · have hJI : (4096 : Int) < (J.size : Int) := by omega
        clear HTJ
        go_wp2
        go_ret
        exact ⟨rfl, HB4.out⟩
  · go_enter Tryd.func3, Tryd.ntmps3
    go_wp2_with fail
    refine (tokens_long s (by omega) hm _).mono ?_
    rintro e W1 ⟨rfl, rfl⟩
    go_wp2_with fail
    refine (HL.out _ HE.out).mono ?_
    rintro e W2 ⟨rfl, hb2⟩
    have HB2 := Lib.hid hb2
    clear hb2 HL
    go_wp2
    go_ret
    exact ⟨rfl, HB2.out⟩
end Go.Proofs.YtajjffjnnjklnaaDoor
