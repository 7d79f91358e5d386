/- LexPlaces: tokens stand one behind the other, each where it says. Conditions: the library's two errors lie where the program's text lays them. -/
import Derived.Test.YtajjffjnnjklnaaDoorLR
import Derived.BigQuiet
namespace Go.Proofs.YtajjffjnnjklnaaDoor
open Go.Shelf Go.RowKit
theorem getK {α : Type} {os : List α} {k : Nat} (h : k < os.length) : ∃ o, os[k]? = some o := ⟨os[k], List.getElem?_eq_getElem h⟩
theorem drop_cons {α : Type} {os : List α} {k : Nat} {o : α} (h : os[k]? = some o) : os.drop k = o :: os.drop (k + 1) := by
  obtain ⟨hk, rfl⟩ := List.getElem?_eq_some_iff.1 h
  exact List.drop_eq_getElem_cons hk
theorem below_drewN {n : Nat} {w w' : World} (h : Below n w w') (k : Nat) : Below n w (w'.drewN k) := ⟨h.os, h.tape, h.output, h.size, h.block⟩
theorem below1 (w : World) (A : Obj) : Below w.heap.size w (w.alloc A) := (Below.refl _ _).alloc (Nat.le_refl _) A
set_option maxRecDepth 20000 in
set_option maxHeartbeats 16000000 in
theorem places_any (s : ByteArray) (hm : s.size ≤ maxLen) (w : World) (E : Errs w) :
    Calls Tryd.prog 5 #[.string s] w fun e w' => e = .returned (.bool true) ∧ Below w.heap.size w w' := by
  have HL : Hid (∀ W, Errs W → Calls Tryd.prog 8 #[] W fun e w' => e = .returned (.bool true) ∧ Below W.heap.size W w') := fun W E => lives_any W E
  have HE : Hid (Errs w) := E
  clear E
  by_cases hs : s.size ≤ 4096
  · have HT : Hid (∀ W, Errs W → Calls Tryd.prog 7 #[.string s] W fun e w' => TokAns W w' (tokS s) e ∧ Below W.heap.size W w') := fun W E => tokens_any s hs W E
    have HP := Lib.hid (fun L n => tokF_placed s (s.size + 1) 0 [] L n (Nat.zero_le _))
    obtain ⟨⟨o, n⟩, hr⟩ : ∃ r, tokS s = r := ⟨_, rfl⟩
    have hr2 : tokF s (s.size + 1) 0 [] = (o, n) := hr
    rw [hr] at HT
    cases o with
    | none =>
      clear HP hr hr2
      go_enter Tryd.func5, Tryd.ntmps5
      go_wp2_with fail
      refine (HT.out _ HE.out).mono ?_
      rintro e W1 ⟨hte, hb1⟩
      have hte : e = .returned (.tuple #[.slice none 0 0, .int .i64 140, .int .i64 (n : Nat)]) := hte
      subst hte
      have EW := Lib.hid (HE.out.below hb1)
      have HB1 := Lib.hid hb1
      clear hb1 HT
      go_wp2_with fail
      refine (HL.out _ EW.out).mono ?_
      rintro e W2 ⟨rfl, hb2⟩
      have HB2 := Lib.hid (HB1.out.trans (hb2.mono HB1.out.size))
      clear hb2 EW HB1 HL
      go_wp2
      go_ret
      exact ⟨rfl, HB2.out⟩
    | some L =>
      obtain ⟨r, hL, hPl⟩ := HP.out L n hr2
      rw [List.nil_append] at hL
      rw [← hL] at hPl
      have HPL := Lib.hid hPl
      have hn1 : 1 ≤ L.length := by rw [hL]; simp
      have HLAST := Lib.hid (show L[L.length - 1]? = some ⟨7, ⟨#[]⟩, 0, (s.size : Nat)⟩ by rw [hL]; simp)
      obtain ⟨m, hm9⟩ : ∃ m, L.length = m := ⟨_, rfl⟩
      have HM := Lib.hid hm9
      rw [hm9] at hn1 HLAST
      have hn1I : (1 : Int) ≤ m := by omega
      clear HP hr hr2 hPl hL
      go_enter Tryd.func5, Tryd.ntmps5
      go_wp2_with fail
      refine (HT.out _ HE.out).mono ?_
      rintro e W1 ⟨⟨v, rfl, hrow, hlen⟩, hb1⟩
      obtain ⟨a, cap, rfl, hcap, ht⟩ := own_tks hrow (by omega)
      rw [hm9] at hlen hcap ht
      rw [hm9]
      clear hm9
      have EW := Lib.hid (HE.out.below hb1)
      have HB1 := Lib.hid hb1
      have HTK := Lib.hid ht
      clear hb1 HT hrow ht
      go_wp2_with fail
      refine (HL.out _ EW.out).mono ?_
      rintro e W2 ⟨rfl, hb2⟩
      have HB2 := Lib.hid (HB1.out.trans (hb2.mono HB1.out.size))
      have HT2 := Lib.hid (HTK.out.below hb2)
      clear hb2 EW HB1 HL HTK
      go_wp2_with fail
      go_loopw [6, 7] (fun en i wr => ∃ (k : Nat) (z : Int), k ≤ m ∧ 0 ≤ z ∧ i = .int .i64 k ∧ en = .int .i64 z ∧ Hid (Placed s z (L.drop k)) ∧ Hid (Below W2.heap.size W2 wr)) (fun _ i _ => m - (intOf i).toNat)
      case atStart => exact ⟨0, 0, by omega, by omega, rfl, rfl, HPL.out, Below.refl _ _⟩
      case round =>
        obtain ⟨k, z, hk, hz0, rfl, rfl, HPK, HBR⟩ := hrel
        by_cases hlt : k < m
        · have hkI : (k : Int) < m := by omega
          obtain ⟨t, ht⟩ := getK (os := L) (k := k) (by have := HM.out; omega)
          obtain ⟨b, off, rfl, c0, c1, c2, c3, hbl⟩ := (HT2.out.below HBR.out).at ht
          have hpl := HPK.out
          rw [drop_cons ht] at hpl
          obtain ⟨p1, p2, p3, p4, p5⟩ := hpl
          obtain ⟨tk, tt, tn, ta⟩ := t
          have HB3 := Lib.hid (HBR.out.trans ((below1 wr (.cells #[.int .i64 tk, .string tt, .int .u64 tn, .int .i64 ta] 32)).mono HBR.out.size))
          have HP5 := Lib.hid p5
          clear HPK ht p5
          have p1 : z ≤ ta := p1
          have p2 : ta ≤ (s.size : Int) := p2
          have c0 : wr.cell? ⟨b, off + k * 4, none⟩ = some (.int .i64 tk) := c0
          have c1 : wr.cell? ⟨b, off + k * 4 + 1, none⟩ = some (.string tt) := c1
          have c2 : wr.cell? ⟨b, off + k * 4 + 2, none⟩ = some (.int .u64 tn) := c2
          have c3 : wr.cell? ⟨b, off + k * 4 + 3, none⟩ = some (.int .i64 ta) := c3
          obtain ⟨p, rfl⟩ : ∃ p : Nat, ta = (p : Int) := ⟨ta.toNat, by omega⟩
          have hd1 : decide ((p : Int) < z) = false := by simp; omega
          have hd2 : decide ((s.size : Int) < (p : Int)) = false := by simp; omega
          by_cases h6 : tk = 6
          · have hk6 : (tk == 6) = true := by simp [h6]
            have h3 : (p : Int) + 1 + (tt.size : Int) ≤ s.size := by have := p3; unfold at6 at this; simp only [if_pos h6] at this; omega
            have h4 : s.extract (p + 1) (p + 1 + tt.size) = tt := by
              have := p4
              unfold at6 at this
              simp only [if_pos h6] at this
              rw [show ((p : Int) + 1).toNat = p + 1 by omega, show ((p : Int) + 1 + (tt.size : Int)).toNat = p + 1 + tt.size by omega] at this
              exact this
            have HP6 : Hid (Placed s ((p : Int) + 1 + (tt.size : Int)) (L.drop (k + 1))) := by
              have := HP5.out
              unfold at6 at this
              simp only [if_pos h6] at this
              exact this
            have htn : ((p : Int) + 1 + (tt.size : Int)).toNat = p + 1 + tt.size := by omega
            have hd3 : decide ((s.size : Int) < (p : Int) + 1 + (tt.size : Int)) = false := by simp; omega
            have hw1 : IntKind.i64.wrap ((p : Int) + 1 + (tt.size : Int)) = (p : Int) + 1 + (tt.size : Int) := by simp [IntKind.wrap, IntKind.bits, IntKind.signed]; omega
            have hle1 : (p : Int) + 1 ≤ (p : Int) + 1 + (tt.size : Int) := by omega
            have hz1 : 0 ≤ (p : Int) + 1 + (tt.size : Int) := by omega
            have hw2 : IntKind.i64.wrap ((p : Int) + 1) = (p : Int) + 1 := by simp [IntKind.wrap, IntKind.bits, IntKind.signed]; omega
            have hz2 : (0 : Int) ≤ (p : Int) + 1 := by omega
            have htn1 : ((p : Int) + 1).toNat = p + 1 := by omega
            clear p3 p4 HP5
            subst h6
            go_wp2_with (go_quiet (fail))
            go_roundw
            case rel => exact ⟨k + 1, _, by omega, hz1, by go_num, rfl, HP6, below_drewN HB3.out _⟩
            case measure => simp [intOf]; omega
          · have hk6 : (tk == 6) = false := by simp [h6]
            have h3 : (p : Int) + (tt.size : Int) ≤ s.size := by have := p3; unfold at6 at this; simp only [if_neg h6] at this; omega
            have h4 : s.extract (p) (p + tt.size) = tt := by
              have := p4
              unfold at6 at this
              simp only [if_neg h6] at this
              rw [show ((p : Int)).toNat = p by omega, show ((p : Int) + (tt.size : Int)).toNat = p + tt.size by omega] at this
              exact this
            have HP6 : Hid (Placed s ((p : Int) + (tt.size : Int)) (L.drop (k + 1))) := by
              have := HP5.out
              unfold at6 at this
              simp only [if_neg h6] at this
              exact this
            have htn : ((p : Int) + (tt.size : Int)).toNat = p + tt.size := by omega
            have hd3 : decide ((s.size : Int) < (p : Int) + (tt.size : Int)) = false := by simp; omega
            have hw1 : IntKind.i64.wrap ((p : Int) + (tt.size : Int)) = (p : Int) + (tt.size : Int) := by simp [IntKind.wrap, IntKind.bits, IntKind.signed]; omega
            have hle1 : (p : Int) ≤ (p : Int) + (tt.size : Int) := by omega
            have hz1 : 0 ≤ (p : Int) + (tt.size : Int) := by omega
            have hw2 : IntKind.i64.wrap ((p : Int) + 1) = (p : Int) + 1 := by simp [IntKind.wrap, IntKind.bits, IntKind.signed]; omega
            have hz2 : (0 : Int) ≤ (p : Int) + 1 := by omega
            have htn1 : ((p : Int) + 1).toNat = p + 1 := by omega
            clear p3 p4 HP5
            go_wp2_with (go_quiet (fail))
            go_roundw
            case rel => exact ⟨k + 1, _, by omega, hz1, by go_num, rfl, HP6, below_drewN HB3.out _⟩
            case measure => simp [intOf]; omega
        · obtain rfl : m = k := by omega
          obtain ⟨b, off, rfl, c0, c1, c2, c3, hbl⟩ := (HT2.out.below HBR.out).at HLAST.out
          have HB3 := Lib.hid (HB2.out.trans (HBR.out.mono HB2.out.size))
          clear HBR HT2 HLAST HPK
          go_wp2
          go_ret
          exact ⟨rfl, HB3.out⟩
  · go_enter Tryd.func5, Tryd.ntmps5
    go_wp2_with fail
    refine (tokens_long s (by omega) hm _).mono ?_
    rintro e W1 ⟨rfl, rfl⟩
    go_wp2_with fail
    refine (HL.out _ HE.out).mono ?_
    rintro e W2 ⟨rfl, hb2⟩
    have HB2 := Lib.hid hb2
    clear hb2 HL
    go_wp2
    go_ret
    exact ⟨rfl, HB2.out⟩
end Go.Proofs.YtajjffjnnjklnaaDoor
