/- LexBlanks: blanks ahead, behind, and a line of a comment change nothing but places. Conditions: the texts of at most 2^47 bytes; the library's two errors lie where the program's text lays them. -/
import Derived.Test.YtajjffjnnjklnaaDoorOC
namespace Go.Proofs.YtajjffjnnjklnaaDoor
open Go.Shelf Go.RowKit
/-- A comment that goes on. -/
def Com (t : ByteArray) : Prop := 0 < t.size ∧ byt t 0 = 35 ∧ ∀ j, j < t.size → byt t j ≠ 10
theorem com_snoc {t z : ByteArray} (h : Com t) (hz : z.size = 1) (h1 : byt z 0 ≠ 10) : Com (t ++ z) := by
  obtain ⟨a, b, c⟩ := h
  refine ⟨by rw [size_app]; omega, by rw [byt_l a]; exact b, fun j hj => ?_⟩
  rw [size_app] at hj
  by_cases q : j < t.size
  · rw [byt_l q]; exact c j q
  · rw [show j = t.size + 0 by omega, byt_r]; exact h1
theorem com_pre {t : ByteArray} (h : Com t) : Pre (t ++ ⟨#[10]⟩) := by
  obtain ⟨a, b, c⟩ := h
  have hz : (⟨#[10]⟩ : ByteArray).size = 1 := rfl
  refine ⟨by rw [byt_l a]; exact b, t.size, a, by rw [size_app]; omega, fun j hj => by rw [byt_l hj]; exact c j hj, ?_, fun j h1 h2 => by rw [size_app] at h2; omega⟩
  have := byt_r t ⟨#[10]⟩ 0
  rw [Nat.add_zero] at this
  rw [this]; decide
theorem pre_snoc {t z : ByteArray} (h : Pre t) (hz : z.size = 1) (h1 : isBlk (byt z 0) = true) : Pre (t ++ z) := by
  obtain ⟨a, i, b, c, d, e, f⟩ := h
  have hs := size_app t z
  refine ⟨by rw [byt_l (by omega)]; exact a, i, b, by omega, fun j hj => by rw [byt_l (by omega)]; exact d j hj, by rw [byt_l c]; exact e, fun j h2 h3 => ?_⟩
  by_cases q : j < t.size
  · rw [byt_l q]; exact f j h2 q
  · rw [show j = t.size + 0 by omega, byt_r]; exact h1
theorem app_asc (a b c : ByteArray) : (a ++ b) ++ c = a ++ (b ++ c) := by
  apply ByteArray.ext
  rw [data_app, data_app, data_app, data_app, Array.append_assoc]
def lit4 : ByteArray := ⟨#[32, 9, 13, 10]⟩
theorem lit4_ext {k : Nat} (h : k < 4) : (lit4.extract k (k + 1)).size = 1 ∧ isBlk (byt (lit4.extract k (k + 1)) 0) = true := by
  rcases (by omega : k = 0 ∨ k = 1 ∨ k = 2 ∨ k = 3) with rfl | rfl | rfl | rfl <;> exact ⟨by kernel_rfl, by kernel_rfl⟩
theorem ext_one {s : ByteArray} {k : Nat} (h : k < s.size) : (s.extract k (k + 1)).size = 1 ∧ byt (s.extract k (k + 1)) 0 = byt s k := by
  refine ⟨by rw [ByteArray.size_extract]; omega, ?_⟩
  rw [byt_x (by omega), Nat.add_zero]
/-- What Tokens tells of any text. -/
def Gen (s : ByteArray) (W : World) (a : Option Addr) (n cap : Nat) (e9 : Int) : Prop :=
  (4096 < s.size) ∨ (s.size ≤ 4096 ∧ e9 = 140 ∧ ∃ p, tokS s = (none, p)) ∨ (s.size ≤ 4096 ∧ e9 = 0 ∧ ∃ L p, tokS s = (some L, p) ∧ TKS W a n L ∧ n ≤ cap)
theorem tokens_gen (s : ByteArray) (hm : s.size ≤ maxLen) (w : World) (E : Errs w) :
    Calls Tryd.prog 7 #[.string s] w fun e w' => (∃ a n cap e9 p9, e = .returned (.tuple #[.slice a n cap, .int .i64 e9, .int .i64 p9]) ∧ Gen s w' a n cap e9) ∧ Below w.heap.size w w' := by
  by_cases hs : s.size ≤ 4096
  · refine (tokens_any s hs w E).mono ?_
    rintro e w' ⟨h, hb⟩
    refine ⟨?_, hb⟩
    obtain ⟨⟨o, p⟩, hr⟩ : ∃ r, tokS s = r := ⟨_, rfl⟩
    rw [hr] at h
    cases o with
    | none => exact ⟨_, _, _, _, _, h, .inr (.inl ⟨hs, rfl, p, hr⟩)⟩
    | some L =>
      obtain ⟨v, rfl, hrow, hl⟩ := h
      obtain ⟨a, cap, rfl, hc, ht⟩ := own_tks hrow (by omega)
      exact ⟨_, _, _, _, _, rfl, .inr (.inr ⟨hs, rfl, L, p, hr, ht, hc⟩)⟩
  · refine (tokens_long s (by omega) hm w).mono ?_
    rintro e w' ⟨rfl, rfl⟩
    exact ⟨⟨_, _, _, _, _, rfl, .inl (by omega)⟩, Below.refl _ _⟩
set_option maxRecDepth 20000 in
set_option maxHeartbeats 64000000 in
theorem blanks_law (s : ByteArray) (ahead : Int) (note : ByteArray) (hs : s.size ≤ 140737488351232) (_hn : note.size ≤ 140737488351232) (_ha : -9223372036854775808 ≤ ahead ∧ ahead ≤ 9223372036854775807) (w : World) (E : Errs w) :
    Calls Tryd.prog 4 #[.string s, .int .i64 ahead, .string note] w fun e w' => e = .returned (.bool true) ∧ Below w.heap.size w w' := by
  have HL : Hid (∀ W, Errs W → Calls Tryd.prog 8 #[] W fun e w' => e = .returned (.bool true) ∧ Below W.heap.size W w') := fun W E => lives_any W E
  have HE : Hid (Errs w) := E
  have HT := Lib.hid (fun W E => tokens_gen s (by unfold maxLen; omega) W E)
  clear E
  have hr : -7 ≤ ahead.tmod 8 ∧ ahead.tmod 8 ≤ 7 := by
    have h1 := Int.tmod_lt_of_pos ahead (show (0 : Int) < 8 by decide)
    have h2 := Int.lt_tmod_of_pos ahead (show (0 : Int) < 8 by decide)
    omega
  obtain ⟨r, hr0⟩ : ∃ r, ahead.tmod 8 = r := ⟨_, rfl⟩
  rw [hr0] at hr
  have hwr : IntKind.i64.wrap r = r := by simp [IntKind.wrap, IntKind.bits, IntKind.signed]; omega
  have hwn : IntKind.i64.wrap (-r) = -r := by simp [IntKind.wrap, IntKind.bits, IntKind.signed]; omega
  go_enter Tryd.func4, Tryd.ntmps4
  go_wp2_with fail
  refine (HT.out _ HE.out).mono ?_
  rintro e W1 ⟨⟨a, n, cap, e9, p9, rfl, hgen⟩, hb1⟩
  have EW1 := Lib.hid (HE.out.below hb1)
  have HB1 := Lib.hid hb1
  have HG1 := Lib.hid hgen
  clear hb1 hgen HT
  by_cases hneg : r < 0
  · obtain ⟨nn, hnn⟩ : ∃ nn : Nat, -r = (nn : Int) := ⟨(-r).toNat, by omega⟩
    have hnn7 : nn ≤ 7 := by omega
    rw [hnn] at hwn
    go_wp2_with fail
    refine (HL.out _ EW1.out).mono ?_
    rintro e W2 ⟨rfl, hb2⟩
    have EW2 := Lib.hid (EW1.out.below hb2)
    have HB2 := Lib.hid (HB1.out.trans (hb2.mono HB1.out.size))
    have HG := HG1
    have HBa := Lib.hid hb2
    clear hb2 HL EW1 HB1 HG1 hwr hwn hnn hneg hr0
    go_wp2_with fail
    go_loop [11, 12] (fun vt vi => ∃ (k : Nat) (t : ByteArray), k ≤ 100 ∧ vt = .string t ∧ vi = .int .i64 k ∧ t.size ≤ 1 + k ∧ Hid (Com t)) (fun _ vi => 100 - (intOf vi).toNat)
    case atStart => exact ⟨0, ⟨#[35]⟩, by omega, rfl, rfl, by decide, Lib.hid ⟨by decide, by decide, fun j hj => by
      have : j = 0 := by have : j < 1 := hj; omega
      subst this; decide⟩⟩
    case round =>
      obtain ⟨k, t, hk, rfl, rfl, hts, HCom⟩ := hrel
      by_cases h1 : k < note.size
      · have h1I : (k : Int) < (note.size : Int) := by omega
        by_cases h2 : k < 100
        · have h2I : (k : Int) < 100 := by omega
          have hc := byt_eq note k h1
          have HX := Lib.hid (ext_one h1)
          obtain ⟨c, hcc⟩ : ∃ c, byt note k = c := ⟨_, rfl⟩
          rw [hcc] at hc HX
          clear hcc
          by_cases h10 : c = 10
          · have hcI : (c != 10) = false := by simp [h10]
            clear HX h10
            go_wp2
            go_round
            case rel => exact ⟨k + 1, t, by omega, rfl, by go_num, by omega, HCom⟩
            case measure => simp [intOf]; omega
          · have hcI : (c != 10) = true := by simp [h10]
            have HC1 : Hid (Com (t ++ note.extract k (k + 1))) := Lib.hid (com_snoc HCom.out HX.out.1 (by rw [HX.out.2]; exact h10))
            have HZ1 : Hid ((t ++ note.extract k (k + 1)).size ≤ 1 + (k + 1)) := Lib.hid (by rw [size_app, HX.out.1]; omega)
            have hwk : IntKind.i64.wrap ((k : Int) + 1) = (k : Int) + 1 := by simp [IntKind.wrap, IntKind.bits, IntKind.signed]; omega
            have hk1 : (k : Int) + 1 ≤ (note.size : Int) := by omega
            have hkn : ((k : Int) + 1).toNat = k + 1 := by omega
            have hkk : (k : Int) ≤ (k : Int) + 1 := by omega
            have hk00 : (0 : Int) ≤ (k : Int) + 1 := by omega
            have hcq : ¬ 9223372036854775807 < t.size + (min (k + 1) note.size - k) := by omega
            clear HX HCom h10
            go_wp2
            go_round
            case rel => exact ⟨k + 1, _, by omega, rfl, by go_num, HZ1.out, HC1⟩
            case measure => simp [intOf]; omega
        · have h2I : ¬ (k : Int) < 100 := by omega
          have HP0 := Lib.hid (com_pre HCom.out)
          have hcs : ¬ 9223372036854775807 < t.size + 1 := by omega
          have hz2 : (t ++ ⟨#[10]⟩).size ≤ 110 := by rw [size_app]; show t.size + 1 ≤ 110; omega
          have HZ2 := Lib.hid hz2
          clear HCom hz2
          go_wp2_with fail
          go_loop [11, 13] (fun vt vi => ∃ (k : Nat) (t : ByteArray), k ≤ nn ∧ vt = .string t ∧ vi = .int .i64 k ∧ t.size ≤ 110 + k ∧ Hid (Pre t)) (fun _ vi => nn - (intOf vi).toNat)
          case atStart => exact ⟨0, _, Nat.zero_le _, rfl, rfl, HZ2.out, HP0⟩
          case round =>
            clear h1 h1I h2 h2I hk hts hcs
            obtain ⟨k, t, hk, rfl, rfl, hts, HPre⟩ := hrel
            by_cases hlt : k < nn
            · have hltI : (k : Int) < (nn : Int) := by omega
              have htm : (k : Int).tmod 4 = ((k % 4 : Nat) : Int) := by rw [Int.tmod_eq_emod_of_nonneg (by omega)]; omega
              have hk4 : k % 4 < 4 := by omega
              have HL4 := Lib.hid (lit4_ext hk4)
              generalize k % 4 = q at *
              have hwq : IntKind.i64.wrap ((q : Int) + 1) = (q : Int) + 1 := by simp [IntKind.wrap, IntKind.bits, IntKind.signed]; omega
              have hwq0 : IntKind.i64.wrap (q : Int) = (q : Int) := by simp [IntKind.wrap, IntKind.bits, IntKind.signed]; omega
              have hq0 : (0 : Int) ≤ (q : Int) := by omega
              have hq1 : (q : Int) ≤ (q : Int) + 1 := by omega
              have hq2 : (q : Int) + 1 ≤ 4 := by omega
              have hqn : ((q : Int) + 1).toNat = q + 1 := by omega
              have hcq : ¬ 9223372036854775807 < t.size + (min (q + 1) 4 - q) := by omega
              have HP1 : Hid (Pre (t ++ lit4.extract q (q + 1))) := Lib.hid (pre_snoc HPre.out HL4.out.1 HL4.out.2)
              have HZ3 : Hid ((t ++ lit4.extract q (q + 1)).size ≤ 110 + (k + 1)) := Lib.hid (by rw [size_app, HL4.out.1]; omega)
              clear HPre HL4
              go_wp2
              go_round
              case rel => exact ⟨k + 1, _, by omega, rfl, by go_num, HZ3.out, HP1⟩
              case measure => simp [intOf]; omega
            · have hltI : ¬ (k : Int) < (nn : Int) := by omega
              have hbI : t.size ≤ 120 := by omega
              have htp : t.size ≤ 120 := hbI
              by_cases hbig : 4096 < t.size + s.size + 1
              · have hbigI : (4096 : Int) < (t.size : Int) + (s.size : Int) + 1 := by omega
                have hw1 : IntKind.i64.wrap ((t.size : Int) + (s.size : Int)) = (t.size : Int) + (s.size : Int) := by simp [IntKind.wrap, IntKind.bits, IntKind.signed]; omega
                have hw2 : IntKind.i64.wrap ((t.size : Int) + (s.size : Int) + 1) = (t.size : Int) + (s.size : Int) + 1 := by simp [IntKind.wrap, IntKind.bits, IntKind.signed]; omega
                clear HG hbig
                go_wp2
                go_ret
                exact ⟨rfl, HB2.out⟩
              have hbigI : ¬ (4096 : Int) < (t.size : Int) + (s.size : Int) + 1 := by omega
              have hw1 : IntKind.i64.wrap ((t.size : Int) + (s.size : Int)) = (t.size : Int) + (s.size : Int) := by simp [IntKind.wrap, IntKind.bits, IntKind.signed]; omega
              have hw2 : IntKind.i64.wrap ((t.size : Int) + (s.size : Int) + 1) = (t.size : Int) + (s.size : Int) + 1 := by simp [IntKind.wrap, IntKind.bits, IntKind.signed]; omega
              have hSim := toks_blank (s := s) HPre.out
              have hWs : (t ++ s ++ ⟨#[32]⟩) = t ++ (s ++ spc) := app_asc t s spc
              have hWz : (t ++ (s ++ spc)).size = t.size + (s.size + 1) := by rw [size_app, size_app]; rfl
              have HTW := Lib.hid (fun W E => tokens_any (t ++ (s ++ spc)) (by omega) W E)
              rw [← hWs] at HTW hSim
              have HWz := Lib.hid (show (t ++ s ++ ⟨#[32]⟩).size = t.size + s.size + 1 by rw [hWs]; omega)
              clear hWs hWz
              have hc1 : ¬ 9223372036854775807 < t.size + s.size := by omega
              have hc2 : ¬ 9223372036854775807 < t.size + s.size + 1 := by omega
              rcases HG.out with hG | ⟨_, rfl, p, hG⟩ | ⟨_, rfl, L, p, hG, hTK, hcapL⟩
              · exfalso; omega
              · rw [hG] at hSim
                have hSim : tokS (t ++ s ++ ⟨#[32]⟩) = (none, t.size + p) := hSim
                rw [hSim] at HTW
                clear hSim hG HG
                go_wp2_with fail
                refine (HTW.out _ EW2.out).mono ?_
                rintro e W3 ⟨hte, hb3⟩
                have hte : e = .returned (.tuple #[.slice none 0 0, .int .i64 140, .int .i64 ((t.size + p : Nat) : Int)]) := hte
                subst hte
                have HB3 := Lib.hid (HB2.out.trans (hb3.mono HB2.out.size))
                have hge : (t.size : Int) ≤ ((t.size + p : Nat) : Int) := by omega
                obtain ⟨tp, htp9⟩ : ∃ tp, t.size + p = tp := ⟨_, rfl⟩
                rw [htp9] at hge
                rw [htp9]
                clear hb3 HTW htp9
                go_wp2
                go_ret
                exact ⟨rfl, HB3.out⟩
              · rw [hG] at hSim
                obtain ⟨L', h1, h2⟩ := hSim
                rw [h1] at HTW
                rw [HWz.out] at HTW h2
                have HTK1 := Lib.hid hTK
                clear h1 hG HG hTK
                have HAL := Lib.hid h2.alike
                have hlenL := h2.alike.1
                rw [List.length_append] at hlenL
                have hlenL : L.length = L'.length + 1 := hlenL
                have hnL := HTK1.out.len
                have hnR : n ≤ 1000000 := HTK1.out.room
                clear h2
                go_wp2_with fail
                refine (HTW.out _ EW2.out).mono ?_
                rintro e W3 ⟨⟨v, rfl, hrow, hlen⟩, hb3⟩
                obtain ⟨a3, cap3, rfl, hcap3, htk3⟩ := own_tks hrow (by omega)
                have hl3 : (L' ++ [(⟨7, ⟨#[]⟩, 0, ((t.size + s.size + 1 : Nat) : Int)⟩ : Tk)]).length = n := by rw [List.length_append]; show L'.length + 1 = n; omega
                rw [hl3] at hcap3 htk3
                rw [hl3]
                have hlast : (L' ++ [(⟨7, ⟨#[]⟩, 0, ((t.size + s.size + 1 : Nat) : Int)⟩ : Tk)])[n - 1]? = some ⟨7, ⟨#[]⟩, 0, ((t.size + s.size + 1 : Nat) : Int)⟩ := by
                  rw [List.getElem?_append_right (by omega), show n - 1 - L'.length = 0 by omega]; rfl
                have HB3 := Lib.hid (HB2.out.trans (hb3.mono HB2.out.size))
                have HS := Lib.hid (fun W (hW : Below W3.heap.size W3 W) => same_any a a3 n cap cap3 L _ W ((HTK1.out.below ((HBa.out).trans (hb3.mono HBa.out.size))).below hW) (htk3.below hW) hcapL hcap3 HAL.out)
                have HT3 := Lib.hid htk3
                have HLA := Lib.hid hlast
                have hn1 : 1 ≤ n := by omega
                have hn1I : (1 : Int) ≤ (n : Int) := by omega
                clear hb3 HTW hrow htk3 hlast hl3 HAL
                go_wp2_with fail
                refine (HS.out _ (Below.refl _ _)).mono ?_
                rintro e W4 ⟨rfl, hb4⟩
                have HB4 := Lib.hid (HB3.out.trans (hb4.mono HB3.out.size))
                obtain ⟨b, off, rfl, c0, c1, c2, c3, hbl⟩ := (HT3.out.below hb4).at HLA.out
                have hq : (((t.size + s.size + 1 : Nat) : Int)) = (t.size : Int) + (s.size : Int) + 1 := by omega
                rw [hq] at c3
                clear hb4 HT3 HLA HS hq HB3
                go_wp2
                go_ret
                exact ⟨rfl, HB4.out⟩
      · have h1I : ¬ (k : Int) < (note.size : Int) := by omega
        have HP0 := Lib.hid (com_pre HCom.out)
        have hcs : ¬ 9223372036854775807 < t.size + 1 := by omega
        have hz2 : (t ++ ⟨#[10]⟩).size ≤ 110 := by rw [size_app]; show t.size + 1 ≤ 110; omega
        have HZ2 := Lib.hid hz2
        clear HCom hz2
        go_wp2_with fail
        go_loop [11, 13] (fun vt vi => ∃ (k : Nat) (t : ByteArray), k ≤ nn ∧ vt = .string t ∧ vi = .int .i64 k ∧ t.size ≤ 110 + k ∧ Hid (Pre t)) (fun _ vi => nn - (intOf vi).toNat)
        case atStart => exact ⟨0, _, Nat.zero_le _, rfl, rfl, HZ2.out, HP0⟩
        case round =>
          clear h1 h1I hk hts hcs
          obtain ⟨k, t, hk, rfl, rfl, hts, HPre⟩ := hrel
          by_cases hlt : k < nn
          · have hltI : (k : Int) < (nn : Int) := by omega
            have htm : (k : Int).tmod 4 = ((k % 4 : Nat) : Int) := by rw [Int.tmod_eq_emod_of_nonneg (by omega)]; omega
            have hk4 : k % 4 < 4 := by omega
            have HL4 := Lib.hid (lit4_ext hk4)
            generalize k % 4 = q at *
            have hwq : IntKind.i64.wrap ((q : Int) + 1) = (q : Int) + 1 := by simp [IntKind.wrap, IntKind.bits, IntKind.signed]; omega
            have hwq0 : IntKind.i64.wrap (q : Int) = (q : Int) := by simp [IntKind.wrap, IntKind.bits, IntKind.signed]; omega
            have hq0 : (0 : Int) ≤ (q : Int) := by omega
            have hq1 : (q : Int) ≤ (q : Int) + 1 := by omega
            have hq2 : (q : Int) + 1 ≤ 4 := by omega
            have hqn : ((q : Int) + 1).toNat = q + 1 := by omega
            have hcq : ¬ 9223372036854775807 < t.size + (min (q + 1) 4 - q) := by omega
            have HP1 : Hid (Pre (t ++ lit4.extract q (q + 1))) := Lib.hid (pre_snoc HPre.out HL4.out.1 HL4.out.2)
            have HZ3 : Hid ((t ++ lit4.extract q (q + 1)).size ≤ 110 + (k + 1)) := Lib.hid (by rw [size_app, HL4.out.1]; omega)
            clear HPre HL4
            go_wp2
            go_round
            case rel => exact ⟨k + 1, _, by omega, rfl, by go_num, HZ3.out, HP1⟩
            case measure => simp [intOf]; omega
          · have hltI : ¬ (k : Int) < (nn : Int) := by omega
            have hbI : t.size ≤ 120 := by omega
            have htp : t.size ≤ 120 := hbI
            by_cases hbig : 4096 < t.size + s.size + 1
            · have hbigI : (4096 : Int) < (t.size : Int) + (s.size : Int) + 1 := by omega
              have hw1 : IntKind.i64.wrap ((t.size : Int) + (s.size : Int)) = (t.size : Int) + (s.size : Int) := by simp [IntKind.wrap, IntKind.bits, IntKind.signed]; omega
              have hw2 : IntKind.i64.wrap ((t.size : Int) + (s.size : Int) + 1) = (t.size : Int) + (s.size : Int) + 1 := by simp [IntKind.wrap, IntKind.bits, IntKind.signed]; omega
              clear HG hbig
              go_wp2
              go_ret
              exact ⟨rfl, HB2.out⟩
            have hbigI : ¬ (4096 : Int) < (t.size : Int) + (s.size : Int) + 1 := by omega
            have hw1 : IntKind.i64.wrap ((t.size : Int) + (s.size : Int)) = (t.size : Int) + (s.size : Int) := by simp [IntKind.wrap, IntKind.bits, IntKind.signed]; omega
            have hw2 : IntKind.i64.wrap ((t.size : Int) + (s.size : Int) + 1) = (t.size : Int) + (s.size : Int) + 1 := by simp [IntKind.wrap, IntKind.bits, IntKind.signed]; omega
            have hSim := toks_blank (s := s) HPre.out
            have hWs : (t ++ s ++ ⟨#[32]⟩) = t ++ (s ++ spc) := app_asc t s spc
            have hWz : (t ++ (s ++ spc)).size = t.size + (s.size + 1) := by rw [size_app, size_app]; rfl
            have HTW := Lib.hid (fun W E => tokens_any (t ++ (s ++ spc)) (by omega) W E)
            rw [← hWs] at HTW hSim
            have HWz := Lib.hid (show (t ++ s ++ ⟨#[32]⟩).size = t.size + s.size + 1 by rw [hWs]; omega)
            clear hWs hWz
            have hc1 : ¬ 9223372036854775807 < t.size + s.size := by omega
            have hc2 : ¬ 9223372036854775807 < t.size + s.size + 1 := by omega
            rcases HG.out with hG | ⟨_, rfl, p, hG⟩ | ⟨_, rfl, L, p, hG, hTK, hcapL⟩
            · exfalso; omega
            · rw [hG] at hSim
              have hSim : tokS (t ++ s ++ ⟨#[32]⟩) = (none, t.size + p) := hSim
              rw [hSim] at HTW
              clear hSim hG HG
              go_wp2_with fail
              refine (HTW.out _ EW2.out).mono ?_
              rintro e W3 ⟨hte, hb3⟩
              have hte : e = .returned (.tuple #[.slice none 0 0, .int .i64 140, .int .i64 ((t.size + p : Nat) : Int)]) := hte
              subst hte
              have HB3 := Lib.hid (HB2.out.trans (hb3.mono HB2.out.size))
              have hge : (t.size : Int) ≤ ((t.size + p : Nat) : Int) := by omega
              obtain ⟨tp, htp9⟩ : ∃ tp, t.size + p = tp := ⟨_, rfl⟩
              rw [htp9] at hge
              rw [htp9]
              clear hb3 HTW htp9
              go_wp2
              go_ret
              exact ⟨rfl, HB3.out⟩
            · rw [hG] at hSim
              obtain ⟨L', h1, h2⟩ := hSim
              rw [h1] at HTW
              rw [HWz.out] at HTW h2
              have HTK1 := Lib.hid hTK
              clear h1 hG HG hTK
              have HAL := Lib.hid h2.alike
              have hlenL := h2.alike.1
              rw [List.length_append] at hlenL
              have hlenL : L.length = L'.length + 1 := hlenL
              have hnL := HTK1.out.len
              have hnR : n ≤ 1000000 := HTK1.out.room
              clear h2
              go_wp2_with fail
              refine (HTW.out _ EW2.out).mono ?_
              rintro e W3 ⟨⟨v, rfl, hrow, hlen⟩, hb3⟩
              obtain ⟨a3, cap3, rfl, hcap3, htk3⟩ := own_tks hrow (by omega)
              have hl3 : (L' ++ [(⟨7, ⟨#[]⟩, 0, ((t.size + s.size + 1 : Nat) : Int)⟩ : Tk)]).length = n := by rw [List.length_append]; show L'.length + 1 = n; omega
              rw [hl3] at hcap3 htk3
              rw [hl3]
              have hlast : (L' ++ [(⟨7, ⟨#[]⟩, 0, ((t.size + s.size + 1 : Nat) : Int)⟩ : Tk)])[n - 1]? = some ⟨7, ⟨#[]⟩, 0, ((t.size + s.size + 1 : Nat) : Int)⟩ := by
                rw [List.getElem?_append_right (by omega), show n - 1 - L'.length = 0 by omega]; rfl
              have HB3 := Lib.hid (HB2.out.trans (hb3.mono HB2.out.size))
              have HS := Lib.hid (fun W (hW : Below W3.heap.size W3 W) => same_any a a3 n cap cap3 L _ W ((HTK1.out.below ((HBa.out).trans (hb3.mono HBa.out.size))).below hW) (htk3.below hW) hcapL hcap3 HAL.out)
              have HT3 := Lib.hid htk3
              have HLA := Lib.hid hlast
              have hn1 : 1 ≤ n := by omega
              have hn1I : (1 : Int) ≤ (n : Int) := by omega
              clear hb3 HTW hrow htk3 hlast hl3 HAL
              go_wp2_with fail
              refine (HS.out _ (Below.refl _ _)).mono ?_
              rintro e W4 ⟨rfl, hb4⟩
              have HB4 := Lib.hid (HB3.out.trans (hb4.mono HB3.out.size))
              obtain ⟨b, off, rfl, c0, c1, c2, c3, hbl⟩ := (HT3.out.below hb4).at HLA.out
              have hq : (((t.size + s.size + 1 : Nat) : Int)) = (t.size : Int) + (s.size : Int) + 1 := by omega
              rw [hq] at c3
              clear hb4 HT3 HLA HS hq HB3
              go_wp2
              go_ret
              exact ⟨rfl, HB4.out⟩
  · obtain ⟨nn, rfl⟩ : ∃ nn : Nat, r = (nn : Int) := ⟨r.toNat, by omega⟩
    have hnn7 : nn ≤ 7 := by omega
    go_wp2_with fail
    refine (HL.out _ EW1.out).mono ?_
    rintro e W2 ⟨rfl, hb2⟩
    have EW2 := Lib.hid (EW1.out.below hb2)
    have HB2 := Lib.hid (HB1.out.trans (hb2.mono HB1.out.size))
    have HG := HG1
    have HBa := Lib.hid hb2
    clear hb2 HL EW1 HB1 HG1 hwr hwn hneg hr0
    go_wp2_with fail
    go_loop [11, 12] (fun vt vi => ∃ (k : Nat) (t : ByteArray), k ≤ 100 ∧ vt = .string t ∧ vi = .int .i64 k ∧ t.size ≤ 1 + k ∧ Hid (Com t)) (fun _ vi => 100 - (intOf vi).toNat)
    case atStart => exact ⟨0, ⟨#[35]⟩, by omega, rfl, rfl, by decide, Lib.hid ⟨by decide, by decide, fun j hj => by
      have : j = 0 := by have : j < 1 := hj; omega
      subst this; decide⟩⟩
    case round =>
      obtain ⟨k, t, hk, rfl, rfl, hts, HCom⟩ := hrel
      by_cases h1 : k < note.size
      · have h1I : (k : Int) < (note.size : Int) := by omega
        by_cases h2 : k < 100
        · have h2I : (k : Int) < 100 := by omega
          have hc := byt_eq note k h1
          have HX := Lib.hid (ext_one h1)
          obtain ⟨c, hcc⟩ : ∃ c, byt note k = c := ⟨_, rfl⟩
          rw [hcc] at hc HX
          clear hcc
          by_cases h10 : c = 10
          · have hcI : (c != 10) = false := by simp [h10]
            clear HX h10
            go_wp2
            go_round
            case rel => exact ⟨k + 1, t, by omega, rfl, by go_num, by omega, HCom⟩
            case measure => simp [intOf]; omega
          · have hcI : (c != 10) = true := by simp [h10]
            have HC1 : Hid (Com (t ++ note.extract k (k + 1))) := Lib.hid (com_snoc HCom.out HX.out.1 (by rw [HX.out.2]; exact h10))
            have HZ1 : Hid ((t ++ note.extract k (k + 1)).size ≤ 1 + (k + 1)) := Lib.hid (by rw [size_app, HX.out.1]; omega)
            have hwk : IntKind.i64.wrap ((k : Int) + 1) = (k : Int) + 1 := by simp [IntKind.wrap, IntKind.bits, IntKind.signed]; omega
            have hk1 : (k : Int) + 1 ≤ (note.size : Int) := by omega
            have hkn : ((k : Int) + 1).toNat = k + 1 := by omega
            have hkk : (k : Int) ≤ (k : Int) + 1 := by omega
            have hk00 : (0 : Int) ≤ (k : Int) + 1 := by omega
            have hcq : ¬ 9223372036854775807 < t.size + (min (k + 1) note.size - k) := by omega
            clear HX HCom h10
            go_wp2
            go_round
            case rel => exact ⟨k + 1, _, by omega, rfl, by go_num, HZ1.out, HC1⟩
            case measure => simp [intOf]; omega
        · have h2I : ¬ (k : Int) < 100 := by omega
          have HP0 := Lib.hid (com_pre HCom.out)
          have hcs : ¬ 9223372036854775807 < t.size + 1 := by omega
          have hz2 : (t ++ ⟨#[10]⟩).size ≤ 110 := by rw [size_app]; show t.size + 1 ≤ 110; omega
          have HZ2 := Lib.hid hz2
          clear HCom hz2
          go_wp2_with fail
          go_loop [11, 13] (fun vt vi => ∃ (k : Nat) (t : ByteArray), k ≤ nn ∧ vt = .string t ∧ vi = .int .i64 k ∧ t.size ≤ 110 + k ∧ Hid (Pre t)) (fun _ vi => nn - (intOf vi).toNat)
          case atStart => exact ⟨0, _, Nat.zero_le _, rfl, rfl, HZ2.out, HP0⟩
          case round =>
            clear h1 h1I h2 h2I hk hts hcs
            obtain ⟨k, t, hk, rfl, rfl, hts, HPre⟩ := hrel
            by_cases hlt : k < nn
            · have hltI : (k : Int) < (nn : Int) := by omega
              have htm : (k : Int).tmod 4 = ((k % 4 : Nat) : Int) := by rw [Int.tmod_eq_emod_of_nonneg (by omega)]; omega
              have hk4 : k % 4 < 4 := by omega
              have HL4 := Lib.hid (lit4_ext hk4)
              generalize k % 4 = q at *
              have hwq : IntKind.i64.wrap ((q : Int) + 1) = (q : Int) + 1 := by simp [IntKind.wrap, IntKind.bits, IntKind.signed]; omega
              have hwq0 : IntKind.i64.wrap (q : Int) = (q : Int) := by simp [IntKind.wrap, IntKind.bits, IntKind.signed]; omega
              have hq0 : (0 : Int) ≤ (q : Int) := by omega
              have hq1 : (q : Int) ≤ (q : Int) + 1 := by omega
              have hq2 : (q : Int) + 1 ≤ 4 := by omega
              have hqn : ((q : Int) + 1).toNat = q + 1 := by omega
              have hcq : ¬ 9223372036854775807 < t.size + (min (q + 1) 4 - q) := by omega
              have HP1 : Hid (Pre (t ++ lit4.extract q (q + 1))) := Lib.hid (pre_snoc HPre.out HL4.out.1 HL4.out.2)
              have HZ3 : Hid ((t ++ lit4.extract q (q + 1)).size ≤ 110 + (k + 1)) := Lib.hid (by rw [size_app, HL4.out.1]; omega)
              clear HPre HL4
              go_wp2
              go_round
              case rel => exact ⟨k + 1, _, by omega, rfl, by go_num, HZ3.out, HP1⟩
              case measure => simp [intOf]; omega
            · have hltI : ¬ (k : Int) < (nn : Int) := by omega
              have hbI : t.size ≤ 120 := by omega
              have htp : t.size ≤ 120 := hbI
              by_cases hbig : 4096 < t.size + s.size + 1
              · have hbigI : (4096 : Int) < (t.size : Int) + (s.size : Int) + 1 := by omega
                have hw1 : IntKind.i64.wrap ((t.size : Int) + (s.size : Int)) = (t.size : Int) + (s.size : Int) := by simp [IntKind.wrap, IntKind.bits, IntKind.signed]; omega
                have hw2 : IntKind.i64.wrap ((t.size : Int) + (s.size : Int) + 1) = (t.size : Int) + (s.size : Int) + 1 := by simp [IntKind.wrap, IntKind.bits, IntKind.signed]; omega
                clear HG hbig
                go_wp2
                go_ret
                exact ⟨rfl, HB2.out⟩
              have hbigI : ¬ (4096 : Int) < (t.size : Int) + (s.size : Int) + 1 := by omega
              have hw1 : IntKind.i64.wrap ((t.size : Int) + (s.size : Int)) = (t.size : Int) + (s.size : Int) := by simp [IntKind.wrap, IntKind.bits, IntKind.signed]; omega
              have hw2 : IntKind.i64.wrap ((t.size : Int) + (s.size : Int) + 1) = (t.size : Int) + (s.size : Int) + 1 := by simp [IntKind.wrap, IntKind.bits, IntKind.signed]; omega
              have hSim := toks_blank (s := s) HPre.out
              have hWs : (t ++ s ++ ⟨#[32]⟩) = t ++ (s ++ spc) := app_asc t s spc
              have hWz : (t ++ (s ++ spc)).size = t.size + (s.size + 1) := by rw [size_app, size_app]; rfl
              have HTW := Lib.hid (fun W E => tokens_any (t ++ (s ++ spc)) (by omega) W E)
              rw [← hWs] at HTW hSim
              have HWz := Lib.hid (show (t ++ s ++ ⟨#[32]⟩).size = t.size + s.size + 1 by rw [hWs]; omega)
              clear hWs hWz
              have hc1 : ¬ 9223372036854775807 < t.size + s.size := by omega
              have hc2 : ¬ 9223372036854775807 < t.size + s.size + 1 := by omega
              rcases HG.out with hG | ⟨_, rfl, p, hG⟩ | ⟨_, rfl, L, p, hG, hTK, hcapL⟩
              · exfalso; omega
              · rw [hG] at hSim
                have hSim : tokS (t ++ s ++ ⟨#[32]⟩) = (none, t.size + p) := hSim
                rw [hSim] at HTW
                clear hSim hG HG
                go_wp2_with fail
                refine (HTW.out _ EW2.out).mono ?_
                rintro e W3 ⟨hte, hb3⟩
                have hte : e = .returned (.tuple #[.slice none 0 0, .int .i64 140, .int .i64 ((t.size + p : Nat) : Int)]) := hte
                subst hte
                have HB3 := Lib.hid (HB2.out.trans (hb3.mono HB2.out.size))
                have hge : (t.size : Int) ≤ ((t.size + p : Nat) : Int) := by omega
                obtain ⟨tp, htp9⟩ : ∃ tp, t.size + p = tp := ⟨_, rfl⟩
                rw [htp9] at hge
                rw [htp9]
                clear hb3 HTW htp9
                go_wp2
                go_ret
                exact ⟨rfl, HB3.out⟩
              · rw [hG] at hSim
                obtain ⟨L', h1, h2⟩ := hSim
                rw [h1] at HTW
                rw [HWz.out] at HTW h2
                have HTK1 := Lib.hid hTK
                clear h1 hG HG hTK
                have HAL := Lib.hid h2.alike
                have hlenL := h2.alike.1
                rw [List.length_append] at hlenL
                have hlenL : L.length = L'.length + 1 := hlenL
                have hnL := HTK1.out.len
                have hnR : n ≤ 1000000 := HTK1.out.room
                clear h2
                go_wp2_with fail
                refine (HTW.out _ EW2.out).mono ?_
                rintro e W3 ⟨⟨v, rfl, hrow, hlen⟩, hb3⟩
                obtain ⟨a3, cap3, rfl, hcap3, htk3⟩ := own_tks hrow (by omega)
                have hl3 : (L' ++ [(⟨7, ⟨#[]⟩, 0, ((t.size + s.size + 1 : Nat) : Int)⟩ : Tk)]).length = n := by rw [List.length_append]; show L'.length + 1 = n; omega
                rw [hl3] at hcap3 htk3
                rw [hl3]
                have hlast : (L' ++ [(⟨7, ⟨#[]⟩, 0, ((t.size + s.size + 1 : Nat) : Int)⟩ : Tk)])[n - 1]? = some ⟨7, ⟨#[]⟩, 0, ((t.size + s.size + 1 : Nat) : Int)⟩ := by
                  rw [List.getElem?_append_right (by omega), show n - 1 - L'.length = 0 by omega]; rfl
                have HB3 := Lib.hid (HB2.out.trans (hb3.mono HB2.out.size))
                have HS := Lib.hid (fun W (hW : Below W3.heap.size W3 W) => same_any a a3 n cap cap3 L _ W ((HTK1.out.below ((HBa.out).trans (hb3.mono HBa.out.size))).below hW) (htk3.below hW) hcapL hcap3 HAL.out)
                have HT3 := Lib.hid htk3
                have HLA := Lib.hid hlast
                have hn1 : 1 ≤ n := by omega
                have hn1I : (1 : Int) ≤ (n : Int) := by omega
                clear hb3 HTW hrow htk3 hlast hl3 HAL
                go_wp2_with fail
                refine (HS.out _ (Below.refl _ _)).mono ?_
                rintro e W4 ⟨rfl, hb4⟩
                have HB4 := Lib.hid (HB3.out.trans (hb4.mono HB3.out.size))
                obtain ⟨b, off, rfl, c0, c1, c2, c3, hbl⟩ := (HT3.out.below hb4).at HLA.out
                have hq : (((t.size + s.size + 1 : Nat) : Int)) = (t.size : Int) + (s.size : Int) + 1 := by omega
                rw [hq] at c3
                clear hb4 HT3 HLA HS hq HB3
                go_wp2
                go_ret
                exact ⟨rfl, HB4.out⟩
      · have h1I : ¬ (k : Int) < (note.size : Int) := by omega
        have HP0 := Lib.hid (com_pre HCom.out)
        have hcs : ¬ 9223372036854775807 < t.size + 1 := by omega
        have hz2 : (t ++ ⟨#[10]⟩).size ≤ 110 := by rw [size_app]; show t.size + 1 ≤ 110; omega
        have HZ2 := Lib.hid hz2
        clear HCom hz2
        go_wp2_with fail
        go_loop [11, 13] (fun vt vi => ∃ (k : Nat) (t : ByteArray), k ≤ nn ∧ vt = .string t ∧ vi = .int .i64 k ∧ t.size ≤ 110 + k ∧ Hid (Pre t)) (fun _ vi => nn - (intOf vi).toNat)
        case atStart => exact ⟨0, _, Nat.zero_le _, rfl, rfl, HZ2.out, HP0⟩
        case round =>
          clear h1 h1I hk hts hcs
          obtain ⟨k, t, hk, rfl, rfl, hts, HPre⟩ := hrel
          by_cases hlt : k < nn
          · have hltI : (k : Int) < (nn : Int) := by omega
            have htm : (k : Int).tmod 4 = ((k % 4 : Nat) : Int) := by rw [Int.tmod_eq_emod_of_nonneg (by omega)]; omega
            have hk4 : k % 4 < 4 := by omega
            have HL4 := Lib.hid (lit4_ext hk4)
            generalize k % 4 = q at *
            have hwq : IntKind.i64.wrap ((q : Int) + 1) = (q : Int) + 1 := by simp [IntKind.wrap, IntKind.bits, IntKind.signed]; omega
            have hwq0 : IntKind.i64.wrap (q : Int) = (q : Int) := by simp [IntKind.wrap, IntKind.bits, IntKind.signed]; omega
            have hq0 : (0 : Int) ≤ (q : Int) := by omega
            have hq1 : (q : Int) ≤ (q : Int) + 1 := by omega
            have hq2 : (q : Int) + 1 ≤ 4 := by omega
            have hqn : ((q : Int) + 1).toNat = q + 1 := by omega
            have hcq : ¬ 9223372036854775807 < t.size + (min (q + 1) 4 - q) := by omega
            have HP1 : Hid (Pre (t ++ lit4.extract q (q + 1))) := Lib.hid (pre_snoc HPre.out HL4.out.1 HL4.out.2)
            have HZ3 : Hid ((t ++ lit4.extract q (q + 1)).size ≤ 110 + (k + 1)) := Lib.hid (by rw [size_app, HL4.out.1]; omega)
            clear HPre HL4
            go_wp2
            go_round
            case rel => exact ⟨k + 1, _, by omega, rfl, by go_num, HZ3.out, HP1⟩
            case measure => simp [intOf]; omega
          · have hltI : ¬ (k : Int) < (nn : Int) := by omega
            have hbI : t.size ≤ 120 := by omega
            have htp : t.size ≤ 120 := hbI
            by_cases hbig : 4096 < t.size + s.size + 1
            · have hbigI : (4096 : Int) < (t.size : Int) + (s.size : Int) + 1 := by omega
              have hw1 : IntKind.i64.wrap ((t.size : Int) + (s.size : Int)) = (t.size : Int) + (s.size : Int) := by simp [IntKind.wrap, IntKind.bits, IntKind.signed]; omega
              have hw2 : IntKind.i64.wrap ((t.size : Int) + (s.size : Int) + 1) = (t.size : Int) + (s.size : Int) + 1 := by simp [IntKind.wrap, IntKind.bits, IntKind.signed]; omega
              clear HG hbig
              go_wp2
              go_ret
              exact ⟨rfl, HB2.out⟩
            have hbigI : ¬ (4096 : Int) < (t.size : Int) + (s.size : Int) + 1 := by omega
            have hw1 : IntKind.i64.wrap ((t.size : Int) + (s.size : Int)) = (t.size : Int) + (s.size : Int) := by simp [IntKind.wrap, IntKind.bits, IntKind.signed]; omega
            have hw2 : IntKind.i64.wrap ((t.size : Int) + (s.size : Int) + 1) = (t.size : Int) + (s.size : Int) + 1 := by simp [IntKind.wrap, IntKind.bits, IntKind.signed]; omega
            have hSim := toks_blank (s := s) HPre.out
            have hWs : (t ++ s ++ ⟨#[32]⟩) = t ++ (s ++ spc) := app_asc t s spc
            have hWz : (t ++ (s ++ spc)).size = t.size + (s.size + 1) := by rw [size_app, size_app]; rfl
            have HTW := Lib.hid (fun W E => tokens_any (t ++ (s ++ spc)) (by omega) W E)
            rw [← hWs] at HTW hSim
            have HWz := Lib.hid (show (t ++ s ++ ⟨#[32]⟩).size = t.size + s.size + 1 by rw [hWs]; omega)
            clear hWs hWz
            have hc1 : ¬ 9223372036854775807 < t.size + s.size := by omega
            have hc2 : ¬ 9223372036854775807 < t.size + s.size + 1 := by omega
            rcases HG.out with hG | ⟨_, rfl, p, hG⟩ | ⟨_, rfl, L, p, hG, hTK, hcapL⟩
            · exfalso; omega
            · rw [hG] at hSim
              have hSim : tokS (t ++ s ++ ⟨#[32]⟩) = (none, t.size + p) := hSim
              rw [hSim] at HTW
              clear hSim hG HG
              go_wp2_with fail
              refine (HTW.out _ EW2.out).mono ?_
              rintro e W3 ⟨hte, hb3⟩
              have hte : e = .returned (.tuple #[.slice none 0 0, .int .i64 140, .int .i64 ((t.size + p : Nat) : Int)]) := hte
              subst hte
              have HB3 := Lib.hid (HB2.out.trans (hb3.mono HB2.out.size))
              have hge : (t.size : Int) ≤ ((t.size + p : Nat) : Int) := by omega
              obtain ⟨tp, htp9⟩ : ∃ tp, t.size + p = tp := ⟨_, rfl⟩
              rw [htp9] at hge
              rw [htp9]
              clear hb3 HTW htp9
              go_wp2
              go_ret
              exact ⟨rfl, HB3.out⟩
            · rw [hG] at hSim
              obtain ⟨L', h1, h2⟩ := hSim
              rw [h1] at HTW
              rw [HWz.out] at HTW h2
              have HTK1 := Lib.hid hTK
              clear h1 hG HG hTK
              have HAL := Lib.hid h2.alike
              have hlenL := h2.alike.1
              rw [List.length_append] at hlenL
              have hlenL : L.length = L'.length + 1 := hlenL
              have hnL := HTK1.out.len
              have hnR : n ≤ 1000000 := HTK1.out.room
              clear h2
              go_wp2_with fail
              refine (HTW.out _ EW2.out).mono ?_
              rintro e W3 ⟨⟨v, rfl, hrow, hlen⟩, hb3⟩
              obtain ⟨a3, cap3, rfl, hcap3, htk3⟩ := own_tks hrow (by omega)
              have hl3 : (L' ++ [(⟨7, ⟨#[]⟩, 0, ((t.size + s.size + 1 : Nat) : Int)⟩ : Tk)]).length = n := by rw [List.length_append]; show L'.length + 1 = n; omega
              rw [hl3] at hcap3 htk3
              rw [hl3]
              have hlast : (L' ++ [(⟨7, ⟨#[]⟩, 0, ((t.size + s.size + 1 : Nat) : Int)⟩ : Tk)])[n - 1]? = some ⟨7, ⟨#[]⟩, 0, ((t.size + s.size + 1 : Nat) : Int)⟩ := by
                rw [List.getElem?_append_right (by omega), show n - 1 - L'.length = 0 by omega]; rfl
              have HB3 := Lib.hid (HB2.out.trans (hb3.mono HB2.out.size))
              have HS := Lib.hid (fun W (hW : Below W3.heap.size W3 W) => same_any a a3 n cap cap3 L _ W ((HTK1.out.below ((HBa.out).trans (hb3.mono HBa.out.size))).below hW) (htk3.below hW) hcapL hcap3 HAL.out)
              have HT3 := Lib.hid htk3
              have HLA := Lib.hid hlast
              have hn1 : 1 ≤ n := by omega
              have hn1I : (1 : Int) ≤ (n : Int) := by omega
              clear hb3 HTW hrow htk3 hlast hl3 HAL
              go_wp2_with fail
              refine (HS.out _ (Below.refl _ _)).mono ?_
              rintro e W4 ⟨rfl, hb4⟩
              have HB4 := Lib.hid (HB3.out.trans (hb4.mono HB3.out.size))
              obtain ⟨b, off, rfl, c0, c1, c2, c3, hbl⟩ := (HT3.out.below hb4).at HLA.out
              have hq : (((t.size + s.size + 1 : Nat) : Int)) = (t.size : Int) + (s.size : Int) + 1 := by omega
              rw [hq] at c3
              clear hb4 HT3 HLA HS hq HB3
              go_wp2
              go_ret
              exact ⟨rfl, HB4.out⟩
end Go.Proofs.YtajjffjnnjklnaaDoor
