/- LexNumbers: numbers and addresses, written as the law writes them, have their values. Conditions: the library's two errors lie where the program's text lays them. -/
import Derived.Test.YtajjffjnnjklnaaDoorNB
import Derived.Test.YtajjffjnnjklnaaDoorLS
namespace Go.Proofs.YtajjffjnnjklnaaDoor
open Go.Shelf Go.RowKit
theorem decT_len (x : Nat) : ∀ k, x < 10 ^ (k + 1) → (decT x).length ≤ k + 1 := by
  induction x using Nat.strongRecOn with
  | _ x ih =>
    intro k hk
    by_cases h : x < 10
    · rw [decT_lt h]; simp
    · rw [decT_ge h, List.length_append]
      cases k with
      | zero => simp at hk; omega
      | succ k =>
        have := ih (x / 10) (by omega) k (by rw [Nat.pow_succ] at hk; omega)
        simp; omega
theorem refAddr_any (ip : Int) (hip : 0 ≤ ip ∧ ip ≤ 4294967295) (w : World) :
    Calls Tryd.prog 12 #[.int .u32 ip] w fun e w' => e = .returned (.string (strOfNums (addrText ip))) ∧ Below w.heap.size w w' := by
  go_enter Tryd.func12, Tryd.ntmps12
  go_wp2_with fail
  refine (raddrText_any ip hip _).mono ?_
  rintro e W ⟨rfl, hb⟩
  go_wp2
  go_ret
  exact ⟨rfl, hb⟩
theorem refMac_any (mac : Int) (hm : 0 ≤ mac ∧ mac ≤ 18446744073709551615) (w : World) :
    Calls Tryd.prog 13 #[.int .u64 mac] w fun e w' => e = .returned (.string (strOfNums (macText mac))) ∧ Below w.heap.size w w' := by
  go_enter Tryd.func13, Tryd.ntmps13
  go_wp2_with fail
  refine (rmacText_any mac hm _).mono ?_
  rintro e W ⟨rfl, hb⟩
  go_wp2
  go_ret
  exact ⟨rfl, hb⟩
def lit16 : ByteArray := ⟨#[48, 49, 50, 51, 52, 53, 54, 55, 56, 57, 97, 98, 99, 100, 101, 102]⟩
theorem lit_ext {k : Nat} (h : k < 16) : lit16.extract k (k + 1) = strOfNums [hx (k : Int)] := by
  rcases (by omega : k = 0 ∨ k = 1 ∨ k = 2 ∨ k = 3 ∨ k = 4 ∨ k = 5 ∨ k = 6 ∨ k = 7 ∨ k = 8 ∨ k = 9 ∨ k = 10 ∨ k = 11 ∨ k = 12 ∨ k = 13 ∨ k = 14 ∨ k = 15) with rfl | rfl | rfl | rfl | rfl | rfl | rfl | rfl | rfl | rfl | rfl | rfl | rfl | rfl | rfl | rfl <;> kernel_rfl
theorem hx_dec {k : Nat} (h : k < 10) : hx (k : Int) = 48 + (k : Int) := by
  rcases (by omega : k = 0 ∨ k = 1 ∨ k = 2 ∨ k = 3 ∨ k = 4 ∨ k = 5 ∨ k = 6 ∨ k = 7 ∨ k = 8 ∨ k = 9) with rfl | rfl | rfl | rfl | rfl | rfl | rfl | rfl | rfl | rfl <;> decide
theorem dec_next {m : Nat} (h : ¬ m < 10) (s : ByteArray) : strOfNums (decT (m / 10)) ++ (lit16.extract (m % 10) (m % 10 + 1) ++ s) = strOfNums (decT m) ++ s := by
  rw [decT_ge h, ← str_app, lit_ext (by omega), hx_dec (by omega), app_assoc]
theorem dec_last {m : Nat} (h : m < 10) (s : ByteArray) : lit16.extract (m % 10) (m % 10 + 1) ++ s = strOfNums (decT m) ++ s := by
  rw [decT_lt h, Nat.mod_eq_of_lt h, lit_ext (by omega), hx_dec h]
theorem hex_next {m : Nat} (h : ¬ m < 16) (s : ByteArray) : strOfNums (hexT (m / 16)) ++ (lit16.extract (m % 16) (m % 16 + 1) ++ s) = strOfNums (hexT m) ++ s := by
  rw [hexT_ge h, ← str_app, lit_ext (by omega), app_assoc]
theorem hex_last {m : Nat} (h : m < 16) (s : ByteArray) : lit16.extract (m % 16) (m % 16 + 1) ++ s = strOfNums (hexT m) ++ s := by
  rw [hexT_lt h, Nat.mod_eq_of_lt h, lit_ext h]
/-- What the law wants behind its two loops. -/
def Ready (n ip mac : Int) (D H A M : ByteArray) : Prop := ∃ a0 a1 a2 a3 a4 a5 a6 : Int, ∀ W, Errs W → Calls Tryd.prog 7 #[.string (((((D ++ ⟨#[32, 48, 120]⟩ ++ H) ++ ⟨#[47]⟩) ++ A) ++ ⟨#[44]⟩) ++ M)] W fun e w' => TokAns W w' (some [⟨2, D, n, a0⟩, ⟨2, ⟨#[48, 120]⟩ ++ H, n, a1⟩, ⟨5, ⟨#[47]⟩, 0, a2⟩, ⟨4, A, ip, a3⟩, ⟨5, ⟨#[44]⟩, 0, a4⟩, ⟨3, M, mac % 281474976710656, a5⟩, ⟨7, ⟨#[]⟩, 0, a6⟩], 0) e ∧ Below W.heap.size W w'
theorem ready (n : Nat) (hn : n ≤ 18446744073709551615) (ip : Int) (hip : 0 ≤ ip ∧ ip ≤ 4294967295) (mac : Int) : Ready n ip mac (strOfNums (decT n)) (strOfNums (hexT n)) (strOfNums (addrText ip)) (strOfNums (macText mac)) := by
  obtain ⟨a0, a1, a2, a3, a4, a5, a6, ht⟩ := toks_six (own_dec hn) (own_hexT hn) (own_addrT hip) (own_macT mac)
  refine ⟨a0, a1, a2, a3, a4, a5, a6, fun W E => ?_⟩
  have hJ : (((((strOfNums (decT n) ++ ⟨#[32, 48, 120]⟩ ++ strOfNums (hexT n)) ++ ⟨#[47]⟩) ++ strOfNums (addrText ip)) ++ ⟨#[44]⟩) ++ strOfNums (macText mac)) = strOfNums (decT n) ++ (spc ++ (ox ++ strOfNums (hexT n) ++ (sla ++ (strOfNums (addrText ip) ++ (com ++ strOfNums (macText mac)))))) := by
    rw [show (⟨#[32, 48, 120]⟩ : ByteArray) = spc ++ ox from by kernel_rfl]
    simp only [app_assoc]
    rfl
  have hsz : (strOfNums (decT n) ++ (spc ++ (ox ++ strOfNums (hexT n) ++ (sla ++ (strOfNums (addrText ip) ++ (com ++ strOfNums (macText mac))))))).size ≤ 4096 := by
    have d1 := decT_len n 19 (by rw [show (10 : Nat) ^ (19 + 1) = 100000000000000000000 by decide]; omega)
    have d2 := hexT_len n 15 (by rw [show (16 : Nat) ^ (15 + 1) = 18446744073709551616 by decide]; omega)
    have h1 := fun v => decs_len v
    have e1 : spc.size = 1 := rfl
    have e2 : sla.size = 1 := rfl
    have e3 : com.size = 1 := rfl
    have e4 : ox.size = 2 := rfl
    have a := h1 (ip / 16777216 % 256); have b := h1 (ip / 65536 % 256); have c := h1 (ip / 256 % 256); have d := h1 (ip / 1 % 256)
    have m1 := text_len mac
    simp only [size_app, strOfNums_size, e1, e2, e3, e4, m1]
    unfold addrText
    simp only [List.length_append, List.length_singleton]
    omega
  have h := tokens_any _ hsz W E
  rw [ht] at h
  rw [hJ]
  exact h
set_option maxRecDepth 20000 in
set_option maxHeartbeats 16000000 in
theorem numbers_any (n : Nat) (hn : n ≤ 18446744073709551615) (ip : Int) (hip : 0 ≤ ip ∧ ip ≤ 4294967295) (mac : Int) (hm : 0 ≤ mac ∧ mac ≤ 18446744073709551615) (w : World) (E : Errs w) :
    Calls Tryd.prog 6 #[.int .u64 (n : Nat), .int .u32 ip, .int .u64 mac] w fun e w' => e = .returned (.bool true) ∧ Below w.heap.size w w' := by
  have HL : Hid (∀ W, Errs W → Calls Tryd.prog 8 #[] W fun e w' => e = .returned (.bool true) ∧ Below W.heap.size W w') := fun W E => lives_any W E
  have HE : Hid (Errs w) := E
  have HAD := Lib.hid (fun W => refAddr_any ip hip W)
  have HMA := Lib.hid (fun W => refMac_any mac hm W)
  have HRD := Lib.hid (ready n hn ip hip mac)
  have hwi : IntKind.u64.wrap ip = ip := by rw [IntKind.wrap_u64]; omega
  have hmm : mac.tmod 281474976710656 = mac % 281474976710656 := Int.tmod_eq_emod_of_nonneg hm.1
  have hwm : IntKind.u64.wrap (mac % 281474976710656) = mac % 281474976710656 := by rw [IntKind.wrap_u64]; omega
  clear E
  obtain ⟨D, hD⟩ : ∃ D, strOfNums (decT n) = D := ⟨_, rfl⟩
  obtain ⟨H, hH⟩ : ∃ H, strOfNums (hexT n) = H := ⟨_, rfl⟩
  obtain ⟨A, hA⟩ : ∃ A, strOfNums (addrText ip) = A := ⟨_, rfl⟩
  obtain ⟨M, hM⟩ : ∃ M, strOfNums (macText mac) = M := ⟨_, rfl⟩
  have HDS : Hid (D.size ≤ 100 ∧ H.size ≤ 100 ∧ A.size ≤ 100 ∧ M.size ≤ 100) := by
    have d1 := decT_len n 19 (by rw [show (10 : Nat) ^ (19 + 1) = 100000000000000000000 by decide]; omega)
    have d2 := hexT_len n 15 (by rw [show (16 : Nat) ^ (15 + 1) = 18446744073709551616 by decide]; omega)
    have h1 := fun v => decs_len v
    have a := h1 (ip / 16777216 % 256); have b := h1 (ip / 65536 % 256); have c := h1 (ip / 256 % 256); have d := h1 (ip / 1 % 256)
    have m1 := text_len mac
    show _ ∧ _
    rw [← hD, ← hH, ← hA, ← hM]
    simp only [strOfNums_size, m1]
    unfold addrText
    simp only [List.length_append, List.length_singleton]
    omega
  rw [hD, hH, hA, hM] at HRD
  rw [hA] at HAD
  rw [hM] at HMA
  have HD := Lib.hid hD
  have HH := Lib.hid hH
  clear hD hH hA hM
  go_enter Tryd.func6, Tryd.ntmps6
  go_wp2_with fail
  go_loop [7, 9] (fun vd vx => ∃ (m : Nat) (s : ByteArray), vd = .string s ∧ vx = .int .u64 (m : Nat) ∧ m ≤ n ∧ s.size ≤ 100 ∧ Hid (strOfNums (decT m) ++ s = D)) (fun _ vx => (intOf vx).toNat)
  case atStart => exact ⟨n, ⟨#[]⟩, rfl, rfl, Nat.le_refl _, Nat.zero_le _, Lib.hid (by rw [← HD.out]; exact app_nil _)⟩
  case round =>
    obtain ⟨m, s, rfl, rfl, hmn, hs9, HS⟩ := hrel
    have HN := Lib.hid (fun h => (dec_next (m := m) h s).trans HS.out)
    have HN2 := Lib.hid (fun h => (dec_last (m := m) h s).trans HS.out)
    have htm : (m : Int).tmod 10 = ((m % 10 : Nat) : Int) := by rw [Int.tmod_eq_emod_of_nonneg (by omega)]; omega
    have htq : (m : Int).tdiv 10 = ((m / 10 : Nat) : Int) := by rw [Int.tdiv_eq_ediv_of_nonneg (by omega)]; omega
    have hk : m % 10 < 10 := by omega
    have hqm : m / 10 ≤ m := by omega
    have hqm2 : ¬ m < 10 → m / 10 < m := by omega
    generalize m % 10 = k at *
    generalize m / 10 = p at *
    clear HS
    have hw1 : IntKind.u64.wrap (k : Int) = (k : Int) := by rw [IntKind.wrap_u64]; omega
    have hw2 : IntKind.u64.wrap ((k : Int) + 1) = (k : Int) + 1 := by rw [IntKind.wrap_u64]; omega
    have hw3 : IntKind.u64.wrap (p : Int) = (p : Int) := by rw [IntKind.wrap_u64]; omega
    have hk0 : (0 : Int) ≤ (k : Int) := by omega
    have hk1 : (k : Int) ≤ (k : Int) + 1 := by omega
    have hk2 : (k : Int) + 1 ≤ 16 := by omega
    have htn : ((k : Int) + 1).toNat = k + 1 := by omega
    have hcc : ¬ 9223372036854775807 < min (k + 1) 16 - k + s.size := by omega
    have hsx : ∀ T, T ++ (lit16.extract k (k + 1) ++ s) = D → (lit16.extract k (k + 1) ++ s).size ≤ 100 := fun T hT => by
      have := congrArg ByteArray.size hT
      rw [size_app] at this
      have := HDS.out
      omega
    have HSX := Lib.hid hsx
    clear hsx
    by_cases h10 : m < 10
    · have h10I : (m : Int) < 10 := by omega
      have HX : Hid (lit16.extract k (k + 1) ++ s = D) := Lib.hid (HN2.out h10)
      clear HN HN2
      go_wp2_with fail
      go_loop [8, 10] (fun vd vx => ∃ (m : Nat) (s : ByteArray), vd = .string s ∧ vx = .int .u64 (m : Nat) ∧ m ≤ n ∧ s.size ≤ 100 ∧ Hid (strOfNums (hexT m) ++ s = H)) (fun _ vx => (intOf vx).toNat)
      case atStart => exact ⟨n, ⟨#[]⟩, rfl, rfl, Nat.le_refl _, Nat.zero_le _, Lib.hid (by rw [← HH.out]; exact app_nil _)⟩
      case round =>
        clear htm htq hk hqm hqm2 hw1 hw2 hw3 hk0 hk1 hk2 htn hcc h10 h10I hmn hs9
        obtain ⟨m2, s2, rfl, rfl, hmn, hs9, HS⟩ := hrel
        have HN := Lib.hid (fun h => (hex_next (m := m2) h s2).trans HS.out)
        have HN2 := Lib.hid (fun h => (hex_last (m := m2) h s2).trans HS.out)
        have htm : (m2 : Int).tmod 16 = ((m2 % 16 : Nat) : Int) := by rw [Int.tmod_eq_emod_of_nonneg (by omega)]; omega
        have htq : (m2 : Int).tdiv 16 = ((m2 / 16 : Nat) : Int) := by rw [Int.tdiv_eq_ediv_of_nonneg (by omega)]; omega
        have hk : m2 % 16 < 16 := by omega
        have hqm : m2 / 16 ≤ m2 := by omega
        have hqm2 : ¬ m2 < 16 → m2 / 16 < m2 := by omega
        generalize m2 % 16 = k2 at *
        generalize m2 / 16 = p2 at *
        clear HS
        have hw1 : IntKind.u64.wrap (k2 : Int) = (k2 : Int) := by rw [IntKind.wrap_u64]; omega
        have hw2 : IntKind.u64.wrap ((k2 : Int) + 1) = (k2 : Int) + 1 := by rw [IntKind.wrap_u64]; omega
        have hw3 : IntKind.u64.wrap (p2 : Int) = (p2 : Int) := by rw [IntKind.wrap_u64]; omega
        have hk0 : (0 : Int) ≤ (k2 : Int) := by omega
        have hk1 : (k2 : Int) ≤ (k2 : Int) + 1 := by omega
        have hk2 : (k2 : Int) + 1 ≤ 16 := by omega
        have htn : ((k2 : Int) + 1).toNat = k2 + 1 := by omega
        have hcc : ¬ 9223372036854775807 < min (k2 + 1) 16 - k2 + s2.size := by omega
        have hsx : ∀ T, T ++ (lit16.extract k2 (k2 + 1) ++ s2) = H → (lit16.extract k2 (k2 + 1) ++ s2).size ≤ 100 := fun T hT => by
          have := congrArg ByteArray.size hT
          rw [size_app] at this
          have := HDS.out
          omega
        have HSX := Lib.hid hsx
        clear hsx
        by_cases h16 : m2 < 16
        · have h16I : (m2 : Int) < 16 := by omega
          have HX2 : Hid (lit16.extract k2 (k2 + 1) ++ s2 = H) := Lib.hid (HN2.out h16)
          have HXa : ({ data := #[48, 49, 50, 51, 52, 53, 54, 55, 56, 57, 97, 98, 99, 100, 101, 102] } : ByteArray).extract k (k + 1) ++ s = D := HX.out
          have HXb : ({ data := #[48, 49, 50, 51, 52, 53, 54, 55, 56, 57, 97, 98, 99, 100, 101, 102] } : ByteArray).extract k2 (k2 + 1) ++ s2 = H := HX2.out
          obtain ⟨d1, d2, d3, d4⟩ := HDS.out
          clear HN HN2 HSX hqm2
          go_wp2_with fail
          refine (HAD.out _).mono ?_
          rintro e W1 ⟨rfl, hb1⟩
          have E1 := HE.out.below hb1
          go_wp2_with fail
          refine (HMA.out _).mono ?_
          rintro e W2 ⟨rfl, hb2⟩
          have HB2 := Lib.hid (hb1.trans (hb2.mono hb1.size))
          have EW2 := Lib.hid (E1.below hb2)
          obtain ⟨a0, a1, a2, a3, a4, a5, a6, ht⟩ := HRD.out
          have HT := Lib.hid ht
          clear hb1 hb2 E1 HRD ht HAD HMA
          go_wp2_with fail
          refine (HT.out _ EW2.out).mono ?_
          rintro e W3 ⟨⟨v, rfl, hrow, _⟩, hb3⟩
          obtain ⟨a, cap, rfl, hcap, htk⟩ := own_tks hrow (by show 7 ≤ 1000000; decide)
          have HB3 := Lib.hid (HB2.out.trans (hb3.mono HB2.out.size))
          have EW3 := Lib.hid (EW2.out.below hb3)
          have HTK := Lib.hid htk
          have hcap : 7 ≤ cap := hcap
          clear hrow hb3 HB2 EW2 HT htk
          simp only [List.length_cons, List.length_nil, Nat.zero_add, Nat.reduceAdd]
          go_wp2_with fail
          refine (HL.out _ EW3.out).mono ?_
          rintro e W4 ⟨rfl, hb4⟩
          have HB4 := Lib.hid (HB3.out.trans (hb4.mono HB3.out.size))
          have ht4 := HTK.out.below hb4
          obtain ⟨b, off, rfl, c0, c1, c2, c3, hbl⟩ := ht4.at (k := 0) rfl
          obtain ⟨b', off', e', d0, d1', d2', d3', _⟩ := ht4.at (k := 1) rfl
          cases e'
          obtain ⟨b', off', e', f0, f1, f2, f3, _⟩ := ht4.at (k := 3) rfl
          cases e'
          obtain ⟨b', off', e', g0, g1, g2, g3, _⟩ := ht4.at (k := 5) rfl
          cases e'
          clear hb4 ht4 HTK EW3 HB3 HL
          simp only [Nat.reduceMul, Nat.add_assoc, Nat.reduceAdd, Nat.add_zero, Nat.zero_mul] at c0 c1 c2 c3 d0 d1' d2' d3' f0 f1 f2 f3 g0 g1 g2 g3
          go_wp2
          go_ret
          exact ⟨rfl, HB4.out⟩
        · have h16I : ¬ (m2 : Int) < 16 := by omega
          have HX2 : Hid (strOfNums (hexT p2) ++ (lit16.extract k2 (k2 + 1) ++ s2) = H) := Lib.hid (HN.out h16)
          have hlt := hqm2 h16
          clear HN HN2 hqm2
          go_wp2
          go_round
          case rel => exact ⟨p2, _, rfl, rfl, by omega, HSX.out _ HX2.out, HX2⟩
          case measure => simp [intOf]; omega
    · have h10I : ¬ (m : Int) < 10 := by omega
      have HX : Hid (strOfNums (decT p) ++ (lit16.extract k (k + 1) ++ s) = D) := Lib.hid (HN.out h10)
      have hlt := hqm2 h10
      clear HN HN2 hqm2
      go_wp2
      go_round
      case rel => exact ⟨p, _, rfl, rfl, by omega, HSX.out _ HX.out, HX⟩
      case measure => simp [intOf]; omega
end Go.Proofs.YtajjffjnnjklnaaDoor
