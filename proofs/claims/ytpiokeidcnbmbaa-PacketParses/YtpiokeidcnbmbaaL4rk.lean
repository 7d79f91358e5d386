/- What was decoded, encoded again: plain facts. No condition. -/
import Derived.Test.YtpiokeidcnbmbaaL4n
namespace Go.Proofs.Ytpiokeidcnbmbaa
open Go.RowKit

theorem getD_ne (zs : List Int) (k i : Nat) (x : Int) (h : k ≠ i) : (zs.set k x).getD i 0 = zs.getD i 0 := by
  simp [List.getD_eq_getElem?_getD, h]
/-- The check sum of bytes that are right is theirs, or 0 where theirs is all ones. -/
theorem chk_back (src dst k : Int) (hs : 0 ≤ src) (ht : 0 ≤ dst) (B : List Int) (hB : ∀ i, 0 ≤ B.getD i 0 ∧ B.getD i 0 ≤ 255) (c : Int) (hc : 0 ≤ c ∧ c ≤ 65535)
    (h1 : chkAt k + 1 < B.length) (h2 : B.getD (chkAt k) 0 = 0) (h3 : B.getD (chkAt k + 1) 0 = 0) (hz : k = 2 → c ≠ 0)
    (hsum : sumV src dst k ((B.set (chkAt k) (c / 256)).set (chkAt k + 1) (c % 256)) = 65535) : chkC src dst k B = c ∨ (chkC src dst k B = 0 ∧ c = 65535 ∧ k ≠ 2) := by
  obtain ⟨j, hj⟩ : ∃ j, chkAt k = 2 * j := by
    unfold chkAt; split
    · exact ⟨1, rfl⟩
    · split
      · exact ⟨3, rfl⟩
      · exact ⟨8, rfl⟩
  have hw := wsum_bd hB
  have hws : wsum ((B.set (chkAt k) (c / 256)).set (chkAt k + 1) (c % 256)) = wsum B + c := by
    rw [hj] at h1 h2 h3 ⊢
    rw [wsum_set j B _ _ h1, h2, h3]
    omega
  have e1 := extra_nn src dst k B.length hs ht
  rw [sumV_extra src dst k _ (by omega) hs ht, hws] at hsum
  simp only [List.length_set] at hsum
  have hS := sumV_extra src dst k B hw hs ht
  have hbd := sumV_bd src dst k B hs ht hB
  have hm := fld_mod (extra src dst k B.length + wsum B) (by omega)
  have hp : 0 < extra src dst k B.length + wsum B → 0 < fld (extra src dst k B.length + wsum B) := fld_pos _
  have hq : 0 < extra src dst k B.length + (wsum B + c) := by
    rcases (by omega : 0 < extra src dst k B.length + (wsum B + c) ∨ extra src dst k B.length + (wsum B + c) = 0) with h | h
    · exact h
    · rw [h] at hsum
      exact absurd hsum (by decide)
  have hsum2 := (fld_full _ hq).1 hsum
  unfold chkC
  rw [hS] at hbd ⊢
  generalize extra src dst k B.length = X at *
  generalize wsum B = S at *
  generalize fld (X + S) = F at *
  split
  · rename_i h
    have := hz h.1
    have := h.2
    omega
  · rename_i h
    have hk2 : F = 65535 → k ≠ 2 := fun e1 e2 => h ⟨e2, e1⟩
    rcases (by omega : F + c = 0 ∨ F + c = 65535 ∨ F + c = 131070) with h5 | h5 | h5
    · omega
    · left; omega
    · right; exact ⟨by omega, by omega, hk2 (by omega)⟩
/-- What it is that bytes that were read are as the packet encoded, but for a check sum of all ones. -/
structure Again (src dst : Int) (zs : List Int) (x : L4R) : Prop where
  fine : x.Fine
  ok : x.ok = true
  len : x.body.length = zs.length
  same : ∀ i, i < zs.length → (x.enc src dst).getD i 0 = zs.getD i 0 ∨ (((x.k = 1 ∧ i / 2 = 1) ∨ (x.k = 3 ∧ i / 2 = 8)) ∧ zs.getD (i - i % 2) 0 = 255 ∧ zs.getD (i - i % 2 + 1) 0 = 255)

theorem again_opaque (src dst : Int) (zs : List Int) (hf : ∀ i, 0 ≤ zs.getD i 0 ∧ zs.getD i 0 ≤ 255) (hl : zs.length ≤ 65515) : Again src dst zs (readR 0 zs) := by
  have he : readR 0 zs = ⟨0, 0, 0, 0, 0, 0, false, 0, 0, 0, 0, 0, [], zs⟩ := rfl
  rw [he]
  refine ⟨⟨by simp, by simp, by simp, fun i => by simp, hf, by show zs.length ≤ _; omega⟩, ?_, rfl, fun i _ => .inl ?_⟩
  · unfold L4R.ok l4Ok
    rw [strOfNums_size, strOfNums_size]
    have h1 : ownOk 0 0 0 0 0 0 false 0 0 0 0 0 (strOfNums []) = true := by decide +kernel
    have h2 : numsOk 0 0 0 0 0 0 0 = true := by decide +kernel
    rw [h1, h2]
    have h3 : ¬ (65515 < fixV 0 + (([] : List Int).length : Int) + zs.length) := by rw [show fixV 0 = 0 from rfl]; simp; omega
    simp only [decide_eq_false h3]
    rfl
  · unfold L4R.enc
    rw [if_pos (.inl rfl)]
    rfl
theorem again_icmp (src dst : Int) (hs : 0 ≤ src) (ht : 0 ≤ dst) (zs : List Int) (hf : ∀ i, 0 ≤ zs.getD i 0 ∧ zs.getD i 0 ≤ 255) (hl8 : 8 ≤ zs.length) (hl : zs.length ≤ 65515) (hsum : sumV src dst 1 zs = 65535) : Again src dst zs (readR 1 zs) := by
  match zs, hl8 with
  | [], hl8 => simp at hl8
  | [_], hl8 => simp at hl8
  | [_, _], hl8 => simp at hl8
  | [_, _, _], hl8 => simp at hl8
  | [_, _, _, _], hl8 => simp at hl8
  | [_, _, _, _, _], hl8 => simp at hl8
  | [_, _, _, _, _, _], hl8 => simp at hl8
  | [_, _, _, _, _, _, _], hl8 => simp at hl8
  | z0 :: z1 :: z2 :: z3 :: z4 :: z5 :: z6 :: z7 :: r, hl8 =>
    have g0 : 0 ≤ z0 ∧ z0 ≤ 255 := hf 0
    have g1 : 0 ≤ z1 ∧ z1 ≤ 255 := hf 1
    have g2 : 0 ≤ z2 ∧ z2 ≤ 255 := hf 2
    have g3 : 0 ≤ z3 ∧ z3 ≤ 255 := hf 3
    have g4 : 0 ≤ z4 ∧ z4 ≤ 255 := hf 4
    have g5 : 0 ≤ z5 ∧ z5 ≤ 255 := hf 5
    have g6 : 0 ≤ z6 ∧ z6 ≤ 255 := hf 6
    have g7 : 0 ≤ z7 ∧ z7 ≤ 255 := hf 7
    have hr : ∀ i, 0 ≤ r.getD i 0 ∧ r.getD i 0 ≤ 255 := fun i => hf (i + 8)
    have hrl : r.length ≤ 65507 := by simp at hl; omega
    obtain ⟨re, hre⟩ : ∃ re, ((z4 * 256 + z5) * 256 + z6) * 256 + z7 = re := ⟨_, rfl⟩
    obtain ⟨c, hc⟩ : ∃ c, z2 * 256 + z3 = c := ⟨_, rfl⟩
    obtain ⟨x, hx⟩ : ∃ x, readR 1 (z0 :: z1 :: z2 :: z3 :: z4 :: z5 :: z6 :: z7 :: r) = x := ⟨_, rfl⟩
    rw [hx]
    replace hx : x = ⟨1, z0, z1, re, 0, 0, false, 0, 0, 0, 0, 0, [], r⟩ := by
      rw [← hx, ← hre]
      unfold readR
      rw [if_pos rfl]
      simp [num, zeroR]
    have hzs : z0 :: z1 :: z2 :: z3 :: z4 :: z5 :: z6 :: z7 :: r = icmpL z0 z1 re c r := by
      unfold icmpL
      simp only [List.cons_append, List.nil_append, List.cons.injEq, and_true]
      omega
    have hb : x.body = icmpL z0 z1 re 0 r := by rw [hx]; exact body_icmp _ _ _ _ _ _ _ _ _ _ _ _
    have hfine : x.Fine := by
      rw [hx]
      exact ⟨by show 0 ≤ re ∧ re ≤ _; omega, by simp, by simp, fun i => by simp, hr, by show r.length ≤ _; omega⟩
    have hok : x.ok = true := by
      rw [hx]
      unfold L4R.ok l4Ok
      rw [strOfNums_size, strOfNums_size]
      have h1 : ownOk 1 z0 z1 re 0 0 false 0 0 0 0 0 (strOfNums []) = true := by unfold ownOk; rw [if_neg (by decide), if_pos rfl]; decide +kernel
      have h2 : numsOk z0 z1 0 0 0 0 0 = true := by
        unfold numsOk fitN fit8 fit12 fit16
        simp
        omega
      rw [h1, h2]
      have h3 : ¬ (40 < ([] : List Int).length) := by simp
      have h4 : (((([] : List Int).length : Nat) : Int) % 4 != 0) = false := by simp
      have h5 : ¬ (65515 < fixV 1 + ((([] : List Int).length : Nat) : Int) + r.length) := by rw [show fixV 1 = 8 from rfl]; simp; omega
      simp only [decide_eq_false h3, h4, decide_eq_false h5]
      rfl
    have he : x.enc src dst = icmpL z0 z1 re (chkC src dst 1 (icmpL z0 z1 re 0 r)) r := by
      have : x.enc src dst = setC src dst 1 x.body := by
        rw [hx]; unfold L4R.enc; rw [if_neg (by simp)]
      rw [this, hb]; exact setC_icmp _ _ _ _ _ _
    have hB := L4R.body_fits hfine
    rw [hb] at hB
    rw [hzs] at hsum ⊢
    have hcb := chk_back src dst 1 hs ht (icmpL z0 z1 re 0 r) hB c (by omega) (by show 2 + 1 < _; simp [icmpL]) rfl rfl (fun e => absurd e (by decide)) hsum
    refine ⟨hfine, hok, by rw [hb]; simp [icmpL], fun i _ => ?_⟩
    rw [he]
    rcases hcb with e | ⟨e1, e2, _⟩
    · left; rw [e]
    · rw [e1, e2]
      by_cases hi : i = 2 ∨ i = 3
      · right
        refine ⟨.inl ⟨by rw [hx], by omega⟩, ?_⟩
        rw [show i - i % 2 = 2 by omega]
        exact ⟨rfl, rfl⟩
      · left
        have h2 := getD_ne (icmpL z0 z1 re 65535 r) 2 i (0 / 256) (by omega)
        have h3 := getD_ne ((icmpL z0 z1 re 65535 r).set 2 (0 / 256)) 3 i (0 % 256) (by omega)
        exact h3.trans h2
theorem again_udp (src dst : Int) (hs : 0 ≤ src) (ht : 0 ≤ dst) (zs : List Int) (hf : ∀ i, 0 ≤ zs.getD i 0 ∧ zs.getD i 0 ≤ 255) (hl8 : 8 ≤ zs.length) (hl : zs.length ≤ 65515) (hlen : zs.getD 4 0 * 256 + zs.getD 5 0 = zs.length) (hsum : zs.getD 6 0 * 256 + zs.getD 7 0 = 0 ∨ sumV src dst 2 zs = 65535) : Again src dst zs (readR 2 zs) := by
  match zs, hl8 with
  | [], hl8 => simp at hl8
  | [_], hl8 => simp at hl8
  | [_, _], hl8 => simp at hl8
  | [_, _, _], hl8 => simp at hl8
  | [_, _, _, _], hl8 => simp at hl8
  | [_, _, _, _, _], hl8 => simp at hl8
  | [_, _, _, _, _, _], hl8 => simp at hl8
  | [_, _, _, _, _, _, _], hl8 => simp at hl8
  | z0 :: z1 :: z2 :: z3 :: z4 :: z5 :: z6 :: z7 :: r, hl8 =>
    have g0 : 0 ≤ z0 ∧ z0 ≤ 255 := hf 0
    have g1 : 0 ≤ z1 ∧ z1 ≤ 255 := hf 1
    have g2 : 0 ≤ z2 ∧ z2 ≤ 255 := hf 2
    have g3 : 0 ≤ z3 ∧ z3 ≤ 255 := hf 3
    have g4 : 0 ≤ z4 ∧ z4 ≤ 255 := hf 4
    have g5 : 0 ≤ z5 ∧ z5 ≤ 255 := hf 5
    have g6 : 0 ≤ z6 ∧ z6 ≤ 255 := hf 6
    have g7 : 0 ≤ z7 ∧ z7 ≤ 255 := hf 7
    have hr : ∀ i, 0 ≤ r.getD i 0 ∧ r.getD i 0 ≤ 255 := fun i => hf (i + 8)
    have hrl : r.length ≤ 65507 := by simp at hl; omega
    have hln : z4 * 256 + z5 = 8 + (r.length : Int) := by
      have : z4 * 256 + z5 = ((r.length + 8 : Nat) : Int) := hlen
      omega
    obtain ⟨sp, hsp⟩ : ∃ x, z0 * 256 + z1 = x := ⟨_, rfl⟩
    obtain ⟨dp, hdp⟩ : ∃ x, z2 * 256 + z3 = x := ⟨_, rfl⟩
    obtain ⟨c, hc⟩ : ∃ c, z6 * 256 + z7 = c := ⟨_, rfl⟩
    obtain ⟨x, hx⟩ : ∃ x, readR 2 (z0 :: z1 :: z2 :: z3 :: z4 :: z5 :: z6 :: z7 :: r) = x := ⟨_, rfl⟩
    rw [hx]
    replace hx : x = ⟨2, 0, 0, 0, sp, dp, c == 0, 0, 0, 0, 0, 0, [], r⟩ := by
      rw [← hx, ← hsp, ← hdp, ← hc]
      unfold readR
      rw [if_neg (by decide), if_pos rfl]
      simp [num, zeroR]
    have hzs : z0 :: z1 :: z2 :: z3 :: z4 :: z5 :: z6 :: z7 :: r = udpL sp dp (8 + (r.length : Int)) c r := by
      unfold udpL
      simp only [List.cons_append, List.nil_append, List.cons.injEq, and_true]
      omega
    have hb : x.body = udpL sp dp (8 + (r.length : Int)) 0 r := by rw [hx]; exact body_udp _ _ _ _ _ _ _ _ _ _ _ _
    have hfine : x.Fine := by
      rw [hx]
      exact ⟨by simp, by simp, by simp, fun i => by simp, hr, by show r.length ≤ _; omega⟩
    have hok : x.ok = true := by
      rw [hx]
      unfold L4R.ok l4Ok
      rw [strOfNums_size, strOfNums_size]
      have h1 : ownOk 2 0 0 0 sp dp (c == 0) 0 0 0 0 0 (strOfNums []) = true := by unfold ownOk; rw [if_neg (by decide), if_neg (by decide), if_pos rfl]; decide +kernel
      have h2 : numsOk 0 0 sp dp 0 0 0 = true := by
        unfold numsOk fitN fit8 fit12 fit16
        simp
        omega
      rw [h1, h2]
      have h3 : ¬ (40 < ([] : List Int).length) := by simp
      have h4 : (((([] : List Int).length : Nat) : Int) % 4 != 0) = false := by simp
      have h5 : ¬ (65515 < fixV 2 + ((([] : List Int).length : Nat) : Int) + r.length) := by rw [show fixV 2 = 8 from rfl]; simp; omega
      simp only [decide_eq_false h3, h4, decide_eq_false h5]
      rfl
    have hB := L4R.body_fits hfine
    rw [hb] at hB
    replace hsum : c = 0 ∨ sumV src dst 2 (z0 :: z1 :: z2 :: z3 :: z4 :: z5 :: z6 :: z7 :: r) = 65535 := by rw [← hc]; exact hsum
    rw [hzs] at hsum ⊢
    refine ⟨hfine, hok, by rw [hb]; simp [udpL], fun i _ => .inl ?_⟩
    by_cases hc0 : c = 0
    · have he : x.enc src dst = x.body := by
        rw [hx]; unfold L4R.enc; rw [if_pos (.inr (by simp [hc0]))]
      rw [he, hb, hc0]
    · have hs2 : sumV src dst 2 (udpL sp dp (8 + (r.length : Int)) c r) = 65535 := by
        rcases hsum with h | h
        · exact absurd h hc0
        · exact h
      have he : x.enc src dst = udpL sp dp (8 + (r.length : Int)) (chkC src dst 2 (udpL sp dp (8 + (r.length : Int)) 0 r)) r := by
        have : x.enc src dst = setC src dst 2 x.body := by
          rw [hx]; unfold L4R.enc; rw [if_neg (by simp [hc0])]
        rw [this, hb]; exact setC_udp _ _ _ _ _ _
      have hcb := chk_back src dst 2 hs ht (udpL sp dp (8 + (r.length : Int)) 0 r) hB c (by omega) (by show 6 + 1 < _; simp [udpL]) rfl rfl (fun _ => hc0) hs2
      rcases hcb with e | ⟨_, _, e⟩
      · rw [he, e]
      · exact absurd rfl e
theorem again_tcp (src dst : Int) (hs : 0 ≤ src) (ht : 0 ≤ dst) (zs : List Int) (hf : ∀ i, 0 ≤ zs.getD i 0 ∧ zs.getD i 0 ≤ 255) (hl8 : 20 ≤ zs.length) (hl : zs.length ≤ 65515) (h5 : 20 ≤ zs.getD 12 0 / 16 * 4) (hU : zs.getD 12 0 / 16 * 4 ≤ zs.length) (hsum : sumV src dst 3 zs = 65535) : Again src dst zs (readR 3 zs) := by
  match zs, hl8 with
  | [], hl8 => simp at hl8
  | [_], hl8 => simp at hl8
  | [_, _], hl8 => simp at hl8
  | [_, _, _], hl8 => simp at hl8
  | [_, _, _, _], hl8 => simp at hl8
  | [_, _, _, _, _], hl8 => simp at hl8
  | [_, _, _, _, _, _], hl8 => simp at hl8
  | [_, _, _, _, _, _, _], hl8 => simp at hl8
  | [_, _, _, _, _, _, _, _], hl8 => simp at hl8
  | [_, _, _, _, _, _, _, _, _], hl8 => simp at hl8
  | [_, _, _, _, _, _, _, _, _, _], hl8 => simp at hl8
  | [_, _, _, _, _, _, _, _, _, _, _], hl8 => simp at hl8
  | [_, _, _, _, _, _, _, _, _, _, _, _], hl8 => simp at hl8
  | [_, _, _, _, _, _, _, _, _, _, _, _, _], hl8 => simp at hl8
  | [_, _, _, _, _, _, _, _, _, _, _, _, _, _], hl8 => simp at hl8
  | [_, _, _, _, _, _, _, _, _, _, _, _, _, _, _], hl8 => simp at hl8
  | [_, _, _, _, _, _, _, _, _, _, _, _, _, _, _, _], hl8 => simp at hl8
  | [_, _, _, _, _, _, _, _, _, _, _, _, _, _, _, _, _], hl8 => simp at hl8
  | [_, _, _, _, _, _, _, _, _, _, _, _, _, _, _, _, _, _], hl8 => simp at hl8
  | [_, _, _, _, _, _, _, _, _, _, _, _, _, _, _, _, _, _, _], hl8 => simp at hl8
  | z0 :: z1 :: z2 :: z3 :: z4 :: z5 :: z6 :: z7 :: z8 :: z9 :: z10 :: z11 :: z12 :: z13 :: z14 :: z15 :: z16 :: z17 :: z18 :: z19 :: r, hl8 =>
    have g0 : 0 ≤ z0 ∧ z0 ≤ 255 := hf 0
    have g1 : 0 ≤ z1 ∧ z1 ≤ 255 := hf 1
    have g2 : 0 ≤ z2 ∧ z2 ≤ 255 := hf 2
    have g3 : 0 ≤ z3 ∧ z3 ≤ 255 := hf 3
    have g4 : 0 ≤ z4 ∧ z4 ≤ 255 := hf 4
    have g5 : 0 ≤ z5 ∧ z5 ≤ 255 := hf 5
    have g6 : 0 ≤ z6 ∧ z6 ≤ 255 := hf 6
    have g7 : 0 ≤ z7 ∧ z7 ≤ 255 := hf 7
    have g8 : 0 ≤ z8 ∧ z8 ≤ 255 := hf 8
    have g9 : 0 ≤ z9 ∧ z9 ≤ 255 := hf 9
    have g10 : 0 ≤ z10 ∧ z10 ≤ 255 := hf 10
    have g11 : 0 ≤ z11 ∧ z11 ≤ 255 := hf 11
    have g12 : 0 ≤ z12 ∧ z12 ≤ 255 := hf 12
    have g13 : 0 ≤ z13 ∧ z13 ≤ 255 := hf 13
    have g14 : 0 ≤ z14 ∧ z14 ≤ 255 := hf 14
    have g15 : 0 ≤ z15 ∧ z15 ≤ 255 := hf 15
    have g16 : 0 ≤ z16 ∧ z16 ≤ 255 := hf 16
    have g17 : 0 ≤ z17 ∧ z17 ≤ 255 := hf 17
    have g18 : 0 ≤ z18 ∧ z18 ≤ 255 := hf 18
    have g19 : 0 ≤ z19 ∧ z19 ≤ 255 := hf 19
    have hr : ∀ i, 0 ≤ r.getD i 0 ∧ r.getD i 0 ≤ 255 := fun i => hf (i + 20)
    have hrl : r.length ≤ 65495 := by simp at hl; omega
    replace h5 : 20 ≤ z12 / 16 * 4 := h5
    replace hU : z12 / 16 * 4 ≤ ((r.length + 20 : Nat) : Int) := hU
    obtain ⟨sp, hsp⟩ : ∃ x, z0 * 256 + z1 = x := ⟨_, rfl⟩
    obtain ⟨dp, hdp⟩ : ∃ x, z2 * 256 + z3 = x := ⟨_, rfl⟩
    obtain ⟨sq, hsq⟩ : ∃ x, ((z4 * 256 + z5) * 256 + z6) * 256 + z7 = x := ⟨_, rfl⟩
    obtain ⟨ak, hak⟩ : ∃ x, ((z8 * 256 + z9) * 256 + z10) * 256 + z11 = x := ⟨_, rfl⟩
    obtain ⟨wi, hwi⟩ : ∃ x, z14 * 256 + z15 = x := ⟨_, rfl⟩
    obtain ⟨ur, hur⟩ : ∃ x, z18 * 256 + z19 = x := ⟨_, rfl⟩
    obtain ⟨c, hc⟩ : ∃ c, z16 * 256 + z17 = c := ⟨_, rfl⟩
    obtain ⟨fl, hfl⟩ : ∃ x, (z12 * 256 + z13) % 4096 = x := ⟨_, rfl⟩
    obtain ⟨u, hu⟩ : ∃ u : Nat, (z12 / 16 * 4).toNat - 20 = u := ⟨_, rfl⟩
    have hur2 : u ≤ r.length := by omega
    obtain ⟨x, hx⟩ : ∃ x, readR 3 (z0 :: z1 :: z2 :: z3 :: z4 :: z5 :: z6 :: z7 :: z8 :: z9 :: z10 :: z11 :: z12 :: z13 :: z14 :: z15 :: z16 :: z17 :: z18 :: z19 :: r) = x := ⟨_, rfl⟩
    rw [hx]
    replace hx : x = ⟨3, 0, 0, 0, sp, dp, false, sq, ak, fl, wi, ur, r.take u, r.drop u⟩ := by
      have hd : (z0 :: z1 :: z2 :: z3 :: z4 :: z5 :: z6 :: z7 :: z8 :: z9 :: z10 :: z11 :: z12 :: z13 :: z14 :: z15 :: z16 :: z17 :: z18 :: z19 :: r).drop (z12 / 16 * 4).toNat = r.drop u := by
        rw [show (z12 / 16 * 4).toNat = 20 + u by omega, ← List.drop_drop]
        rfl
      rw [← hx, ← hsp, ← hdp, ← hsq, ← hak, ← hwi, ← hur, ← hfl]
      unfold readR
      rw [if_neg (by decide), if_neg (by decide), if_pos rfl]
      rw [show (z0 :: z1 :: z2 :: z3 :: z4 :: z5 :: z6 :: z7 :: z8 :: z9 :: z10 :: z11 :: z12 :: z13 :: z14 :: z15 :: z16 :: z17 :: z18 :: z19 :: r).getD 12 0 = z12 from rfl, hd, hu]
      simp [num, zeroR]
    have hql : (20 + ((r.take u).length : Int)) / 4 = z12 / 16 := by
      rw [List.length_take]; omega
    have hzs : z0 :: z1 :: z2 :: z3 :: z4 :: z5 :: z6 :: z7 :: z8 :: z9 :: z10 :: z11 :: z12 :: z13 :: z14 :: z15 :: z16 :: z17 :: z18 :: z19 :: r = tcpL sp dp sq ak ((20 + ((r.take u).length : Int)) / 4 * 4096 + fl) wi ur c (r.take u) (r.drop u) := by
      rw [hql]
      unfold tcpL
      rw [List.take_append_drop]
      simp only [List.cons_append, List.nil_append, List.cons.injEq, and_true]
      omega
    have hb : x.body = tcpL sp dp sq ak ((20 + ((r.take u).length : Int)) / 4 * 4096 + fl) wi ur 0 (r.take u) (r.drop u) := by rw [hx]; exact body_tcp _ _ _ _ _ _ _ _ _ _ _ _ _
    have hft : ∀ i, 0 ≤ (r.take u).getD i 0 ∧ (r.take u).getD i 0 ≤ 255 := by
      intro i
      have := hr i
      rw [List.getD_eq_getElem?_getD] at this ⊢
      rw [List.getElem?_take]
      split
      · exact this
      · simp
    have hfd : ∀ i, 0 ≤ (r.drop u).getD i 0 ∧ (r.drop u).getD i 0 ≤ 255 := by
      intro i
      have := hr (u + i)
      rw [List.getD_eq_getElem?_getD] at this ⊢
      rw [List.getElem?_drop]
      exact this
    have hdl : (r.drop u).length ≤ 65495 := by rw [List.length_drop]; omega
    have htl : (r.take u).length = u := by rw [List.length_take]; omega
    have hfine : x.Fine := by
      rw [hx]
      exact ⟨by simp, by show 0 ≤ sq ∧ sq ≤ _; omega, by show 0 ≤ ak ∧ ak ≤ _; omega, hft, hfd, by show (r.drop u).length ≤ _; omega⟩
    have hok : x.ok = true := by
      rw [hx]
      unfold L4R.ok l4Ok
      rw [strOfNums_size, strOfNums_size]
      have h1 : ownOk 3 0 0 0 sp dp false sq ak fl wi ur (strOfNums (r.take u)) = true := by unfold ownOk; rw [if_neg (by decide), if_neg (by decide), if_neg (by decide), if_pos rfl]; decide
      have h2 : numsOk 0 0 sp dp fl wi ur = true := by
        unfold numsOk fitN fit8 fit12 fit16
        simp
        omega
      rw [h1, h2]
      have h3 : ¬ (40 < (r.take u).length) := by rw [htl]; omega
      have h4 : ((((r.take u).length : Nat) : Int) % 4 != 0) = false := by rw [htl]; simp; omega
      have h5 : ¬ (65515 < fixV 3 + (((r.take u).length : Nat) : Int) + (r.drop u).length) := by rw [show fixV 3 = 20 from rfl, htl, List.length_drop]; omega
      simp only [decide_eq_false h3, h4, decide_eq_false h5]
      rfl
    generalize hq : (20 + ((r.take u).length : Int)) / 4 * 4096 + fl = w at *
    have he : x.enc src dst = tcpL sp dp sq ak w wi ur (chkC src dst 3 (tcpL sp dp sq ak w wi ur 0 (r.take u) (r.drop u))) (r.take u) (r.drop u) := by
      have : x.enc src dst = setC src dst 3 x.body := by
        rw [hx]; unfold L4R.enc; rw [if_neg (by simp)]
      rw [this, hb]; exact setC_tcp _ _ _ _ _ _ _ _ _ _ _
    have hB := L4R.body_fits hfine
    rw [hb] at hB
    rw [hzs] at hsum ⊢
    have hcb := chk_back src dst 3 hs ht (tcpL sp dp sq ak w wi ur 0 (r.take u) (r.drop u)) hB c (by omega) (by show 16 + 1 < _; simp [tcpL]) rfl rfl (fun e => absurd e (by decide)) hsum
    refine ⟨hfine, hok, by rw [hb]; simp [tcpL], fun i _ => ?_⟩
    rw [he]
    rcases hcb with e | ⟨e1, e2, _⟩
    · left; rw [e]
    · rw [e1, e2]
      by_cases hi : i = 16 ∨ i = 17
      · right
        refine ⟨.inr ⟨by rw [hx], by omega⟩, ?_⟩
        rw [show i - i % 2 = 16 by omega]
        exact ⟨rfl, rfl⟩
      · left
        have h2 := getD_ne (tcpL sp dp sq ak w wi ur 65535 (r.take u) (r.drop u)) 16 i (0 / 256) (by omega)
        have h3 := getD_ne ((tcpL sp dp sq ak w wi ur 65535 (r.take u) (r.drop u)).set 16 (0 / 256)) 17 i (0 % 256) (by omega)
        exact h3.trans h2
end Go.Proofs.Ytpiokeidcnbmbaa
