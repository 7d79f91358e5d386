/- What a frame that was read is like: numbers of their kinds, and which sort of packet it is. -/
import Derived.Test.YthodjgaaojmihaaDoorPLd
import Derived.Test.YthodjgaaojmihaaDoorFT
import Derived.Test.YthodjgaaojmihaaDoorFR
namespace Go.Proofs.YthodjgaaojmihaaDoor
open Go.RowKit
set_option maxRecDepth 20000
/-- All cells fit, and the sort is as the head says. -/
structure PkN (x : PkR) : Prop where
  u64 : (0 ≤ x.d ∧ x.d ≤ 18446744073709551615) ∧ (0 ≤ x.s ∧ x.s ≤ 18446744073709551615) ∧ (0 ≤ x.sha ∧ x.sha ≤ 18446744073709551615) ∧ (0 ≤ x.tha ∧ x.tha ≤ 18446744073709551615)
  u32 : (0 ≤ x.spa ∧ x.spa ≤ 4294967295) ∧ (0 ≤ x.tpa ∧ x.tpa ≤ 4294967295) ∧ (0 ≤ x.src ∧ x.src ≤ 4294967295) ∧ (0 ≤ x.dst ∧ x.dst ≤ 4294967295) ∧ (0 ≤ x.l.re ∧ x.l.re ≤ 4294967295) ∧ (0 ≤ x.l.sq ∧ x.l.sq ≤ 4294967295) ∧ (0 ≤ x.l.ak ∧ x.l.ak ≤ 4294967295)
  i64 : (0 ≤ x.tag ∧ x.tag ≤ 65535) ∧ (0 ≤ x.et ∧ x.et ≤ 65535) ∧ (0 ≤ x.op ∧ x.op ≤ 65535) ∧ (0 ≤ x.tos ∧ x.tos ≤ 65535) ∧ (0 ≤ x.id ∧ x.id ≤ 65535) ∧ (0 ≤ x.fr ∧ x.fr ≤ 65535) ∧ (0 ≤ x.ttl ∧ x.ttl ≤ 65535) ∧ (0 ≤ x.pr ∧ x.pr ≤ 255)
  l64 : (0 ≤ x.l.k ∧ x.l.k ≤ 3) ∧ (0 ≤ x.l.ty ∧ x.l.ty ≤ 65535) ∧ (0 ≤ x.l.co ∧ x.l.co ≤ 65535) ∧ (0 ≤ x.l.sp ∧ x.l.sp ≤ 65535) ∧ (0 ≤ x.l.dp ∧ x.l.dp ≤ 65535) ∧ (0 ≤ x.l.fl ∧ x.l.fl ≤ 65535) ∧ (0 ≤ x.l.wi ∧ x.l.wi ≤ 65535) ∧ (0 ≤ x.l.ur ∧ x.l.ur ≤ 65535)
  ia : x.ia = (x.et == 2054)
  ii : x.ii = (x.et == 2048)
  kind : x.et = 2048 → x.l.k = if wholeB x.fr = true then kindV x.pr else 0
theorem nb (zs : List Int) (hz : ∀ i, 0 ≤ zs.getD i 0 ∧ zs.getD i 0 ≤ 255) (a k : Nat) : 0 ≤ num ((zs.drop a).take k) ∧ num ((zs.drop a).take k) < 256 ^ k := num_bd _ (Eth.fits_drop hz a) k
theorem nb1 {zs : List Int} (hz : ∀ i, 0 ≤ zs.getD i 0 ∧ zs.getD i 0 ≤ 255) (a : Nat) : 0 ≤ num ((zs.drop a).take 1) ∧ num ((zs.drop a).take 1) ≤ 255 := by have := nb zs hz a 1; omega
theorem nb2 {zs : List Int} (hz : ∀ i, 0 ≤ zs.getD i 0 ∧ zs.getD i 0 ≤ 255) (a : Nat) : 0 ≤ num ((zs.drop a).take 2) ∧ num ((zs.drop a).take 2) ≤ 65535 := by have := nb zs hz a 2; omega
theorem nb4 {zs : List Int} (hz : ∀ i, 0 ≤ zs.getD i 0 ∧ zs.getD i 0 ≤ 255) (a : Nat) : 0 ≤ num ((zs.drop a).take 4) ∧ num ((zs.drop a).take 4) ≤ 4294967295 := by have := nb zs hz a 4; omega
theorem nb6 {zs : List Int} (hz : ∀ i, 0 ≤ zs.getD i 0 ∧ zs.getD i 0 ≤ 255) (a : Nat) : 0 ≤ num ((zs.drop a).take 6) ∧ num ((zs.drop a).take 6) ≤ 18446744073709551615 := by have := nb zs hz a 6; omega
theorem nb1w {zs : List Int} (hz : ∀ i, 0 ≤ zs.getD i 0 ∧ zs.getD i 0 ≤ 255) (a : Nat) : 0 ≤ num ((zs.drop a).take 1) ∧ num ((zs.drop a).take 1) ≤ 65535 := by have := nb1 hz a; omega
/-- The part behind the head. -/
structure L4N (l : L4R) : Prop where
  u32 : (0 ≤ l.re ∧ l.re ≤ 4294967295) ∧ (0 ≤ l.sq ∧ l.sq ≤ 4294967295) ∧ (0 ≤ l.ak ∧ l.ak ≤ 4294967295)
  i64 : (0 ≤ l.k ∧ l.k ≤ 3) ∧ (0 ≤ l.ty ∧ l.ty ≤ 65535) ∧ (0 ≤ l.co ∧ l.co ≤ 65535) ∧ (0 ≤ l.sp ∧ l.sp ≤ 65535) ∧ (0 ≤ l.dp ∧ l.dp ≤ 65535) ∧ (0 ≤ l.fl ∧ l.fl ≤ 65535) ∧ (0 ≤ l.wi ∧ l.wi ≤ 65535) ∧ (0 ≤ l.ur ∧ l.ur ≤ 65535)
theorem zq {m : Int} (h : 0 ≤ m) : (0 : Int) ≤ 0 ∧ (0 : Int) ≤ m := ⟨Int.le_refl _, h⟩
theorem z32 : (0 : Int) ≤ 0 ∧ (0 : Int) ≤ 4294967295 := zq (by decide)
theorem z16 : (0 : Int) ≤ 0 ∧ (0 : Int) ≤ 65535 := zq (by decide)
theorem z64 : (0 : Int) ≤ 0 ∧ (0 : Int) ≤ 18446744073709551615 := zq (by decide)
theorem z8 : (0 : Int) ≤ 0 ∧ (0 : Int) ≤ 255 := zq (by decide)
theorem z3 : (0 : Int) ≤ 0 ∧ (0 : Int) ≤ 3 := zq (by decide)
theorem k1 : (0 : Int) ≤ 1 ∧ (1 : Int) ≤ 3 := by decide
theorem k2 : (0 : Int) ≤ 2 ∧ (2 : Int) ≤ 3 := by decide
theorem k3 : (0 : Int) ≤ 3 ∧ (3 : Int) ≤ 3 := by decide
theorem t2048 : (0 : Int) ≤ 2048 ∧ (2048 : Int) ≤ 65535 := by decide
theorem t2054 : (0 : Int) ≤ 2054 ∧ (2054 : Int) ≤ 65535 := by decide
theorem zero_n (D : List Int) : L4N { zeroR with ds := D } := ⟨⟨z32, z32, z32⟩, z3, z16, z16, z16, z16, z16, z16, z16⟩
theorem read_n (k : Int) (zs : List Int) (hz : ∀ i, 0 ≤ zs.getD i 0 ∧ zs.getD i 0 ≤ 255) : L4N (readR k zs) := by
  unfold readR
  split
  · exact ⟨⟨nb4 hz 4, z32, z32⟩, k1, nb1w hz 0, nb1w hz 1, z16, z16, z16, z16, z16⟩
  split
  · exact ⟨⟨z32, z32, z32⟩, k2, z16, z16, nb2 hz 0, nb2 hz 2, z16, z16, z16⟩
  split
  · have h12 := nb2 hz 12
    exact ⟨⟨z32, nb4 hz 4, nb4 hz 8⟩, k3, z16, z16, nb2 hz 0, nb2 hz 2, ⟨show 0 ≤ num ((zs.drop 12).take 2) % 4096 by omega, show num ((zs.drop 12).take 2) % 4096 ≤ 65535 by omega⟩, nb2 hz 14, nb2 hz 18⟩
  · exact zero_n zs
theorem dec_n (src dst k : Int) (zs : List Int) (hz : ∀ i, 0 ≤ zs.getD i 0 ∧ zs.getD i 0 ≤ 255) : L4N (decR src dst k zs) := by
  unfold decR
  split
  · exact read_n k zs hz
  · exact zero_n []
theorem decR_kind (src dst p : Int) (zs : List Int) (hE : decE src dst (kindV p) zs = 0) : (decR src dst (kindV p) zs).k = kindV p := by
  unfold decE at hE
  unfold decR
  by_cases hm : msrV (kindV p) zs = 0
  · rw [if_pos hm] at hE
    by_cases hr : rightV src dst (kindV p) zs = true
    · rw [if_pos ⟨hm, hr⟩]
      rcases kindV_cases p with e | e | e | e <;> rw [e] <;> rfl
    · rw [if_neg hr] at hE; omega
  · rw [if_neg hm] at hE
    exact absurd hE hm
theorem ip_n {d s : Int} {tg : Bool} {tag : Int} (hd : 0 ≤ d ∧ d ≤ 18446744073709551615) (hs : 0 ≤ s ∧ s ≤ 18446744073709551615) (ht : 0 ≤ tag ∧ tag ≤ 65535) (ys : List Int) (hz : ∀ i, 0 ≤ ys.getD i 0 ∧ ys.getD i 0 ≤ 255) (m : Nat) (l : L4R) (hl : L4N l) (hk : l.k = if wholeB (num ((ys.drop 6).take 2)) = true then kindV (num ((ys.drop 9).take 1)) else 0) : PkN (ipR d s tg tag ys m l) :=
  ⟨⟨hd, hs, z64, z64⟩, ⟨z32, z32, nb4 hz 12, nb4 hz 16, hl.u32⟩, ⟨ht, t2048, z16, nb1w hz 1, nb2 hz 4, nb2 hz 6, nb1w hz 8, nb1 hz 9⟩, hl.i64, rfl, rfl, fun _ => hk⟩
theorem rest_n {d s : Int} {tg : Bool} {tag et : Int} (hd : 0 ≤ d ∧ d ≤ 18446744073709551615) (hs : 0 ≤ s ∧ s ≤ 18446744073709551615) (ht : 0 ≤ tag ∧ tag ≤ 65535) (he : 0 ≤ et ∧ et ≤ 65535) (ys : List Int) (hz : ∀ i, 0 ≤ ys.getD i 0 ∧ ys.getD i 0 ≤ 255) (x : PkR) (h : restR d s tg tag et ys = (x, 0)) : PkN x := by
  unfold restR at h
  have z1 : (0 : Int) ≤ 0 ∧ (0 : Int) ≤ 65535 := ⟨by decide, by decide⟩
  by_cases e1 : et = 2054
  · rw [if_pos e1] at h
    by_cases ea : arE ys = 0
    · rw [if_pos ea] at h
      injection h with h1 _
      subst h1
      exact ⟨⟨hd, hs, nb6 hz 8, nb6 hz 18⟩, ⟨nb4 hz 14, nb4 hz 24, z32, z32, z32, z32, z32⟩, ⟨ht, t2054, nb2 hz 6, z1, z1, z1, z1, z8⟩, ⟨z3, z1, z1, z1, z1, z1, z1, z1⟩, rfl, rfl, fun e => absurd (show (2054 : Int) = 2048 from e) (by decide)⟩
    · rw [if_neg ea] at h
      injection h with _ h2
      exact absurd h2 ea
  rw [if_neg e1] at h
  by_cases e2 : et = 2048
  · rw [if_pos e2] at h
    by_cases e0 : ipE ys = 0
    · rw [if_pos e0] at h
      unfold ipP at h
      by_cases hw : wholeB (num ((ys.drop 6).take 2)) = true
      · rw [if_pos hw] at h
        by_cases el : l4e ys (ipM ys) = 0
        · rw [if_pos el] at h
          injection h with h1 _
          subst h1
          refine ip_n hd hs ht ys hz _ _ (dec_n _ _ _ _ (Eth.fits_take (Eth.fits_drop hz _) _)) ?_
          rw [if_pos hw]
          exact decR_kind _ _ _ _ el
        · rw [if_neg el] at h
          injection h with _ h2
          exact absurd h2 el
      · rw [if_neg hw] at h
        injection h with h1 _
        subst h1
        refine ip_n hd hs ht ys hz _ _ (zero_n _) ?_
        rw [if_neg hw]
        rfl
    · rw [if_neg e0] at h
      injection h with _ h2
      exact absurd h2 e0
  · rw [if_neg e2] at h
    injection h with h1 _
    subst h1
    exact ⟨⟨hd, hs, z64, z64⟩, ⟨z32, z32, z32, z32, z32, z32, z32⟩, ⟨ht, he, z1, z1, z1, z1, z1, z8⟩, ⟨z3, z1, z1, z1, z1, z1, z1, z1⟩, (show false = (et == 2054) by simp [e1]), (show false = (et == 2048) by simp [e2]), fun e => absurd (show et = 2048 from e) e2⟩
theorem parse_n (zs : List Int) (hz : ∀ i, 0 ≤ zs.getD i 0 ∧ zs.getD i 0 ≤ 255) (x : PkR) (h : parseR zs = (x, 0)) : PkN x := by
  unfold parseR at h
  by_cases h0 : hdE zs = 0
  · rw [if_pos h0] at h
    refine rest_n ?_ (nb6 hz 6) ?_ ?_ _ (Eth.fits_drop hz _) x h
    · exact nb6 hz 0
    · unfold hdG; split
      · exact nb2 hz 14
      · exact ⟨by decide, by decide⟩
    · unfold hdY; split
      · exact nb2 hz 16
      · exact nb2 hz 12
  · rw [if_neg h0] at h
    injection h with _ h2
    exact absurd h2 h0
theorem parse_zero (zs : List Int) (x : PkR) (f : Int) (hf : f ≠ 0) (h : parseR zs = (x, f)) : x = zeroPkR := by
  unfold parseR at h
  by_cases h0 : hdE zs = 0
  · rw [if_pos h0] at h
    unfold restR at h
    split at h
    · split at h
      · injection h with _ h2; exact absurd h2.symm hf
      · injection h with h1 _; exact h1.symm
    split at h
    · split at h
      · unfold ipP at h
        split at h
        · split at h
          · injection h with _ h2; exact absurd h2.symm hf
          · injection h with h1 _; exact h1.symm
        · injection h with _ h2; exact absurd h2.symm hf
      · injection h with h1 _; exact h1.symm
    · injection h with _ h2; exact absurd h2.symm hf
  · rw [if_neg h0] at h
    injection h with h1 _; exact h1.symm
end Go.Proofs.YthodjgaaojmihaaDoor
