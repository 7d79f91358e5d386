/- Masks, lengths of numbers, bits from the top: plain facts and the walks of Mask and of math/bits. Conditions: as said. -/
import Derived.Test.YtlopnagajhjmmaaLA
import Derived.Lib.BitFns
namespace Go.Proofs.Ytlopnagajhjmmaa
open Go.RowKit
theorem wrapU32 (n : Nat) (h : n < 4294967296) : IntKind.u32.wrap (n : Int) = n := by
  simp [IntKind.wrap, IntKind.bits, IntKind.signed]; omega
def msk (n : Nat) : BitVec 32 := BitVec.allOnes 32 <<< (32 - n)
theorem msk_nat (n : Nat) : ((msk n).toNat : Int) = 4294967295 * 2 ^ (32 - n) % 4294967296 := by
  unfold msk
  rw [BitVec.toNat_shiftLeft, BitVec.toNat_allOnes, Nat.shiftLeft_eq]
  generalize 32 - n = k
  show ((4294967295 * 2 ^ k % 4294967296 : Nat) : Int) = _
  rw [Int.natCast_emod, Int.natCast_mul, Int.natCast_pow]
  rfl
theorem msk_msb (n i : Nat) (hn : n ≤ 32) (hi : i < 32) : (msk n).getMsbD i = decide (i < n) := by
  have _ := hi
  unfold msk
  rw [BitVec.getMsbD_shiftLeft, BitVec.getMsbD_allOnes]
  by_cases h : i < n
  · simp [h]; omega
  · simp [h]; omega
/-- The mask of any number. -/
def mskI (n : Int) : BitVec 32 := msk (min (max n 0) 32).toNat
theorem mskI_mid (n : Nat) (h : n ≤ 32) : mskI n = msk n := by
  unfold mskI; congr 1; omega
set_option maxHeartbeats 1000000 in
theorem mask_any (n : Int) (w : World) : Calls Try.prog 19 #[.int .i64 n] w fun e w' => e = .returned (.int .u32 (mskI n).toNat) ∧ w' = w := by
  have E : Hid (((mskI n).toNat : Int) = 4294967295 * 2 ^ (32 - (min (max n 0) 32).toNat) % 4294967296) := msk_nat _
  rcases (by omega : n < 0 ∨ (0 ≤ n ∧ n ≤ 32) ∨ 32 < n) with h | ⟨h0, h1⟩ | h
  · have e0 : 32 - (min (max n 0) 32).toNat = 32 := by omega
    rw [e0] at E
    go_enter Try.func19, Try.ntmps19
    go_wp2
    go_ret
    refine ⟨congrArg Ending.returned (congrArg (Value.int IntKind.u32) ?_), rfl⟩
    rw [E.out]
    try rfl
  · have e0 : 32 - (min (max n 0) 32).toNat = (32 - n).toNat := by omega
    rw [e0] at E
    go_enter Try.func19, Try.ntmps19
    go_wp2
    go_ret
    refine ⟨congrArg Ending.returned (congrArg (Value.int IntKind.u32) ?_), rfl⟩
    rw [E.out]
    try rfl
  · have e0 : 32 - (min (max n 0) 32).toNat = 0 := by omega
    rw [e0] at E
    go_enter Try.func19, Try.ntmps19
    go_wp2
    go_ret
    refine ⟨congrArg Ending.returned (congrArg (Value.int IntKind.u32) ?_), rfl⟩
    rw [E.out]
    try rfl
def bv32 (x : Int) : BitVec 32 := BitVec.ofInt 32 x
theorem bv_nat (b : BitVec 32) : bv32 (b.toNat : Int) = b := by
  unfold bv32
  rw [BitVec.ofInt_natCast]
  simp
theorem toNat_bv {x : Int} (h0 : 0 ≤ x) (h1 : x ≤ 4294967295) : ((bv32 x).toNat : Int) = x := by
  obtain ⟨n, rfl⟩ := Int.eq_ofNat_of_zero_le h0
  unfold bv32
  rw [BitVec.ofInt_natCast, BitVec.toNat_ofNat]
  omega
theorem bits_and (x y : Int) : bits BinOp.and IntKind.u32 x y = ((bv32 x &&& bv32 y).toNat : Int) := wrapU32 _ (BitVec.isLt _)
theorem bits_xor (x y : Int) : bits BinOp.xor IntKind.u32 x y = ((bv32 x ^^^ bv32 y).toNat : Int) := wrapU32 _ (BitVec.isLt _)
theorem bits_andNot (x y : Int) : bits BinOp.andNot IntKind.u32 x y = ((bv32 x &&& ~~~ bv32 y).toNat : Int) := wrapU32 _ (BitVec.isLt _)
theorem nat_in (b : BitVec 32) : 0 ≤ (b.toNat : Int) ∧ (b.toNat : Int) ≤ 4294967295 := by have := b.isLt; omega

/-! Bits from the top. -/
def hasB (p : BitVec 32) (n : Nat) (ip : BitVec 32) : Bool := (ip ^^^ p) &&& msk n == 0#32
def rightB (p : BitVec 32) (n : Nat) : Bool := p &&& ~~~ msk n == 0#32
theorem zero_msb (x : BitVec 32) : x = 0#32 ↔ ∀ i, i < 32 → x.getMsbD i = false := by
  constructor
  · rintro rfl i _; simp
  · intro h
    apply BitVec.eq_of_getMsbD_eq
    intro i hi
    rw [h i hi]; simp
theorem hasB_iff {p : BitVec 32} {n : Nat} {ip : BitVec 32} (hn : n ≤ 32) : hasB p n ip = true ↔ ∀ i, i < n → ip.getMsbD i = p.getMsbD i := by
  unfold hasB
  rw [beq_iff_eq, zero_msb]
  constructor
  · intro h i hi
    have := h i (by omega)
    rw [BitVec.getMsbD_and, BitVec.getMsbD_xor, msk_msb n i hn (by omega)] at this
    simpa [hi] using this
  · intro h i hi
    rw [BitVec.getMsbD_and, BitVec.getMsbD_xor, msk_msb n i hn hi]
    by_cases g : i < n
    · simp [h i g]
    · simp [g]
theorem rightB_iff {p : BitVec 32} {n : Nat} (hn : n ≤ 32) : rightB p n = true ↔ ∀ i, n ≤ i → p.getMsbD i = false := by
  unfold rightB
  rw [beq_iff_eq, zero_msb]
  constructor
  · intro h i hi
    by_cases g : i < 32
    · have := h i g
      rw [BitVec.getMsbD_and, BitVec.getMsbD_not, msk_msb n i hn g] at this
      have g' : ¬ i < n := by omega
      simpa [g, g'] using this
    · exact BitVec.getMsbD_of_ge _ _ (by omega)
  · intro h i hi
    rw [BitVec.getMsbD_and, BitVec.getMsbD_not, msk_msb n i hn hi]
    by_cases g : i < n
    · simp [g]
    · simp [h i (by omega)]
/-- Two prefixes of one length that have one address are the same. -/
theorem same_of_has {p q ip : BitVec 32} {n : Nat} (hn : n ≤ 32) (rp : rightB p n = true) (rq : rightB q n = true) (hp : hasB p n ip = true) (hq : hasB q n ip = true) : p = q := by
  rw [rightB_iff hn] at rp rq
  rw [hasB_iff hn] at hp hq
  apply BitVec.eq_of_getMsbD_eq
  intro i hi
  by_cases g : i < n
  · rw [← hp i g, ← hq i g]
  · rw [rp i (by omega), rq i (by omega)]
theorem toward_idx (ip : BitVec 32) (n : Nat) : ((ip <<< n) >>> 31).toNat = if ip.getMsbD n then 1 else 0 := by
  have e : (ip <<< n) >>> 31 = if ip.getMsbD n then 1#32 else 0#32 := by
    apply BitVec.eq_of_getLsbD_eq
    intro i hi
    rw [BitVec.getLsbD_ushiftRight, BitVec.getLsbD_shiftLeft]
    rw [BitVec.getMsbD_eq_getLsbD]
    by_cases h0 : i = 0
    · subst h0
      by_cases hn : n < 32
      · have : ¬ 31 < n := by omega
        by_cases hb : ip.getLsbD (32 - 1 - n) = true
        · have hb' : ip.getLsbD (31 - n) = true := hb
          simp [hn, this, hb']
        · have hb' : ip.getLsbD (31 - n) = false := by simpa using hb
          simp [hn, this, hb']
      · have : 31 < n := by omega
        simp [hn, this]
    · have : ¬ 31 + i < 32 := by omega
      simp only [this, decide_false, Bool.false_and]
      split <;> simp <;> omega
  rw [e]; split <;> rfl
theorem wr64 (k : Int) (h0 : 0 ≤ k) (h1 : k ≤ 1000) : wrap64 k = k := by
  unfold wrap64; omega
set_option maxHeartbeats 4000000 in
set_option maxRecDepth 100000 in
theorem len32_any (x : Int) (w : World) (h0 : 0 ≤ x) (h1 : x ≤ 4294967295) : Calls Try.prog 39 #[.int .u32 x] w fun e w' => e = .returned (.int .i64 (Lib.bitLen x.toNat)) ∧ w' = w := by
  rcases (by omega : x ≤ 255 ∨ 256 ≤ x) with g | g
  · have hs : x < 65536 := by omega
    have ht : x < 256 := by omega
    have E : Hid _ := Lib.len8_of x h0 g
    have l : Hid _ := Lib.bitLen_le8' x h0 g
    go_enter Try.func39, Try.ntmps39
    go_wp2
    go_ret
    refine ⟨congrArg Ending.returned (congrArg (Value.int IntKind.i64) ?_), rfl⟩
    rw [E.out]
    have := l.out
    first
      | rw [wr64 _ (by omega) (by omega), wr64 _ (by omega) (by omega)]
      | (rw [wr64 (Lib.bitLen _ : Int) (by omega) (by omega), wr64 _ (by omega) (by omega)]; omega)
      | (simp only [wrap64]; omega)
  rcases (by omega : x ≤ 65535 ∨ 65536 ≤ x) with g2 | g2
  · have hs : x < 65536 := by omega
    have b0 : 0 ≤ x / 256 := by omega
    have b1 : x / 256 ≤ 255 := by omega
    have E : Hid _ := Lib.len8_of (x / 256) b0 b1
    have l : Hid _ := Lib.bitLen_le8' (x / 256) b0 b1
    have s : Hid _ := Lib.bitLen_shift8 x.toNat (by omega) (by omega)
    have e0 : ((x / 256).toNat = x.toNat / 256) := by omega
    have e : Hid _ := e0
    clear e0
    go_enter Try.func39, Try.ntmps39
    go_wp2
    go_ret
    refine ⟨congrArg Ending.returned (congrArg (Value.int IntKind.i64) ?_), rfl⟩
    rw [E.out, s.out, ← e.out]
    have := l.out
    first
      | rw [wr64 _ (by omega) (by omega), wr64 _ (by omega) (by omega)]
      | (rw [wr64 (Lib.bitLen _ : Int) (by omega) (by omega), wr64 _ (by omega) (by omega)]; omega)
      | (simp only [wrap64]; omega)
  rcases (by omega : x / 65536 ≤ 255 ∨ 256 ≤ x / 65536) with g3 | g3
  · have b0 : 0 ≤ x / 65536 := by omega
    have hs : x / 65536 < 256 := by omega
    have E : Hid _ := Lib.len8_of (x / 65536) b0 g3
    have l : Hid _ := Lib.bitLen_le8' (x / 65536) b0 g3
    have s : Hid _ := Lib.bitLen_shift16 x.toNat (by omega) (by omega)
    have e0 : ((x / 65536).toNat = x.toNat / 65536) := by omega
    have e : Hid _ := e0
    clear e0
    go_enter Try.func39, Try.ntmps39
    go_wp2
    go_ret
    refine ⟨congrArg Ending.returned (congrArg (Value.int IntKind.i64) ?_), rfl⟩
    rw [E.out, s.out, ← e.out]
    have := l.out
    first
      | rw [wr64 _ (by omega) (by omega), wr64 _ (by omega) (by omega)]
      | (rw [wr64 (Lib.bitLen _ : Int) (by omega) (by omega), wr64 _ (by omega) (by omega)]; omega)
      | (simp only [wrap64]; omega)
  · have b0 : 0 ≤ x / 65536 / 256 := by omega
    have b1 : x / 65536 / 256 ≤ 255 := by omega
    have E : Hid _ := Lib.len8_of (x / 65536 / 256) b0 b1
    have l : Hid _ := Lib.bitLen_le8' (x / 65536 / 256) b0 b1
    have s : Hid _ := Lib.bitLen_shift24 x.toNat (by omega) (by omega)
    have e0 : ((x / 65536 / 256).toNat = x.toNat / 16777216) := by omega
    have e : Hid _ := e0
    clear e0
    go_enter Try.func39, Try.ntmps39
    go_wp2
    go_ret
    refine ⟨congrArg Ending.returned (congrArg (Value.int IntKind.i64) ?_), rfl⟩
    rw [E.out, s.out, ← e.out]
    have := l.out
    first
      | rw [wr64 _ (by omega) (by omega), wr64 _ (by omega) (by omega)]
      | (rw [wr64 (Lib.bitLen _ : Int) (by omega) (by omega), wr64 _ (by omega) (by omega)]; omega)
      | (simp only [wrap64]; omega)
set_option maxHeartbeats 1000000 in
theorem lz32_any (x : Int) (w : World) (h0 : 0 ≤ x) (h1 : x ≤ 4294967295) : Calls Try.prog 36 #[.int .u32 x] w fun e w' => e = .returned (.int .i64 (32 - (Lib.bitLen x.toNat : Int))) ∧ w' = w := by
  have l : Lib.bitLen x.toNat ≤ 32 := Lib.bitLen_le x.toNat 32 (by omega) (by omega)
  go_enter Try.func36, Try.ntmps36
  go_wp2_with (go_at_call 39; refine (len32_any _ _ h0 h1).mono ?_; rintro e w' ⟨rfl, rfl⟩)
  go_ret
  exact ⟨rfl, rfl⟩
end Go.Proofs.Ytlopnagajhjmmaa
