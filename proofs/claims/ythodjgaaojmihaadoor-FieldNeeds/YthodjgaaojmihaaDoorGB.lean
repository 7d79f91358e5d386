/- The State of a frame that was read, and its needs. -/
import Derived.Test.YthodjgaaojmihaaDoorGA
namespace Go.Proofs.YthodjgaaojmihaaDoor
open Go.RowKit
set_option maxRecDepth 20000
def stC (x : PkR) : Array Value := #[.int .u64 x.d, .int .u64 x.s, .bool x.tg, .int .i64 x.tag, .int .i64 x.et, .bool x.ia, .int .i64 x.op, .int .u64 x.sha, .int .u32 x.spa, .int .u64 x.tha, .int .u32 x.tpa, .bool x.ii, .int .i64 x.tos, .int .i64 x.id, .int .i64 x.fr, .int .i64 x.ttl, .int .i64 x.pr, .int .u32 x.src, .int .u32 x.dst, .string (strOfNums x.io), .int .i64 x.l.k, .int .i64 x.l.ty, .int .i64 x.l.co, .int .u32 x.l.re, .int .i64 x.l.sp, .int .i64 x.l.dp, .bool x.l.ns, .int .u32 x.l.sq, .int .u32 x.l.ak, .int .i64 x.l.fl, .int .i64 x.l.wi, .int .i64 x.l.ur, .string (strOfNums x.l.os), .string (strOfNums x.l.ds), .string (strOfNums x.bd), .string (strOfNums x.pd), .int .i64 0, .int .i64 0, .int .i64 0, .int .i64 0, .int .u32 0, .int .u32 0, .int .u32 0, .int .u32 0, .int .i64 0, .int .u32 0, .int .u32 0, .int .i64 0, .int .i64 0]
theorem stC_built (x : PkR) : Tryd.prog.built 43 [(0, .agg x.ps)] = some (stC x) := by kernel_rfl
theorem stC_size (x : PkR) : (stC x).size = 49 := rfl
theorem stC_one (x : PkR) : (stC x).all (·.oneCell') = true := by kernel_rfl
theorem wide16 {v : Int} (h : 0 ≤ v ∧ v ≤ 65535) : -9223372036854775808 ≤ v ∧ v ≤ 9223372036854775807 := by omega
theorem stN {x : PkR} (hx : PkN x) : Fl.St (stC x) := by
  obtain ⟨⟨a1, a2, a3, a4⟩, ⟨b1, b2, b3, b4, b5, b6, b7⟩, ⟨c1, c2, c3, c4, c5, c6, c7, c8⟩, ⟨e1, e2, e3, e4, e5, e6, e7, e8⟩, _, _, _⟩ := hx
  have z : (-9223372036854775808 : Int) ≤ 0 ∧ (0 : Int) ≤ 9223372036854775807 := ⟨by decide, by decide⟩
  have z' : (0 : Int) ≤ 0 ∧ (0 : Int) ≤ 4294967295 := ⟨by decide, by decide⟩
  have c8' : -9223372036854775808 ≤ x.pr ∧ x.pr ≤ 9223372036854775807 := by omega
  have e1' : -9223372036854775808 ≤ x.l.k ∧ x.l.k ≤ 9223372036854775807 := by omega
  refine ⟨rfl, stC_one x, fun i hi => ?_, fun i hi => ?_, fun i hi => ?_, fun i hi => ?_, fun i hi => ?_⟩
  · simp only [List.mem_cons, List.not_mem_nil, or_false] at hi
    rcases hi with rfl | rfl | rfl | rfl
    · exact ⟨_, rfl, a1⟩
    · exact ⟨_, rfl, a2⟩
    · exact ⟨_, rfl, a3⟩
    · exact ⟨_, rfl, a4⟩
  · simp only [List.mem_cons, List.not_mem_nil, or_false] at hi
    rcases hi with rfl | rfl | rfl | rfl | rfl | rfl | rfl | rfl | rfl | rfl | rfl | rfl | rfl | rfl | rfl | rfl | rfl | rfl | rfl | rfl | rfl | rfl | rfl
    · exact ⟨_, rfl, wide16 c1⟩
    · exact ⟨_, rfl, wide16 c2⟩
    · exact ⟨_, rfl, wide16 c3⟩
    · exact ⟨_, rfl, wide16 c4⟩
    · exact ⟨_, rfl, wide16 c5⟩
    · exact ⟨_, rfl, wide16 c6⟩
    · exact ⟨_, rfl, wide16 c7⟩
    · exact ⟨_, rfl, c8'⟩
    · exact ⟨_, rfl, e1'⟩
    · exact ⟨_, rfl, wide16 e2⟩
    · exact ⟨_, rfl, wide16 e3⟩
    · exact ⟨_, rfl, wide16 e4⟩
    · exact ⟨_, rfl, wide16 e5⟩
    · exact ⟨_, rfl, wide16 e6⟩
    · exact ⟨_, rfl, wide16 e7⟩
    · exact ⟨_, rfl, wide16 e8⟩
    · exact ⟨_, rfl, z⟩
    · exact ⟨_, rfl, z⟩
    · exact ⟨_, rfl, z⟩
    · exact ⟨_, rfl, z⟩
    · exact ⟨_, rfl, z⟩
    · exact ⟨_, rfl, z⟩
    · exact ⟨_, rfl, z⟩
  · simp only [List.mem_cons, List.not_mem_nil, or_false] at hi
    rcases hi with rfl | rfl | rfl | rfl | rfl | rfl | rfl | rfl | rfl | rfl | rfl | rfl | rfl
    · exact ⟨_, rfl, b1⟩
    · exact ⟨_, rfl, b2⟩
    · exact ⟨_, rfl, b3⟩
    · exact ⟨_, rfl, b4⟩
    · exact ⟨_, rfl, b5⟩
    · exact ⟨_, rfl, b6⟩
    · exact ⟨_, rfl, b7⟩
    · exact ⟨_, rfl, z'⟩
    · exact ⟨_, rfl, z'⟩
    · exact ⟨_, rfl, z'⟩
    · exact ⟨_, rfl, z'⟩
    · exact ⟨_, rfl, z'⟩
    · exact ⟨_, rfl, z'⟩
  · simp only [List.mem_cons, List.not_mem_nil, or_false] at hi
    rcases hi with rfl | rfl | rfl | rfl <;> exact ⟨_, rfl⟩
  · simp only [List.mem_cons, List.not_mem_nil, or_false] at hi
    rcases hi with rfl | rfl | rfl | rfl | rfl <;> exact ⟨_, rfl⟩
theorem u64_and (n : Int) (k : Nat) (hk : k ≤ 16) (M : Int) (hM : (BitVec.ofInt 64 M).toNat = 2 ^ k - 1) (h0 : 0 ≤ n) (h1 : n < 2 ^ k) : bits .and .u64 n M = n := by
  rw [Fl.bits_and]
  show ((BitVec.ofInt 64 n &&& BitVec.ofInt 64 M).toNat : Int) = n
  rw [BitVec.toNat_and, BitVec.toNat_ofInt, hM, Nat.and_two_pow_sub_one_eq_mod]
  have h2 : (2 : Int) ^ k ≤ 2 ^ 16 := by exact_mod_cast Nat.pow_le_pow_right (by decide) hk
  have h3 : (n % ((2 ^ 64 : Nat) : Int)).toNat = n.toNat := by omega
  rw [h3, Nat.mod_eq_of_lt (by have : ((2 ^ k : Nat) : Int) = 2 ^ k := by norm_cast
                               omega)]
  omega
theorem and16u {n : Int} (h : 0 ≤ n ∧ n ≤ 65535) : bits .and .u64 n 65535 = n := u64_and n 16 (by decide) 65535 (by decide) h.1 (by omega)
theorem and8u {n : Int} (h : 0 ≤ n ∧ n ≤ 255) : bits .and .u64 n 255 = n := u64_and n 8 (by decide) 255 (by decide) h.1 (by omega)
theorem get3 {x : PkR} (hx : PkN x) (w : World) : Calls Tryd.prog 7 #[.agg (stC x), .int .i64 3] w fun e w' => e = .returned (.tuple #[.int .u64 x.et, .int .i64 0]) ∧ Below w.heap.size w w' := by
  have := Fl.get_any 3 (by decide) (by decide) _ (stN hx) w
  rw [if_pos (show Fl.hasF 3 (stC x) = true from rfl)] at this
  have he : bits BinOp.and IntKind.u64 (Fl.rdF 3 (stC x)) (2 ^ Fl.fBits 3 - 1) = x.et := by
    show bits BinOp.and IntKind.u64 (IntKind.u64.wrap x.et) 65535 = x.et
    have := hx.i64.2.1
    rw [Fl.wrap_id this.1 (by omega), and16u this]
  rw [he] at this
  exact this
theorem get12 {x : PkR} (hx : PkN x) (w : World) : Calls Tryd.prog 7 #[.agg (stC x), .int .i64 12] w fun e w' => e = .returned (.tuple #[.int .u64 (if x.ii then x.pr else 0), .int .i64 (if x.ii then 0 else 81)]) ∧ Below w.heap.size w w' := by
  have := Fl.get_any 12 (by decide) (by decide) _ (stN hx) w
  rw [show Fl.hasF 12 (stC x) = x.ii from rfl] at this
  have he : bits BinOp.and IntKind.u64 (Fl.rdF 12 (stC x)) (2 ^ Fl.fBits 12 - 1) = x.pr := by
    show bits BinOp.and IntKind.u64 (IntKind.u64.wrap x.pr) 255 = x.pr
    have := hx.i64.2.2.2.2.2.2.2
    rw [Fl.wrap_id this.1 (by omega), and8u this]
  rw [he] at this
  cases hii : x.ii
  · rw [hii] at this; exact this
  · rw [hii] at this; exact this
def ndV (o : Nat) : Int := if o = 1 then 2054 else 2048
def ndW (o : Nat) : Int := if o = 3 then 1 else 6
/-- Are the first needs of a sort met? -/
def ndk (x : PkR) (o : Nat) : Nat → Bool
  | 0 => true
  | 1 => x.et == ndV o
  | _ => x.et == ndV o && (x.ii && x.pr == ndW o)
def nd (x : PkR) (o : Nat) : Bool := ndk x o (Fl.needLen o)
theorem need0 (o : Nat) (h : 0 < Fl.needLen o) : (Fl.needC o)[0]? = some (.int .i64 3) ∧ (Fl.needC o)[1]? = some (.int .u64 (ndV o)) ∧ (Fl.needC o)[2]? = some (.int .u64 65535) := by
  match o with
  | 0 => exact absurd h (by decide)
  | 1 => exact ⟨rfl, rfl, rfl⟩
  | 2 => exact ⟨rfl, rfl, rfl⟩
  | 3 => exact ⟨rfl, rfl, rfl⟩
  | 4 => exact ⟨rfl, rfl, rfl⟩
  | 5 => exact ⟨rfl, rfl, rfl⟩
  | n + 6 => exact absurd h (by show ¬ 0 < 0; decide)
theorem need1 (o : Nat) (h : 1 < Fl.needLen o) : (Fl.needC o)[3]? = some (.int .i64 12) ∧ (Fl.needC o)[4]? = some (.int .u64 (ndW o)) ∧ (Fl.needC o)[5]? = some (.int .u64 255) := by
  match o with
  | 0 => exact absurd h (by decide)
  | 1 => exact absurd h (by decide)
  | 2 => exact absurd h (by decide)
  | 3 => exact ⟨rfl, rfl, rfl⟩
  | 4 => exact absurd h (by decide)
  | 5 => exact ⟨rfl, rfl, rfl⟩
  | n + 6 => exact absurd h (by show ¬ 1 < 0; decide)
theorem needLen_le (o : Nat) : Fl.needLen o ≤ 2 := by
  unfold Fl.needLen; split <;> decide
theorem fOf_four (f : Nat) : Fl.fOf f = 4 → f = 18 ∨ f = 19 := by
  unfold Fl.fOf; split <;> simp
theorem ofB_nd {x : PkR} (hx : PkN x) (o : Nat) (ho : o ≤ 5) : (Fl.ofB o x.ia x.ii x.l.k = true → nd x o = true) ∧ (nd x o = true → Fl.ofB o x.ia x.ii x.l.k = false → o = 4 ∨ wholeB x.fr = false) := by
  have hia := hx.ia
  have hii := hx.ii
  have hk := hx.kind
  match o, ho with
  | 0, _ => exact ⟨fun _ => rfl, fun _ h => absurd (show true = false from h) (by decide)⟩
  | 1, _ =>
    refine ⟨fun h => ?_, fun h1 h2 => ?_⟩
    · have : x.ia = true := h
      rw [hia] at this
      exact this
    · have a : x.ia = false := h2
      have b : (x.et == 2054) = true := h1
      rw [hia, b] at a
      exact absurd a (by decide)
  | 2, _ =>
    refine ⟨fun h => ?_, fun h1 h2 => ?_⟩
    · have : x.ii = true := h
      rw [hii] at this
      exact this
    · have a : x.ii = false := h2
      have b : (x.et == 2048) = true := h1
      rw [hii, b] at a
      exact absurd a (by decide)
  | 4, _ =>
    refine ⟨fun h => ?_, fun _ _ => .inl rfl⟩
    have h' : (x.ii && (x.l.k == 2 || x.l.k == 3)) = true := h
    rw [Bool.and_eq_true] at h'
    have := h'.1
    rw [hii] at this
    exact this
  | 3, _ =>
    refine ⟨fun h => ?_, fun h1 h2 => ?_⟩
    · have h' : (x.ii && x.l.k == 1) = true := h
      rw [Bool.and_eq_true, beq_iff_eq, hii] at h'
      have he : x.et = 2048 := by simpa using h'.1
      have hkk := hk he
      rw [h'.2] at hkk
      show (x.et == 2048 && (x.ii && x.pr == 1)) = true
      rw [h'.1, hii, h'.1]
      split at hkk
      · unfold kindV at hkk
        split at hkk
        · rename_i hp; simp [hp]
        · split at hkk
          · omega
          · split at hkk <;> omega
      · omega
    · right
      have h1' : (x.et == 2048 && (x.ii && x.pr == 1)) = true := h1
      simp only [Bool.and_eq_true, beq_iff_eq] at h1'
      obtain ⟨a, b, c⟩ := h1'
      have h2' : (x.ii && x.l.k == 1) = false := h2
      rw [b] at h2'
      have hkk := hk a
      rw [c] at hkk
      cases hw : wholeB x.fr
      · rfl
      · rw [hw, if_pos rfl] at hkk
        rw [hkk] at h2'
        exact absurd h2' (by decide)
  | 5, _ =>
    refine ⟨fun h => ?_, fun h1 h2 => ?_⟩
    · have h' : (x.ii && x.l.k == 3) = true := h
      rw [Bool.and_eq_true, beq_iff_eq, hii] at h'
      have he : x.et = 2048 := by simpa using h'.1
      have hkk := hk he
      rw [h'.2] at hkk
      show (x.et == 2048 && (x.ii && x.pr == 6)) = true
      rw [h'.1, hii, h'.1]
      split at hkk
      · unfold kindV at hkk
        split at hkk
        · omega
        · split at hkk
          · omega
          · split at hkk
            · rename_i hp; simp [hp]
            · omega
      · omega
    · right
      have h1' : (x.et == 2048 && (x.ii && x.pr == 6)) = true := h1
      simp only [Bool.and_eq_true, beq_iff_eq] at h1'
      obtain ⟨a, b, c⟩ := h1'
      have h2' : (x.ii && x.l.k == 3) = false := h2
      rw [b] at h2'
      have hkk := hk a
      rw [c] at hkk
      cases hw : wholeB x.fr
      · rfl
      · rw [hw, if_pos rfl] at hkk
        rw [hkk] at h2'
        exact absurd h2' (by decide)
end Go.Proofs.YthodjgaaojmihaaDoor
