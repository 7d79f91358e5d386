/- Fields set in a State, as pure facts: what is a State stays one, other fields stay, two are set in either order. No condition. -/
import Derived.Test.YtnahhmcmahbnkaaGreatDoorFG
namespace Go.Proofs.YtnahhmcmahbnkaaGreatDoor
open Go.RowKit

theorem get_set {cs : Array Value} (hs : cs.size = 49) (i j : Nat) (v : Value) (hi : i < 49) : (cs.setIfInBounds i v)[j]? = if i = j then some v else cs[j]? := by
  rw [Array.getElem?_setIfInBounds]
  by_cases h : i = j
  · subst h; simp [hs, hi]
  · simp [h]

theorem st_put {cs : Array Value} (h : St cs) (i : Nat) (v : Value) (hi : i < 49) (hv : v.oneCell' = true)
    (ku : i ∈ [0, 1, 7, 9] → ∃ x, v = .int .u64 x ∧ 0 ≤ x ∧ x ≤ 18446744073709551615)
    (ki : i ∈ [3, 4, 6, 12, 13, 14, 15, 16, 20, 21, 22, 24, 25, 29, 30, 31, 36, 37, 38, 39, 44, 47, 48] → ∃ x, v = .int .i64 x ∧ -9223372036854775808 ≤ x ∧ x ≤ 9223372036854775807)
    (k3 : i ∈ [8, 10, 17, 18, 23, 27, 28, 40, 41, 42, 43, 45, 46] → ∃ x, v = .int .u32 x ∧ 0 ≤ x ∧ x ≤ 4294967295)
    (kb : i ∈ [2, 5, 11, 26] → ∃ b, v = .bool b) (ks : i ∈ [19, 32, 33, 34, 35] → ∃ s, v = .string s) : St (cs.setIfInBounds i v) := by
  have gs := fun j => get_set h.size i j v hi
  refine ⟨by simp [h.size], set_one h.one hv, fun j hj => ?_, fun j hj => ?_, fun j hj => ?_, fun j hj => ?_, fun j hj => ?_⟩ <;> rw [gs j] <;> by_cases e : i = j
  · obtain ⟨x, rfl, hx⟩ := ku (e ▸ hj); exact ⟨x, by simp [e], hx⟩
  · simpa [e] using h.u64 j hj
  · obtain ⟨x, rfl, hx⟩ := ki (e ▸ hj); exact ⟨x, by simp [e], hx⟩
  · simpa [e] using h.i64 j hj
  · obtain ⟨x, rfl, hx⟩ := k3 (e ▸ hj); exact ⟨x, by simp [e], hx⟩
  · simpa [e] using h.u32 j hj
  · obtain ⟨x, rfl⟩ := kb (e ▸ hj); exact ⟨x, by simp [e]⟩
  · simpa [e] using h.bool j hj
  · obtain ⟨x, rfl⟩ := ks (e ▸ hj); exact ⟨x, by simp [e]⟩
  · simpa [e] using h.str j hj
theorem wrap64_in (x : Int) : -9223372036854775808 ≤ wrap64 x ∧ wrap64 x ≤ 9223372036854775807 := by unfold wrap64; omega
theorem st_tag {cs : Array Value} (h : St cs) (b : Bool) (x : Int) (hx : -9223372036854775808 ≤ x ∧ x ≤ 9223372036854775807) : St ((cs.setIfInBounds 2 (.bool b)).setIfInBounds 3 (.int .i64 x)) := by
  have h2 := st_put h 2 (.bool b) (by decide) rfl (fun h => absurd h (by decide)) (fun h => absurd h (by decide)) (fun h => absurd h (by decide)) (fun _ => ⟨b, rfl⟩) (fun h => absurd h (by decide))
  exact st_put h2 3 (.int .i64 x) (by decide) rfl (fun h => absurd h (by decide)) (fun _ => ⟨x, rfl, hx⟩) (fun h => absurd h (by decide)) (fun h => absurd h (by decide)) (fun h => absurd h (by decide))
theorem st_wr {cs : Array Value} (h : St cs) (f : Nat) (hf : 1 ≤ f) (hf2 : f ≤ 28) (x : Int) (hx : 0 ≤ x ∧ x ≤ 18446744073709551615) : St (wrF f cs x) := by
  rcases (show f = 1 ∨ f = 2 ∨ f = 3 ∨ f = 4 ∨ f = 5 ∨ f = 6 ∨ f = 7 ∨ f = 8 ∨ f = 9 ∨ f = 10 ∨ f = 11 ∨ f = 12 ∨ f = 13 ∨ f = 14 ∨ f = 15 ∨ f = 16 ∨ f = 17 ∨ f = 18 ∨ f = 19 ∨ f = 20 ∨ f = 21 ∨ f = 22 ∨ f = 23 ∨ f = 24 ∨ f = 25 ∨ f = 26 ∨ f = 27 ∨ f = 28 from by omega) with rfl | rfl | rfl | rfl | rfl | rfl | rfl | rfl | rfl | rfl | rfl | rfl | rfl | rfl | rfl | rfl | rfl | rfl | rfl | rfl | rfl | rfl | rfl | rfl | rfl | rfl | rfl | rfl
  · exact st_put h 0 (.int .u64 (x)) (by decide) rfl (fun _ => ⟨x, rfl, hx⟩) (fun h => absurd h (by decide)) (fun h => absurd h (by decide)) (fun h => absurd h (by decide)) (fun h => absurd h (by decide))
  · exact st_put h 1 (.int .u64 (x)) (by decide) rfl (fun _ => ⟨x, rfl, hx⟩) (fun h => absurd h (by decide)) (fun h => absurd h (by decide)) (fun h => absurd h (by decide)) (fun h => absurd h (by decide))
  · exact st_put h 4 (.int .i64 (wrap64 x)) (by decide) rfl (fun h => absurd h (by decide)) (fun _ => ⟨wrap64 x, rfl, wrap64_in x⟩) (fun h => absurd h (by decide)) (fun h => absurd h (by decide)) (fun h => absurd h (by decide))
  · show St (if (bits BinOp.and IntKind.u64 x 65536 != 0) then tagYes cs x else tagNo cs)
    split
    · exact st_tag (st_tag h false 0 (by omega)) true _ (wrap64_in _)
    · exact st_tag h false 0 (by omega)
  · exact st_put h 6 (.int .i64 (wrap64 x)) (by decide) rfl (fun h => absurd h (by decide)) (fun _ => ⟨wrap64 x, rfl, wrap64_in x⟩) (fun h => absurd h (by decide)) (fun h => absurd h (by decide)) (fun h => absurd h (by decide))
  · exact st_put h 7 (.int .u64 (x)) (by decide) rfl (fun _ => ⟨x, rfl, hx⟩) (fun h => absurd h (by decide)) (fun h => absurd h (by decide)) (fun h => absurd h (by decide)) (fun h => absurd h (by decide))
  · exact st_put h 8 (.int .u32 (x % 4294967296)) (by decide) rfl (fun h => absurd h (by decide)) (fun h => absurd h (by decide)) (fun _ => ⟨x % 4294967296, rfl, by omega⟩) (fun h => absurd h (by decide)) (fun h => absurd h (by decide))
  · exact st_put h 9 (.int .u64 (x)) (by decide) rfl (fun _ => ⟨x, rfl, hx⟩) (fun h => absurd h (by decide)) (fun h => absurd h (by decide)) (fun h => absurd h (by decide)) (fun h => absurd h (by decide))
  · exact st_put h 10 (.int .u32 (x % 4294967296)) (by decide) rfl (fun h => absurd h (by decide)) (fun h => absurd h (by decide)) (fun _ => ⟨x % 4294967296, rfl, by omega⟩) (fun h => absurd h (by decide)) (fun h => absurd h (by decide))
  · exact st_put h 17 (.int .u32 (x % 4294967296)) (by decide) rfl (fun h => absurd h (by decide)) (fun h => absurd h (by decide)) (fun _ => ⟨x % 4294967296, rfl, by omega⟩) (fun h => absurd h (by decide)) (fun h => absurd h (by decide))
  · exact st_put h 18 (.int .u32 (x % 4294967296)) (by decide) rfl (fun h => absurd h (by decide)) (fun h => absurd h (by decide)) (fun _ => ⟨x % 4294967296, rfl, by omega⟩) (fun h => absurd h (by decide)) (fun h => absurd h (by decide))
  · exact st_put h 16 (.int .i64 (wrap64 x)) (by decide) rfl (fun h => absurd h (by decide)) (fun _ => ⟨wrap64 x, rfl, wrap64_in x⟩) (fun h => absurd h (by decide)) (fun h => absurd h (by decide)) (fun h => absurd h (by decide))
  · exact st_put h 15 (.int .i64 (wrap64 x)) (by decide) rfl (fun h => absurd h (by decide)) (fun _ => ⟨wrap64 x, rfl, wrap64_in x⟩) (fun h => absurd h (by decide)) (fun h => absurd h (by decide)) (fun h => absurd h (by decide))
  · exact st_put h 12 (.int .i64 (wrap64 x)) (by decide) rfl (fun h => absurd h (by decide)) (fun _ => ⟨wrap64 x, rfl, wrap64_in x⟩) (fun h => absurd h (by decide)) (fun h => absurd h (by decide)) (fun h => absurd h (by decide))
  · exact st_put h 14 (.int .i64 (wrap64 x)) (by decide) rfl (fun h => absurd h (by decide)) (fun _ => ⟨wrap64 x, rfl, wrap64_in x⟩) (fun h => absurd h (by decide)) (fun h => absurd h (by decide)) (fun h => absurd h (by decide))
  · exact st_put h 21 (.int .i64 (wrap64 x)) (by decide) rfl (fun h => absurd h (by decide)) (fun _ => ⟨wrap64 x, rfl, wrap64_in x⟩) (fun h => absurd h (by decide)) (fun h => absurd h (by decide)) (fun h => absurd h (by decide))
  · exact st_put h 22 (.int .i64 (wrap64 x)) (by decide) rfl (fun h => absurd h (by decide)) (fun _ => ⟨wrap64 x, rfl, wrap64_in x⟩) (fun h => absurd h (by decide)) (fun h => absurd h (by decide)) (fun h => absurd h (by decide))
  · exact st_put h 24 (.int .i64 (wrap64 x)) (by decide) rfl (fun h => absurd h (by decide)) (fun _ => ⟨wrap64 x, rfl, wrap64_in x⟩) (fun h => absurd h (by decide)) (fun h => absurd h (by decide)) (fun h => absurd h (by decide))
  · exact st_put h 25 (.int .i64 (wrap64 x)) (by decide) rfl (fun h => absurd h (by decide)) (fun _ => ⟨wrap64 x, rfl, wrap64_in x⟩) (fun h => absurd h (by decide)) (fun h => absurd h (by decide)) (fun h => absurd h (by decide))
  · exact st_put h 29 (.int .i64 (wrap64 x)) (by decide) rfl (fun h => absurd h (by decide)) (fun _ => ⟨wrap64 x, rfl, wrap64_in x⟩) (fun h => absurd h (by decide)) (fun h => absurd h (by decide)) (fun h => absurd h (by decide))
  · exact st_put h 36 (.int .i64 (wrap64 x)) (by decide) rfl (fun h => absurd h (by decide)) (fun _ => ⟨wrap64 x, rfl, wrap64_in x⟩) (fun h => absurd h (by decide)) (fun h => absurd h (by decide)) (fun h => absurd h (by decide))
  · exact st_put h 37 (.int .i64 (wrap64 x)) (by decide) rfl (fun h => absurd h (by decide)) (fun _ => ⟨wrap64 x, rfl, wrap64_in x⟩) (fun h => absurd h (by decide)) (fun h => absurd h (by decide)) (fun h => absurd h (by decide))
  · exact st_put h 38 (.int .i64 (wrap64 x)) (by decide) rfl (fun h => absurd h (by decide)) (fun _ => ⟨wrap64 x, rfl, wrap64_in x⟩) (fun h => absurd h (by decide)) (fun h => absurd h (by decide)) (fun h => absurd h (by decide))
  · exact st_put h 39 (.int .i64 (wrap64 x)) (by decide) rfl (fun h => absurd h (by decide)) (fun _ => ⟨wrap64 x, rfl, wrap64_in x⟩) (fun h => absurd h (by decide)) (fun h => absurd h (by decide)) (fun h => absurd h (by decide))
  · exact st_put h 40 (.int .u32 (x % 4294967296)) (by decide) rfl (fun h => absurd h (by decide)) (fun h => absurd h (by decide)) (fun _ => ⟨x % 4294967296, rfl, by omega⟩) (fun h => absurd h (by decide)) (fun h => absurd h (by decide))
  · exact st_put h 41 (.int .u32 (x % 4294967296)) (by decide) rfl (fun h => absurd h (by decide)) (fun h => absurd h (by decide)) (fun _ => ⟨x % 4294967296, rfl, by omega⟩) (fun h => absurd h (by decide)) (fun h => absurd h (by decide))
  · exact st_put h 42 (.int .u32 (x % 4294967296)) (by decide) rfl (fun h => absurd h (by decide)) (fun h => absurd h (by decide)) (fun _ => ⟨x % 4294967296, rfl, by omega⟩) (fun h => absurd h (by decide)) (fun h => absurd h (by decide))
  · exact st_put h 43 (.int .u32 (x % 4294967296)) (by decide) rfl (fun h => absurd h (by decide)) (fun h => absurd h (by decide)) (fun _ => ⟨x % 4294967296, rfl, by omega⟩) (fun h => absurd h (by decide)) (fun h => absurd h (by decide))

/-- Is a cell of a field? -/
def posB (f j : Nat) : Bool := if f = 4 then j == 2 || j == 3 else j == fIdx f
theorem pos_apart : ∀ f, f < 29 → ∀ g, g < 29 → 1 ≤ f → 1 ≤ g → f ≠ g → ∀ j, j < 49 → (posB f j && posB g j) = false := by
  have h : ((List.range 29).all fun f => (List.range 29).all fun g => (List.range 49).all fun j => f == 0 || g == 0 || f == g || !(posB f j && posB g j)) = true := by decide +kernel
  intro f hf g hg hf1 hg1 hn j hj
  have h1 := List.all_eq_true.1 h f (by simpa using hf)
  have h2 := List.all_eq_true.1 h1 g (by simpa using hg)
  have h3 := List.all_eq_true.1 h2 j (by simpa using hj)
  simp only [Bool.or_eq_true, beq_iff_eq, Bool.not_eq_true'] at h3
  rcases h3 with ((h3 | h3) | h3) | h3
  · omega
  · omega
  · exact absurd h3 hn
  · exact h3
theorem pos_free : ∀ f, f < 29 → 1 ≤ f → (posB f 5 || posB f 11 || posB f 20) = false := by decide +kernel
theorem idx_lt : ∀ f, f < 29 → fIdx f < 49 := by decide +kernel
theorem pos_idx (f : Nat) (h4 : f ≠ 4) : posB f (fIdx f) = true := by simp [posB, h4]

/-- What a field's cells are once it is set. -/
def patch (f : Nat) (x : Int) (j : Nat) : Value :=
  if f = 4 then (if j = 2 then .bool (bits BinOp.and IntKind.u64 x 65536 != 0) else if (bits BinOp.and IntKind.u64 x 65536 != 0) then .int .i64 (wrap64 (IntKind.u64.wrap (x - 65536))) else .int .i64 0)
  else .int (fKind f) (wrapK (fKind f) x)
theorem wr_size (f : Nat) (cs : Array Value) (x : Int) : (wrF f cs x).size = cs.size := by
  unfold wrF
  split
  · split
    · exact tagYes_size cs x
    · exact tagNo_size cs
  · simp
theorem wr_get {f : Nat} (hf : f < 29) {cs : Array Value} (hs : cs.size = 49) (x : Int) (j : Nat) : (wrF f cs x)[j]? = if posB f j then some (patch f x j) else cs[j]? := by
  unfold wrF posB patch
  by_cases h4 : f = 4
  · simp only [h4, if_true]
    have n2 : (cs.setIfInBounds 2 (.bool false)).size = 49 := by simp [hs]
    have nN : (tagNo cs).size = 49 := by rw [tagNo_size, hs]
    have nY : ((tagNo cs).setIfInBounds 2 (.bool true)).size = 49 := by simp [nN]
    have gN : (tagNo cs)[j]? = if 3 = j then some (.int .i64 0) else if 2 = j then some (.bool false) else cs[j]? := by
      unfold tagNo
      rw [get_set n2 3 j _ (by decide), get_set hs 2 j _ (by decide)]
    cases hb : (bits BinOp.and IntKind.u64 x 65536 != 0)
    · rw [if_neg (by simp), gN]
      by_cases e3 : j = 3
      · subst e3; simp
      · by_cases e2 : j = 2
        · subst e2; simp
        · simp [e2, e3, show ¬ 3 = j from fun e => e3 e.symm, show ¬ 2 = j from fun e => e2 e.symm]
    · rw [if_pos rfl]
      unfold tagYes
      rw [get_set nY 3 j _ (by decide), get_set nN 2 j _ (by decide), gN]
      by_cases e3 : j = 3
      · subst e3; simp
      · by_cases e2 : j = 2
        · subst e2; simp
        · simp [e2, e3, show ¬ 3 = j from fun e => e3 e.symm, show ¬ 2 = j from fun e => e2 e.symm]
  · simp only [h4, if_false]
    rw [get_set hs (fIdx f) j _ (idx_lt f hf)]
    by_cases e : j = fIdx f
    · subst e; simp
    · simp [e, show ¬ fIdx f = j from fun h => e h.symm]

theorem wr_comm {f g : Nat} (hf : 1 ≤ f) (hf2 : f < 29) (hg : 1 ≤ g) (hg2 : g < 29) (hn : f ≠ g) {cs : Array Value} (hs : cs.size = 49) (x y : Int) : wrF g (wrF f cs x) y = wrF f (wrF g cs y) x := by
  apply Array.ext_getElem?
  intro j
  rw [wr_get hg2 (by rw [wr_size, hs]), wr_get hf2 hs, wr_get hf2 (by rw [wr_size, hs]), wr_get hg2 hs]
  by_cases hj : j < 49
  · have := pos_apart f hf2 g hg2 hf hg hn j hj
    cases h1 : posB f j <;> cases h2 : posB g j <;> simp_all
  · have e1 : posB f j = false := by
      unfold posB
      have := idx_lt f hf2
      split <;> simp <;> omega
    have e2 : posB g j = false := by
      unfold posB
      have := idx_lt g hg2
      split <;> simp <;> omega
    simp [e1, e2]
theorem num_other {f : Nat} (hf : f < 29) {cs : Array Value} (hs : cs.size = 49) (x : Int) {j : Nat} (hj : posB f j = false) : numAt (wrF f cs x) j = numAt cs j := by
  unfold numAt; rw [wr_get hf hs, hj]; simp
theorem bool_other {f : Nat} (hf : f < 29) {cs : Array Value} (hs : cs.size = 49) (x : Int) {j : Nat} (hj : posB f j = false) : boolAt (wrF f cs x) j = boolAt cs j := by
  unfold boolAt; rw [wr_get hf hs, hj]; simp
theorem rd_other {f g : Nat} (hf : 1 ≤ f) (hf2 : f < 29) (hg : 1 ≤ g) (hg2 : g < 29) (hn : g ≠ f) {cs : Array Value} (hs : cs.size = 49) (x : Int) : rdF g (wrF f cs x) = rdF g cs := by
  have ap : ∀ j, j < 49 → posB g j = true → posB f j = false := fun j hj hp => by
    have := pos_apart g hg2 f hf2 hg hf hn j hj
    simpa [hp] using this
  unfold rdF
  by_cases h4 : g = 4
  · rw [if_pos h4, if_pos h4, bool_other hf2 hs x (ap 2 (by decide) (by simp [posB, h4])), num_other hf2 hs x (ap 3 (by decide) (by simp [posB, h4]))]
  · rw [if_neg h4, if_neg h4, num_other hf2 hs x (ap _ (idx_lt g hg2) (pos_idx g h4))]
theorem has_other {f : Nat} (hf : 1 ≤ f) (hf2 : f < 29) (g : Nat) {cs : Array Value} (hs : cs.size = 49) (x : Int) : hasF g (wrF f cs x) = hasF g cs := by
  have := pos_free f hf2 hf
  simp only [Bool.or_eq_false_iff] at this
  unfold hasF
  rw [bool_other hf2 hs x this.1.1, bool_other hf2 hs x this.1.2, num_other hf2 hs x this.2]
theorem mix_other {f g : Nat} (hf : 1 ≤ f) (hf2 : f < 29) (hg : 1 ≤ g) (hg2 : g < 29) (hn : g ≠ f) {cs : Array Value} (hs : cs.size = 49) (x v m : Int) : mixV g (wrF f cs x) v m = mixV g cs v m := by
  unfold mixV; rw [rd_other hf hf2 hg hg2 hn hs x]

/-! Bits. -/
theorem wrapU (n : Nat) (h : n < 18446744073709551616) : IntKind.u64.wrap (n : Int) = n := by
  simp [IntKind.wrap, IntKind.bits, IntKind.signed]; omega
def bv (x : Int) : BitVec 64 := BitVec.ofInt 64 x
theorem bv_nat (b : BitVec 64) : bv (b.toNat : Int) = b := by
  unfold bv
  rw [BitVec.ofInt_natCast]
  simp
theorem toNat_bv {x : Int} (h0 : 0 ≤ x) (h1 : x ≤ 18446744073709551615) : ((bv x).toNat : Int) = x := by
  obtain ⟨n, rfl⟩ := Int.eq_ofNat_of_zero_le h0
  unfold bv
  rw [BitVec.ofInt_natCast, BitVec.toNat_ofNat]
  omega
theorem bits_and (x y : Int) : bits BinOp.and IntKind.u64 x y = ((bv x &&& bv y).toNat : Int) := wrapU _ (BitVec.isLt _)
theorem bits_or (x y : Int) : bits BinOp.or IntKind.u64 x y = ((bv x ||| bv y).toNat : Int) := wrapU _ (BitVec.isLt _)
theorem bits_andNot (x y : Int) : bits BinOp.andNot IntKind.u64 x y = ((bv x &&& ~~~ bv y).toNat : Int) := wrapU _ (BitVec.isLt _)
theorem nat_in (b : BitVec 64) : 0 ≤ (b.toNat : Int) ∧ (b.toNat : Int) ≤ 18446744073709551615 := by have := b.isLt; omega
theorem mix_in (f : Nat) (cs : Array Value) (v m : Int) : 0 ≤ mixV f cs v m ∧ mixV f cs v m ≤ 18446744073709551615 := by
  unfold mixV; rw [bits_or]; exact nat_in _
end Go.Proofs.YtnahhmcmahbnkaaGreatDoor
/- Bits, Name, Find of package field; Set of no field; lives. No condition. -/
namespace Go.Proofs.YtnahhmcmahbnkaaGreatDoor
open Go.RowKit

theorem field_bits (a b c d e : Value) (W : World) : (Instr.field 215 (.agg #[a, b, c, d, e]) 1).run Tryz.prog W = .ok b W := by
  simp [Instr.field, go_sem, asAgg]
theorem field_name (a b c d e : Value) (W : World) : (Instr.field 215 (.agg #[a, b, c, d, e]) 0).run Tryz.prog W = .ok a W := by
  simp [Instr.field, go_sem, asAgg]
theorem field_of (a b c d e : Value) (W : World) : (Instr.field 215 (.agg #[a, b, c, d, e]) 2).run Tryz.prog W = .ok c W := by
  simp [Instr.field, go_sem, asAgg]
set_option maxRecDepth 20000 in
set_option maxHeartbeats 400000 in
theorem bits_any (f : Nat) (hf : 1 ≤ f) (hf2 : f ≤ 28) (w : World) : Calls Tryz.prog 75 #[.int .i64 f] w fun e w' => e = .returned (.int .i64 (fBits f)) ∧ Below w.heap.size w w' := by
  go_enter Tryz.func75, Tryz.ntmps75
  go_wp2_with fail
  refine (rowOf_any f hf hf2 _).mono ?_
  rintro e W1 ⟨R, S, rfl, hrow, hb1⟩
  have HB : Hid _ := hb1
  clear hrow hb1
  unfold rowV
  have hfl := field_bits
  go_wp2
  go_ret
  exact ⟨rfl, HB.out⟩
set_option maxRecDepth 20000 in
set_option maxHeartbeats 400000 in
theorem name_any (f : Nat) (hf : 1 ≤ f) (hf2 : f ≤ 28) (w : World) : Calls Tryz.prog 73 #[.int .i64 f] w fun e w' => e = .returned (.string (fName f)) ∧ Below w.heap.size w w' := by
  go_enter Tryz.func73, Tryz.ntmps73
  go_wp2_with fail
  refine (rowOf_any f hf hf2 _).mono ?_
  rintro e W1 ⟨R, S, rfl, hrow, hb1⟩
  have HB : Hid _ := hb1
  clear hrow hb1
  unfold rowV
  have hfl := field_name
  go_wp2
  go_ret
  exact ⟨rfl, HB.out⟩
set_option maxRecDepth 20000 in
set_option maxHeartbeats 400000 in
theorem name_none (f : Int) (hf : f < 1 ∨ 28 < f) (w : World) : Calls Tryz.prog 73 #[.int .i64 f] w fun e w' => e = .returned (.string ⟨#[]⟩) ∧ Below w.heap.size w w' := by
  go_enter Tryz.func73, Tryz.ntmps73
  go_wp2_with fail
  refine (row_none f hf _).mono ?_
  rintro e W1 ⟨rfl, hb1⟩
  have HB : Hid _ := hb1
  clear hb1
  unfold rowV
  have hfl := field_name
  go_wp2
  go_ret
  exact ⟨rfl, HB.out⟩
set_option maxRecDepth 20000 in
set_option maxHeartbeats 400000 in
theorem bits_none (f : Int) (hf : f < 1 ∨ 28 < f) (w : World) : Calls Tryz.prog 75 #[.int .i64 f] w fun e w' => e = .returned (.int .i64 0) ∧ Below w.heap.size w w' := by
  go_enter Tryz.func75, Tryz.ntmps75
  go_wp2_with fail
  refine (row_none f hf _).mono ?_
  rintro e W1 ⟨rfl, hb1⟩
  have HB : Hid _ := hb1
  clear hb1
  unfold rowV
  have hfl := field_bits
  go_wp2
  go_ret
  exact ⟨rfl, HB.out⟩
/-- The field of a name, from k on; 0 if there is none. -/
def findF (name : ByteArray) (k : Nat) : Nat → Nat
  | 0 => 0
  | n + 1 => if (fName k).toList == name.toList then k else findF name (k + 1) n
theorem findF_step (name : ByteArray) (k : Nat) (hk : k ≤ 28) : findF name k (29 - k) = if (fName k).toList == name.toList then k else findF name (k + 1) (29 - (k + 1)) := by
  obtain ⟨n, hn⟩ : ∃ n, 29 - k = n + 1 := ⟨28 - k, by omega⟩
  rw [hn, show 29 - (k + 1) = n from by omega]
  rfl
set_option linter.unusedSimpArgs false in
set_option maxHeartbeats 1000000 in
set_option maxRecDepth 20000 in
theorem set_none (f : Int) (hf : f < 1 ∨ 28 < f) (cs : Array Value) (v m : Int) (w : World) :
    Calls Tryz.prog 199 #[.agg cs, .int .i64 f, .int .u64 v, .int .u64 m] w fun e w' => e = .returned (.tuple #[.agg zeroC, .int .i64 80]) ∧ Below w.heap.size w w' := by
  go_enter Tryz.func199, Tryz.ntmps199
  go_wp2_with fail
  refine (row_none f hf _).mono ?_
  rintro e W1 ⟨rfl, hb1⟩
  have hZ1 : W1.heap[w.heap.size + 1]? = some (.cells zeroC 38 (0, 0)) := (hb1.block _ (by simp)).trans (two_last _ _ _)
  have hlt1 : w.heap.size + 1 < W1.heap.size := by have := hb1.size; simp at this; omega
  have HZ1 : Hid _ := hZ1
  have HB1 : Hid (Below w.heap.size w W1) := (below2 w _ _).trans (hb1.mono (by simp; omega))
  clear hb1 hZ1
  unfold rowV
  go_wp2_with fail
  refine (isField_any ⟨#[]⟩ _ _ _ _ _).mono ?_
  rintro e W2 ⟨rfl, hb2⟩
  rw [show (⟨#[]⟩ : ByteArray).toList.isEmpty = true from by decide +kernel]
  have hZ2 : W2.heap[w.heap.size + 1]? = some (.cells zeroC 38 (0, 0)) := (hb2.block _ (by simp; omega)).trans ((heap_alloc_old _ _ (by omega)).trans HZ1.out)
  have HB2 : Hid (Below W1.heap.size W1 W2) := (below1 W1 _).trans (hb2.mono (by simp))
  have HZ2 : Hid _ := hZ2
  clear hb2 hZ2 HZ1
  go_wp2_with (first
    | refine wpList_store_row rfl 38 _ _ rfl (w.heap.size + 1) zeroC zeroC 38 rfl rfl HZ2.out (info_size zeroC_size) rfl zeroC_one ?_
    | fail)
  intro W9 z1 z2 z3 z4
  go_wp2
  refine bodyPost_ret (results_state (p := 8) (u := 9) rfl _ _ (w.heap.size + 1) zeroC rfl z1 zeroC_size) rfl ⟨rfl, ?_⟩
  exact HB1.out.trans ((HB2.out.mono HB1.out.size).trans (z4.mono (by omega)))
end Go.Proofs.YtnahhmcmahbnkaaGreatDoor
/- The rows of the table of actions. No condition. -/
namespace Go.Proofs.YtnahhmcmahbnkaaGreatDoor.Ac
open Go.RowKit
/-- A function without captures. -/
abbrev fnV (k : Nat) : Value := .func (Fn.func k) #[] #[]
/-- The table of actions. -/
def tabC : Array Value := #[.nilFunc, .nilFunc, .nilFunc, fnV 125, fnV 126, fnV 127, fnV 128, fnV 129, fnV 130,
  fnV 123, fnV 131, fnV 132, fnV 133, fnV 134, .nilFunc, fnV 135, fnV 131, .nilFunc,
  fnV 124, fnV 136, .nilFunc, fnV 124, fnV 136, .nilFunc, fnV 124, fnV 136, .nilFunc, fnV 124, fnV 136, .nilFunc,
  fnV 137, fnV 138, fnV 139, fnV 140, fnV 141, fnV 142, fnV 123, fnV 131, fnV 143,
  fnV 144, fnV 145, fnV 146, fnV 147, fnV 148, fnV 149]
theorem wpList_build_as {P : Program} {ops : Array Oper} {rest : List Oper} {op : Oper} {a : Act} {w : World} {Q : Exit → Act → World → Prop} (hgd : op.guard = none) (t : TypeId) (parts : Array (Nat × Operand)) (ho : op.op = .build t parts)
    (cells : Array Value) (hc : P.built t (parts.map fun (i, x) => (i, a.eval x)).toList = some cells)
    (h : wpList P ops Q rest (a.put op.dst (.agg cells)) w) : wpList P ops Q (op :: rest) a w := by
  refine wpList_plain hgd fun K hK => ?_
  unfold Oper.wp execOp
  simp only [ho, Sem.run_bind, run_build w t _ cells hc, Result.andThen_ok]
  exact hK _ _ h
theorem wpList_load_at {P : Program} {ops : Array Oper} {rest : List Oper} {op : Oper} {a : Act} {w : World} {Q : Exit → Act → World → Prop} (hgd : op.guard = none) (ty : TypeId) (x : Operand) (ho : op.op = .load ty x)
    (g o n : Nat) (hx : a.eval x = .pointer (some ⟨g, o, none⟩)) (cs : Array Value) (t : TypeId) (d : TypeDesc) (hg : w.heap[g]? = some (.cells cs t (0, 0)))
    (hu : P.underlying ty = some d) (hd : d.isRow = true) (hn : (cs.extract o (o + n)).size = n) (hi : (P.info? ty).map (·.size) = some n)
    (h : wpList P ops Q rest (a.put op.dst (.agg (cs.extract o (o + n)))) w) : wpList P ops Q (op :: rest) a w := by
  have hr := World.rangeAt_of_block hg o n
  refine wpList_load_mid hgd ty x ho g o hx (cs.extract o (o + n)).toList d hr hu hd (by rw [Array.length_toList, hn]; exact hi) ?_
  rw [Array.toArray_toList]
  exact h
theorem size3 : (Tryz.prog.info? 197).map (·.size) = some 3 := by kernel_rfl
theorem extract_one {cs : Array Value} (h : cs.all (·.oneCell') = true) (i j : Nat) : (cs.extract i j).all (·.oneCell') = true := by
  rw [Array.all_eq_true_iff_forall_mem] at *
  intro x hx
  obtain ⟨q, hq, rfl⟩ := Array.mem_iff_getElem.1 hx
  rw [Array.getElem_extract]
  exact h _ (Array.getElem_mem _)
theorem tab_size (k : Nat) (hk : k < 15) : (tabC.extract (k * 3) (k * 3 + 3)).size = 3 := by
  have : tabC.size = 45 := rfl
  rw [Array.size_extract, this]; omega
theorem tab_one (k : Nat) : (tabC.extract (k * 3) (k * 3 + 3)).all (·.oneCell') = true := extract_one (by kernel_rfl) _ _
set_option maxRecDepth 20000 in
set_option maxHeartbeats 1000000 in
theorem arow_in (k : Nat) (hk : k < 15) (w : World) : Calls Tryz.prog 96 #[.int .i64 k] w fun e w' => e = .returned (.agg (tabC.extract (k * 3) (k * 3 + 3))) ∧ Below w.heap.size w w' := by
  have h1 : (k : Int) < 15 := by omega
  have hs := tab_size k hk
  have HS : Hid _ := hs
  have hi : (Tryz.prog.info? 197).map (·.size) = some (tabC.extract (k * 3) (k * 3 + 3)).size := by rw [hs]; exact size3
  have HI : Hid _ := hi
  clear hs hi
  go_enter Tryz.func96, Tryz.ntmps96
  go_wp2_with (first
    | refine wpList_build_as rfl 250 _ rfl tabC (by kernel_rfl) ?_
    | refine wpList_store_new rfl 250 _ _ rfl _ tabC (w.heap.size + 1) (by simp) rfl rfl (by kernel_rfl) (by kernel_rfl) (by kernel_rfl) ?_
    | refine wpList_load_at rfl 197 _ rfl (w.heap.size + 1) (k * 3) 3 rfl tabC 250 _ (two_last _ _ _) Tryz.underlying197 rfl HS.out size3 ?_
    | refine wpList_store_row rfl 197 _ _ rfl w.heap.size _ (tabC.extract (k * 3) (k * 3 + 3)) 197 rfl rfl (two_first _ _ _) HI.out HS.out.symm (tab_one k) ?_
    | fail)
  intro W9 z1 z2 z3 z4
  go_wp2
  exact bodyPost_ret (results_cell_row (p := 2) (ty := 197) rfl _ _ w.heap.size 197 _ (0, 0) _ rfl z1 Tryz.underlying197 rfl HI.out) rfl ⟨rfl, (below2 w _ _).trans z4⟩
set_option maxRecDepth 20000 in
set_option maxHeartbeats 1000000 in
theorem arow_out (k : Int) (hk : k < 0 ∨ 15 ≤ k) (w : World) : Calls Tryz.prog 96 #[.int .i64 k] w fun e w' => e = .returned (.agg #[.nilFunc, .nilFunc, .nilFunc]) ∧ Below w.heap.size w w' := by
  by_cases h0 : k < 0
  · go_enter Tryz.func96, Tryz.ntmps96
    go_wp2_with (first
      | refine wpList_build_as rfl 250 _ rfl tabC (by kernel_rfl) ?_
      | refine wpList_store_new rfl 250 _ _ rfl _ tabC (w.heap.size + 1) (by simp) rfl rfl (by kernel_rfl) (by kernel_rfl) (by kernel_rfl) ?_
      | fail)
    exact bodyPost_ret (results_cell_row (p := 2) (ty := 197) rfl _ _ w.heap.size 197 _ (0, 0) _ rfl (two_first _ _ _) Tryz.underlying197 rfl (by kernel_rfl)) rfl ⟨rfl, below2 w _ _⟩
  · have h1 : 15 ≤ k := by omega
    have h2 : 0 ≤ k := by omega
    clear h0 hk
    go_enter Tryz.func96, Tryz.ntmps96
    go_wp2_with (first
      | refine wpList_build_as rfl 250 _ rfl tabC (by kernel_rfl) ?_
      | refine wpList_store_new rfl 250 _ _ rfl _ tabC (w.heap.size + 1) (by simp) rfl rfl (by kernel_rfl) (by kernel_rfl) (by kernel_rfl) ?_
      | fail)
    exact bodyPost_ret (results_cell_row (p := 2) (ty := 197) rfl _ _ w.heap.size 197 _ (0, 0) _ rfl (two_first _ _ _) Tryz.underlying197 rfl (by kernel_rfl)) rfl ⟨rfl, below2 w _ _⟩
end Go.Proofs.YtnahhmcmahbnkaaGreatDoor.Ac
