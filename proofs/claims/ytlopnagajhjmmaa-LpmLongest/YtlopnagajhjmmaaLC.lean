/- One node of a trie, and the small functions over it. Conditions: as said. -/
import Derived.Test.YtlopnagajhjmmaaLB
namespace Go.Proofs.Ytlopnagajhjmmaa
open Go.RowKit
abbrev ptr (b : Nat) : Value := .pointer (some ⟨b, 0, none⟩)
/-- The cells of a node. -/
def nodC (p : BitVec 32) (n : Nat) (v : Int) (th : Bool) (k0 k1 : Value) : Array Value := #[.int .u32 p.toNat, .int .i64 n, .int .i64 v, .bool th, k0, k1]
def bitN (ip : BitVec 32) (n : Nat) : Nat := if ip.getMsbD n then 1 else 0
theorem bitN_lt (ip : BitVec 32) (n : Nat) : bitN ip n < 2 := by unfold bitN; split <;> omega
theorem bitN_eq (ip : BitVec 32) (n : Nat) : (ip.toNat : Int) * 2 ^ n % 4294967296 / 2147483648 = bitN ip n := by
  have h := toward_idx ip n
  rw [BitVec.toNat_ushiftRight, BitVec.toNat_shiftLeft, Nat.shiftLeft_eq, Nat.shiftRight_eq_div_pow] at h
  unfold bitN
  rw [← h]
  simp
theorem zero_eq (x : BitVec 32) : ((x.toNat : Int) == 0) = (x == 0#32) := by
  rw [Bool.eq_iff_iff]
  simp only [beq_iff_eq]
  constructor
  · intro h; apply BitVec.eq_of_toNat_eq; simp; omega
  · rintro rfl; rfl
set_option maxHeartbeats 1000000 in
theorem toward_any {w : World} {b : Nat} {p : BitVec 32} {n : Nat} {v : Int} {th : Bool} {k0 k1 : Value} (h : w.heap[b]? = some (.cells (nodC p n v th k0 k1) 57 (0, 0))) (hn : n ≤ 32) (ip : BitVec 32) :
    Calls Try.prog 33 #[ptr b, .int .u32 ip.toNat] w fun e w' => e = .returned (.pointer (some ⟨b, 4 + bitN ip n, none⟩)) ∧ ∃ k, w' = w.drewN k := by
  have c1 : w.cell? ⟨b, 1, none⟩ = some (.int .i64 n) := cell_row h 1
  have E : Hid _ := bitN_eq ip n
  have i0 := nat_in ip
  have hN : (n : Int) ≤ 32 := by omega
  have L : Hid _ := bitN_lt ip n
  clear h
  go_enter Try.func33, Try.ntmps33
  go_wp2
  go_quiet (fail)
  go_wp2
  go_ret
  refine ⟨congrArg Ending.returned ?_, _, rfl⟩
  show Value.pointer (some ⟨b, 4 + ((ip.toNat : Int) * 2 ^ n % 4294967296 / 2147483648).toNat, none⟩) = _
  rw [E.out]
  rfl
set_option maxHeartbeats 1000000 in
theorem has_any {w : World} {b : Nat} {p : BitVec 32} {n : Nat} {v : Int} {th : Bool} {k0 k1 : Value} (h : w.heap[b]? = some (.cells (nodC p n v th k0 k1) 57 (0, 0))) (hn : n ≤ 32) (ip : BitVec 32) :
    Calls Try.prog 34 #[ptr b, .int .u32 ip.toNat] w fun e w' => e = .returned (.bool (hasB p n ip)) ∧ ∃ k, w' = w.drewN k := by
  have c0 : w.cell? ⟨b, 0, none⟩ = some (.int .u32 p.toNat) := cell_row h 0
  have c1 : w.cell? ⟨b, 1, none⟩ = some (.int .i64 n) := cell_row h 1
  clear h
  go_enter Try.func34, Try.ntmps34
  go_wp2
  go_quiet ((go_at_call 19; exact Calls.quiet_of_same (mask_any _ _)))
  go_wp2
  go_ret
  refine ⟨congrArg Ending.returned ?_, _, rfl⟩
  show Value.bool (bits BinOp.and IntKind.u32 (bits BinOp.xor IntKind.u32 ip.toNat p.toNat) (mskI n).toNat == 0) = _
  rw [bits_and, bits_xor, bv_nat, bv_nat, bv_nat, bv_nat, mskI_mid n hn, zero_eq]
  rfl
set_option maxHeartbeats 1000000 in
theorem is_any {w : World} {b : Nat} {p : BitVec 32} {n : Nat} {v : Int} {th : Bool} {k0 k1 : Value} (h : w.heap[b]? = some (.cells (nodC p n v th k0 k1) 57 (0, 0))) (m : Nat) :
    Calls Try.prog 28 #[ptr b, .int .i64 m] w fun e w' => e = .returned (.bool (th && n == m)) ∧ w' = w := by
  have c1 : w.cell? ⟨b, 1, none⟩ = some (.int .i64 n) := cell_row h 1
  have c3 : w.cell? ⟨b, 3, none⟩ = some (.bool th) := cell_row h 3
  clear h
  have E : Hid (((n : Int) == (m : Int)) = (n == m)) := by
    show _ = _
    rw [Bool.eq_iff_iff]; simp; omega
  cases th
  all_goals
    go_enter Try.func28, Try.ntmps28
    go_wp2
    go_ret
    refine ⟨congrArg Ending.returned ?_, rfl⟩
    first
      | rfl
      | (show Value.bool ((n : Int) == (m : Int)) = _; rw [E.out]; rfl)
/-- The cells of a table. -/
def tabC (r : Value) (c : Int) : Array Value := #[r, .int .i64 c]
set_option maxHeartbeats 1000000 in
theorem isMade_yes {w : World} {tb rb : Nat} {c : Int} (h : w.heap[tb]? = some (.cells (tabC (ptr rb) c) 59 (0, 0))) : Calls Try.prog 30 #[ptr tb] w fun e w' => e = .returned (.bool true) ∧ w' = w := by
  have c0 : w.cell? ⟨tb, 0, none⟩ = some (ptr rb) := cell_row h 0
  clear h
  go_enter Try.func30, Try.ntmps30
  go_wp2
  go_ret
  exact ⟨rfl, rfl⟩
theorem isMade_nil (w : World) : Calls Try.prog 30 #[.pointer none] w fun e w' => e = .returned (.bool false) ∧ w' = w := by
  go_enter Try.func30, Try.ntmps30
  go_wp2
  go_ret
  exact ⟨rfl, rfl⟩
/-- A kid's pointer. -/
def kp : Option Nat → Value
  | none => .pointer none
  | some b => ptr b
set_option maxHeartbeats 1000000 in
theorem isNeeded_any {w : World} {b : Nat} {p : BitVec 32} {n : Nat} {v : Int} {th : Bool} {k0 k1 : Option Nat} (h : w.heap[b]? = some (.cells (nodC p n v th (kp k0) (kp k1)) 57 (0, 0))) :
    Calls Try.prog 37 #[ptr b] w fun e w' => e = .returned (.bool (th || (k0.isSome && k1.isSome))) ∧ w' = w := by
  have c3 : w.cell? ⟨b, 3, none⟩ = some (.bool th) := cell_row h 3
  have c4 : w.cell? ⟨b, 4, none⟩ = some (kp k0) := cell_row h 4
  have c5 : w.cell? ⟨b, 5, none⟩ = some (kp k1) := cell_row h 5
  clear h
  cases th <;> cases k0 <;> cases k1
  all_goals
    simp only [kp] at c4 c5
    go_enter Try.func37, Try.ntmps37
    go_wp2
    go_ret
    exact ⟨rfl, rfl⟩
set_option maxHeartbeats 1000000 in
theorem onlyKid_any {w : World} {b : Nat} {p : BitVec 32} {n : Nat} {v : Int} {th : Bool} {k0 k1 : Option Nat} (h : w.heap[b]? = some (.cells (nodC p n v th (kp k0) (kp k1)) 57 (0, 0))) :
    Calls Try.prog 38 #[ptr b] w fun e w' => e = .returned (kp (k0.or k1)) ∧ w' = w := by
  have c4 : w.cell? ⟨b, 4, none⟩ = some (kp k0) := cell_row h 4
  have c5 : w.cell? ⟨b, 5, none⟩ = some (kp k1) := cell_row h 5
  clear h
  cases k0 <;> cases k1
  all_goals
    simp only [kp] at c4 c5
    go_enter Try.func38, Try.ntmps38
    go_wp2
    go_ret
    exact ⟨rfl, rfl⟩
set_option maxHeartbeats 1000000 in
theorem nodeOf_any (p : BitVec 32) (n : Nat) (w : World) :
    Calls Try.prog 35 #[.int .u32 p.toNat, .int .i64 n] w fun e w' => e = .returned (ptr w.heap.size) ∧ w' = w.alloc (.cells (nodC p n 0 false (kp none) (kp none)) 57) := by
  go_enter Try.func35, Try.ntmps35
  go_wp2
  go_ret
  exact ⟨rfl, rfl⟩
set_option maxHeartbeats 1000000 in
theorem new_any (w : World) : Calls Try.prog 8 #[] w fun e w' => e = .returned (ptr (w.heap.size + 1)) ∧ w' = (w.alloc (.cells (nodC 0#32 0 0 false (kp none) (kp none)) 57)).alloc (.cells (tabC (ptr w.heap.size) 0) 59) := by
  go_enter Try.func8, Try.ntmps8
  go_wp2
  go_ret
  exact ⟨rfl, rfl⟩
/-- What check tells of a table that New made. -/
def chk (p : BitVec 32) (n : Int) : Int := if 0 ≤ n ∧ n ≤ 32 ∧ rightB p n.toNat = true then 0 else 1
set_option maxHeartbeats 1000000 in
theorem check_yes {w : World} {tb rb : Nat} {c : Int} (h : w.heap[tb]? = some (.cells (tabC (ptr rb) c) 59 (0, 0))) (p : BitVec 32) (n : Int) :
    Calls Try.prog 23 #[ptr tb, .int .u32 p.toNat, .int .i64 n] w fun e w' => e = .returned (.int .i64 (chk p n)) ∧ w' = w := by
  have hm : Hid _ := isMade_yes h
  clear h
  rcases (by omega : n < 0 ∨ (0 ≤ n ∧ n ≤ 32) ∨ 32 < n) with g | ⟨g0, g1⟩ | g
  · have E : Hid (chk p n = 1) := if_neg (by omega)
    go_enter Try.func23, Try.ntmps23
    go_wp2_with (first
      | (go_at_call 30; refine Calls.mono hm.out ?_; rintro e w' ⟨rfl, rfl⟩)
      | (go_at_call 19; refine (mask_any _ _).mono ?_; rintro e w' ⟨rfl, rfl⟩))
    go_ret
    exact ⟨by rw [E.out]; rfl, rfl⟩
  · have E : Hid (chk p n = if rightB p n.toNat = true then 0 else 1) := by
      show _ = _
      unfold chk; simp [g0, g1]
    have EB : Hid ((bits BinOp.andNot IntKind.u32 p.toNat (mskI n).toNat == 0) = rightB p n.toNat) := by
      show _ = _
      obtain ⟨m, rfl⟩ := Int.eq_ofNat_of_zero_le g0
      rw [bits_andNot, bv_nat, bv_nat, mskI_mid m (by omega), zero_eq]
      rfl
    have g2 : ¬ n < 0 := by omega
    have g3 : ¬ 32 < n := by omega
    cases hr : rightB p n.toNat
    · rw [hr] at EB E
      have q : (bits BinOp.andNot IntKind.u32 p.toNat (mskI n).toNat != 0) = true := by
        have := EB.out; simpa using this
      clear EB
      go_enter Try.func23, Try.ntmps23
      go_wp2_with (first
        | (go_at_call 30; refine Calls.mono hm.out ?_; rintro e w' ⟨rfl, rfl⟩)
        | (go_at_call 19; refine (mask_any _ _).mono ?_; rintro e w' ⟨rfl, rfl⟩))
      go_ret
      exact ⟨by rw [E.out]; rfl, rfl⟩
    · rw [hr] at EB E
      have q : bits BinOp.andNot IntKind.u32 p.toNat (mskI n).toNat = 0 := by
        have := EB.out; simpa using this
      clear EB
      go_enter Try.func23, Try.ntmps23
      go_wp2_with (first
        | (go_at_call 30; refine Calls.mono hm.out ?_; rintro e w' ⟨rfl, rfl⟩)
        | (go_at_call 19; refine (mask_any _ _).mono ?_; rintro e w' ⟨rfl, rfl⟩))
      go_ret
      exact ⟨by rw [E.out]; rfl, rfl⟩
  · have E : Hid (chk p n = 1) := if_neg (by omega)
    have g2 : ¬ n < 0 := by omega
    go_enter Try.func23, Try.ntmps23
    go_wp2_with (first
      | (go_at_call 30; refine Calls.mono hm.out ?_; rintro e w' ⟨rfl, rfl⟩)
      | (go_at_call 19; refine (mask_any _ _).mono ?_; rintro e w' ⟨rfl, rfl⟩))
    go_ret
    exact ⟨by rw [E.out]; rfl, rfl⟩
theorem check_nil (p : BitVec 32) (n : Int) (w : World) :
    Calls Try.prog 23 #[.pointer none, .int .u32 p.toNat, .int .i64 n] w fun e w' => e = .returned (.int .i64 6) ∧ w' = w := by
  go_enter Try.func23, Try.ntmps23
  go_wp2_with (go_at_call 30; refine (isMade_nil _).mono ?_; rintro e w' ⟨rfl, rfl⟩)
  go_ret
  exact ⟨rfl, rfl⟩
end Go.Proofs.Ytlopnagajhjmmaa
