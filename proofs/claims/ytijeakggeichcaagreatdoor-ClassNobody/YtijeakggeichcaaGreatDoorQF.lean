/- Marks and values of terms. Conditions: the terms can be read; at most 100 of them. -/
import Derived.Test.YtijeakggeichcaaGreatDoorQE
import Derived.Lib.Hide
namespace Go.Proofs.YtijeakggeichcaaGreatDoor
open Go.RowKit
theorem and63 (a : Int) : 0 ≤ bits BinOp.and IntKind.u64 a 63 ∧ bits BinOp.and IntKind.u64 a 63 ≤ 63 := by
  have e : bits BinOp.and IntKind.u64 a 63 = ((bv a &&& bv 63).toNat : Int) := wrapU _ (BitVec.isLt _)
  rw [e]
  have h : (bv a &&& bv 63).toNat ≤ (bv 63).toNat := by rw [BitVec.toNat_and]; exact Nat.and_le_right
  have h2 : (bv 63).toNat = 63 := by decide +kernel
  omega
set_option maxHeartbeats 1000000 in
theorem rotate_any (x k : Int) (w : World) : Calls Tryz.prog 63 #[.int .u64 x, .int .i64 k] w fun e w' => (∃ y, e = .returned (.int .u64 y)) ∧ w' = w := by
  have h63 := and63 (IntKind.u64.wrap k)
  go_enter Tryz.func63, Tryz.ntmps63
  go_wp2
  go_ret
  exact ⟨⟨_, rfl⟩, rfl⟩
set_option maxRecDepth 20000 in
set_option maxHeartbeats 1000000 in
theorem marksOf_any (v : Value) (ts : List Tm) (w : World) (h : TV w v ts) (hlen : ts.length ≤ 1000000) : Calls Tryz.prog 38 #[v] w fun e w' => (∃ y, e = .returned (.int .u64 y)) ∧ Below w.heap.size w w' := by
  obtain ⟨a, n, c, rfl, hc, ht⟩ := h
  have HT : Hid _ := ht
  have hn : ts.length = n := ht.len
  subst hn
  clear ht
  go_enter Tryz.func38, Tryz.ntmps38
  go_wp2_with fail
  go_loopw [3, 8] (fun m i wr => ∃ (k : Nat) (y : Int), i = .int .i64 k ∧ k ≤ ts.length ∧ m = .int .u64 y ∧ Hid (Below w.heap.size w wr)) (fun _ i _ => ts.length - (intOf i).toNat)
  case atStart => exact ⟨0, 0, rfl, by omega, rfl, Below.refl _ _⟩
  case round =>
    obtain ⟨k, y, rfl, hk, rfl, hb⟩ := hrel
    have hk0 : (0 : Int) ≤ k := by omega
    by_cases hlt : k < ts.length
    · have hkI : (k : Int) < ts.length := by omega
      obtain ⟨t, ht⟩ : ∃ t, ts[k]? = some t := ⟨_, List.getElem?_eq_getElem hlt⟩
      obtain ⟨b0, o0, rfl, c0, c1, c2, hbl⟩ := (TS.below HT.out hb.out).at ht
      have BR : Hid (Below w.heap.size w (wr.alloc (.cells #[.int .i64 t.f, .int .u64 (t.v.toNat : Int), .int .u64 (t.m.toNat : Int)] 68))) := hb.out.alloc hb.out.size _
      clear hbl ht hb
      generalize t.f = tf at *
      generalize (t.v.toNat : Int) = tv at *
      generalize (t.m.toNat : Int) = tm at *
      go_wp2_with fail
      refine (rotate_any _ _ _).mono ?_
      rintro e W1 ⟨⟨y1, rfl⟩, hw1⟩
      rw [hw1]
      clear hw1
      go_wp2
      go_roundw
      case rel => exact ⟨k + 1, _, rfl, by omega, rfl, BR.out⟩
      case measure => simp [intOf]; omega
    · have hkI : ¬ (k : Int) < ts.length := by omega
      go_wp2
      go_ret
      exact ⟨⟨_, rfl⟩, hb.out⟩
/-- The key of terms: their values, eight bytes each. -/
def keyZ (ts : List Tm) : List Int := ts.flatMap fun t => Nm.be (t.v.toNat : Int) 8
theorem keyZ_len (ts : List Tm) : (keyZ ts).length = 8 * ts.length := by
  induction ts with
  | nil => rfl
  | cons t r ih =>
    have : keyZ (t :: r) = Nm.be (t.v.toNat : Int) 8 ++ keyZ r := by simp [keyZ]
    rw [this, List.length_append, ih, Nm.be_len, List.length_cons]; omega
theorem keyZ_snoc (ts : List Tm) (t : Tm) : keyZ (ts ++ [t]) = keyZ ts ++ Nm.be (t.v.toNat : Int) 8 := by simp [keyZ]
def keyS (ts : List Tm) : ByteArray := strOfNums (keyZ ts)
set_option maxHeartbeats 1000000 in
theorem appendValue_any (base : Nat) (W : World) (a : Option Addr) (n cap : Nat) (xs : List Int) (hown : W.ownsRow base 5 1 (.slice a n cap) n (xs.map (Value.int .u8))) (hbase : base ≤ W.heap.size) (hn : n ≤ 1000000) (v : Int) (hv : 0 ≤ v ∧ v ≤ 18446744073709551615) :
    Calls Tryz.prog 43 #[.slice a n cap, .int .u64 v] W fun e w' => ∃ a' cap', e = .returned (.slice a' (n + 8) cap') ∧ Nm.Row base W w' (.slice a n cap) (.slice a' (n + 8) cap') (n + 8) (xs ++ Nm.be v 8) := by
  have HA : Hid _ := Nm.appendNumber_any base W a n cap xs hown hbase hn v hv 8 (Nat.le_refl _)
  clear hown
  go_enter Tryz.func43, Tryz.ntmps43
  go_wp2_with fail
  refine Calls.mono HA.out ?_
  rintro e w' ⟨a', cap', rfl, hr⟩
  have HR : Hid _ := hr
  clear hr
  go_wp2
  go_ret
  exact ⟨_, _, rfl, HR.out⟩
theorem be_mem (v : Int) : ∀ s, ∀ x ∈ Nm.be v s, 0 ≤ x ∧ x ≤ 255
  | 0, x, h => by simp [Nm.be] at h
  | s + 1, x, h => by
    simp only [Nm.be, List.mem_cons] at h
    rcases h with rfl | h
    · omega
    · exact be_mem v s x h
theorem bd_of_mem {xs : List Int} (h : ∀ x ∈ xs, 0 ≤ x ∧ x ≤ 255) : ∀ i, 0 ≤ xs.getD i 0 ∧ xs.getD i 0 ≤ 255 := by
  intro i
  by_cases hi : i < xs.length
  · have := h _ (List.getElem_mem hi)
    simpa [List.getD_eq_getElem?_getD, List.getElem?_eq_getElem hi] using this
  · simp [List.getD_eq_getElem?_getD, List.getElem?_eq_none (Nat.le_of_not_lt hi)]
theorem keyZ_mem (ts : List Tm) : ∀ x ∈ keyZ ts, 0 ≤ x ∧ x ≤ 255 := by
  intro x hx
  simp only [keyZ, List.mem_flatMap] at hx
  obtain ⟨t, _, h⟩ := hx
  exact be_mem _ _ _ h
set_option maxRecDepth 20000 in
set_option maxHeartbeats 1000000 in
theorem valuesOf_any (v : Value) (ts : List Tm) (w : World) (h : TV w v ts) (hlen : ts.length ≤ 100) : Calls Tryz.prog 39 #[v] w fun e w' => e = .returned (.string (keyS ts)) ∧ Below w.heap.size w w' := by
  obtain ⟨a, n, c, rfl, hc, ht⟩ := h
  have HT : Hid _ := ht
  have hn : ts.length = n := ht.len
  subst hn
  clear ht
  go_enter Tryz.func39, Tryz.ntmps39
  go_wp2_with fail
  go_loopw [3, 8] (fun m i wr => ∃ (k : Nat) (q : Option Addr) (qc : Nat), i = .int .i64 k ∧ k ≤ ts.length ∧ m = .slice q (8 * k) qc ∧ Hid (wr.ownsRow w.heap.size 5 1 (.slice q (8 * k) qc) (8 * k) ((keyZ (ts.take k)).map (Value.int .u8))) ∧ Hid (Below w.heap.size w wr)) (fun _ i _ => ts.length - (intOf i).toNat)
  case atStart => exact ⟨0, none, 0, rfl, by omega, rfl, ⟨rfl, .inl ⟨rfl, rfl⟩⟩, Below.refl _ _⟩
  case round =>
    obtain ⟨k, q, qc, rfl, hk, rfl, ho, hb⟩ := hrel
    have hk0 : (0 : Int) ≤ k := by omega
    by_cases hlt : k < ts.length
    · have hkI : (k : Int) < ts.length := by omega
      obtain ⟨t, ht⟩ : ∃ t, ts[k]? = some t := ⟨_, List.getElem?_eq_getElem hlt⟩
      obtain ⟨b0, o0, rfl, c0, c1, c2, hbl⟩ := (TS.below HT.out hb.out).at ht
      have BR : Hid (Below w.heap.size w (wr.alloc (.cells #[.int .i64 t.f, .int .u64 (t.v.toNat : Int), .int .u64 (t.m.toNat : Int)] 68))) := hb.out.alloc hb.out.size _
      have HA : Hid _ := appendValue_any w.heap.size (wr.alloc (.cells #[.int .i64 t.f, .int .u64 (t.v.toNat : Int), .int .u64 (t.m.toNat : Int)] 68)) q (8 * k) qc (keyZ (ts.take k)) (ho.out.alloc _) BR.out.size (by omega) (t.v.toNat : Int) ⟨by omega, by have := t.v.isLt; omega⟩
      have KS : Hid (keyZ (ts.take k) ++ Nm.be (t.v.toNat : Int) 8 = keyZ (ts.take (k + 1))) := by
        show _ = _
        rw [← keyZ_snoc, List.take_succ_eq_append_getElem hlt, (List.getElem?_eq_some_iff.1 ht).2]
      rw [KS.out] at HA
      have ho9 := ho.out
      have HO9 : Hid _ := ho9
      clear hbl ht hb ho9
      generalize t.f = tf at *
      generalize (t.v.toNat : Int) = tv at *
      generalize (t.m.toNat : Int) = tm at *
      go_wp2_with fail
      refine Calls.mono HA.out ?_
      rintro e W1 ⟨a1, c1', rfl, hr⟩
      have HR : Hid (W1.ownsRow w.heap.size 5 1 (.slice a1 (8 * (k + 1)) c1') (8 * (k + 1)) ((keyZ (ts.take (k + 1))).map (Value.int .u8))) := hr.own
      have B1 : Hid (Below w.heap.size w W1) := BR.out.grown hr.grown BR.out.size (fun g hg => ((World.ownsRow.lt (World.ownsRow.alloc HO9.out (.cells #[.int .i64 tf, .int .u64 tv, .int .u64 tm] 68)) g hg)).1)
      clear hr
      go_wp2
      go_roundw
      case rel => exact ⟨k + 1, a1, c1', rfl, by omega, rfl, HR.out, B1.out⟩
      case measure => simp [intOf]; omega
    · have hkI : ¬ (k : Int) < ts.length := by omega
      obtain rfl : k = ts.length := by omega
      have ho1 := ho.out
      rw [List.take_length] at ho1
      have hcv := Nm.run_conv_bs qc (Nm.own_bs ho1 (bd_of_mem (keyZ_mem ts)) (by omega)) 112 9 5 Tryz.underlying112 Tryz.underlying5 Tryz.underlying9
      have hb1 := hb
      clear ho1
      go_wp2
      go_ret
      exact ⟨rfl, hb1.out⟩
end Go.Proofs.YtijeakggeichcaaGreatDoor
