/- The walk of GenevePorts. Conditions: the options can be read. -/
import Derived.Test.YtgonckbdkgiddaaHI
namespace Go.Proofs.Ytgonckbdkgiddaa
open Go.RowKit
set_option maxRecDepth 20000
set_option linter.unusedSimpArgs false
theorem keyV_form (os : List Opt) (c d : Int) : ∃ kv kb, keyV os c d = .tuple #[.int .u32 kv, .bool kb] := by
  unfold keyV
  cases keyO os c d with
  | none => exact ⟨_, _, rfl⟩
  | some s => exact ⟨_, _, rfl⟩
theorem keyV_one (i o : Int) : keyV [⟨258, 128, be (prt i o) 4⟩] 258 128 = .tuple #[.int .u32 (prt i o), .bool true] := by
  have hp := prt_bd i o
  have hl := be_len (prt i o) 4
  have hk : keyO [⟨258, 128, be (prt i o) 4⟩] 258 128 = some (be (prt i o) 4) := by
    unfold keyO
    rw [if_pos ⟨rfl, rfl, hl⟩]
  unfold keyV
  rw [hk]
  show Value.tuple #[.int .u32 (num (be (prt i o) 4)), .bool true] = _
  rw [Eth.num_be4 _ hp.1 (by omega)]
theorem os_three {W : World} {g : Nat} {x y : Int} {ds : List Int} (h : OS W (some ⟨g, 0, none⟩) 1 [⟨x, y, ds⟩]) : W.cell? ⟨g, 0, none⟩ = some (.int .i64 x) ∧ W.cell? ⟨g, 1, none⟩ = some (.int .i64 y) ∧ W.cell? ⟨g, 2, none⟩ = some (.string (strOfNums ds)) := by
  obtain ⟨o, b, off, ho, e, c0, c1, c2, _⟩ := os_cell h (show 0 < 1 by omega)
  cases e
  have : o = ⟨x, y, ds⟩ := by simpa using ho.symm
  subst this
  exact ⟨c0, c1, c2⟩
theorem u16_and32767 (n : Int) (_h : 0 ≤ n ∧ n ≤ 65535) : bits .and .u16 n 32767 = n % 32768 := by
  have h : (BitVec.ofInt 16 32767).toNat = 2 ^ 15 - 1 := by decide
  have key : (BitVec.ofInt 16 n &&& BitVec.ofInt 16 32767).toNat = (n % ((2 ^ 16 : Nat) : Int)).toNat % 2 ^ 15 := by
    rw [BitVec.toNat_and, BitVec.toNat_ofInt, h, Nat.and_two_pow_sub_one_eq_mod]
  show IntKind.u16.wrap ((BitVec.ofInt 16 n &&& BitVec.ofInt 16 32767).toNat : Nat) = n % 32768
  rw [key]
  simp only [IntKind.wrap, IntKind.bits, IntKind.signed]
  simp
  omega
theorem prt_hi (i o : Int) : prt i o / 65536 = wrap64 (bits BinOp.and IntKind.u16 (IntKind.u16.wrap i) 32767) := by
  have hw : IntKind.u16.wrap i = i % 65536 := by simp [IntKind.wrap, IntKind.bits, IntKind.signed]
  rw [hw, u16_and32767 _ (by omega)]
  unfold prt wrap64
  omega
theorem prt_lo (i o : Int) : (IntKind.u16.wrap (prt i o) == IntKind.u16.wrap o) = true := by
  have hw : ∀ x : Int, IntKind.u16.wrap x = x % 65536 := fun x => by simp [IntKind.wrap, IntKind.bits, IntKind.signed]
  rw [hw, hw]
  unfold prt
  rw [beq_iff_eq]
  omega
set_option maxHeartbeats 4000000 in
theorem gports_law (i o : Int) (a : Option Addr) (n cap : Nat) (os : List Opt) (c d : Int) (w : World) (h : OS w a n os) :
    Calls Try.prog 5 #[.int .i64 i, .int .i64 o, .slice a n cap, .int .i64 c, .int .i64 d] w fun e w' => e = .returned (.bool true) ∧ Below w.heap.size w w' := by
  obtain ⟨kv, kb, hkv⟩ := keyV_form os c d
  have HK1 : Hid _ := fun W (h : OS W a n os) => key_any c d a n cap os W h
  have HK2 : Hid _ := fun W (h : OS W a n os) => rkey_any c d a n cap os W h
  have HK3 : Hid _ := fun W g (h : OS W (some ⟨g, 0, none⟩) 1 [⟨258, 128, be (prt i o) 4⟩]) => key_any 258 128 (some ⟨g, 0, none⟩) 1 1 _ W h
  rw [hkv] at HK1 HK2
  rw [keyV_one] at HK3
  have hp := prt_bd i o
  have HP : Hid (prt i o = i % 32768 * 65536 + o % 65536) := rfl
  have H : Hid _ := h
  clear h hkv
  go_enter Try.func5, Try.ntmps5
  go_wp2_with fail
  refine (ports_any i o w).mono ?_
  rintro e W1 ⟨g1, rfl, hO1, hb1⟩
  have O1 : Hid _ := hO1
  have B1 : Hid _ := hb1
  clear hO1 hb1
  go_wp2_with fail
  refine (rports_any i o W1).mono ?_
  rintro e W2 ⟨g2, rfl, hO2, hb2⟩
  have O2 : Hid _ := hO2
  have O1b : Hid _ := O1.out.below hb2
  have B2 : Hid (Below w.heap.size w W2) := B1.out.trans (hb2.mono B1.out.size)
  clear hO2 hb2 O1 B1
  have hneq : ∀ (s : ByteArray) W, (binOp .neq 38 (.agg #[.int .i64 258, .int .i64 128, .string s]) (.agg #[.int .i64 258, .int .i64 128, .string s])).run Try.prog W = .ok (.bool false) W := fun s W => by simp [go_sem]
  have hneq' := hneq (strOfNums (be (prt i o) 4))
  have KC : Hid (∀ W, Below W2.heap.size W2 W → (W.cell? ⟨g1, 0, none⟩ = some (.int .i64 258) ∧ W.cell? ⟨g1, 1, none⟩ = some (.int .i64 128) ∧ W.cell? ⟨g1, 2, none⟩ = some (.string (strOfNums (be (prt i o) 4)))) ∧ (W.cell? ⟨g2, 0, none⟩ = some (.int .i64 258) ∧ W.cell? ⟨g2, 1, none⟩ = some (.int .i64 128) ∧ W.cell? ⟨g2, 2, none⟩ = some (.string (strOfNums (be (prt i o) 4)))) ∧ Below W2.heap.size W2 W) := fun W hb => ⟨os_three (O1b.out.below hb), os_three (O2.out.below hb), hb⟩
  clear hneq
  generalize hds : strOfNums (be (prt i o) 4) = ds at *
  clear hds
  go_wp2_with fail
  refine wp_region_held_drew (S := (fun W => (W.cell? ⟨g1, 0, none⟩ = some (.int .i64 258) ∧ W.cell? ⟨g1, 1, none⟩ = some (.int .i64 128) ∧ W.cell? ⟨g1, 2, none⟩ = some (.string ds)) ∧ (W.cell? ⟨g2, 0, none⟩ = some (.int .i64 258) ∧ W.cell? ⟨g2, 1, none⟩ = some (.int .i64 128) ∧ W.cell? ⟨g2, 2, none⟩ = some (.string ds)) ∧ Below W2.heap.size W2 W)) (by kernel_rfl) ?_ (fun hHeld => ?_)
  · exact KC.out _ (Below.refl _ _).drew
  refine wpAnyH_ready (rs := [0]) (by kernel_rfl) (by simp) ?_
  refine AllReadyH.cons (o := _) rfl (fun K hK => ?_) AllReadyH.nil
  go_simp
  refine (glives_any _).mono ?_
  rintro e W3 ⟨rfl, hb3⟩
  go_wp2_with fail
  refine hK.out _ _ (KC.out _ ((Below.refl _ _).drew.trans hb3)) (fun hHeld2 => ?_)
  clear hK K hHeld hb3
  try simp only [List.getElem_toArray, List.getElem_cons_zero, List.getElem_cons_succ, Act.put, List.setIfInBounds_toArray, List.set_cons_zero, List.set_cons_succ]
  refine wpAnyH_take (i := 1) (v := ?_) rfl (by kernel_rfl) (by kernel_rfl) (by kernel_rfl) (fun _ _ _ h => h) (Or.inl ⟨by rfl, ?_⟩) (by assumption) ?_
  rotate_left
  · (intro w hSw; (try dsimp only at hSw); go_simp; try with_reducible rfl)
  try simp only [List.getElem_toArray, List.getElem_cons_zero, List.getElem_cons_succ, Act.put, List.setIfInBounds_toArray, List.set_cons_zero, List.set_cons_succ]
  refine wpAnyH_take (i := 2) (v := ?_) rfl (by kernel_rfl) (by kernel_rfl) (by kernel_rfl) (fun _ _ _ h => h) (Or.inl ⟨by rfl, ?_⟩) (by assumption) ?_
  rotate_left
  · (intro w hSw; (try dsimp only at hSw); go_simp; try with_reducible rfl)
  try simp only [List.getElem_toArray, List.getElem_cons_zero, List.getElem_cons_succ, Act.put, List.setIfInBounds_toArray, List.set_cons_zero, List.set_cons_succ]
  refine wpAnyH_take (i := 3) (v := ?_) rfl (by kernel_rfl) (by kernel_rfl) (by kernel_rfl) (fun _ _ _ h => h) (Or.inl ⟨by rfl, ?_⟩) (by assumption) ?_
  rotate_left
  · (intro w hSw; (try dsimp only at hSw); go_simp; try with_reducible rfl)
  try simp only [List.getElem_toArray, List.getElem_cons_zero, List.getElem_cons_succ, Act.put, List.setIfInBounds_toArray, List.set_cons_zero, List.set_cons_succ]
  refine wpAnyH_take (i := 4) (v := ?_) rfl (by kernel_rfl) (by kernel_rfl) (by kernel_rfl) (fun _ _ _ h => h) (Or.inl ⟨by rfl, ?_⟩) (by assumption) ?_
  rotate_left
  · (intro w hSw; (try dsimp only at hSw); go_simp; try with_reducible rfl)
  try simp only [List.getElem_toArray, List.getElem_cons_zero, List.getElem_cons_succ, Act.put, List.setIfInBounds_toArray, List.set_cons_zero, List.set_cons_succ]
  refine wpAnyH_take (i := 5) (v := ?_) rfl (by kernel_rfl) (by kernel_rfl) (by kernel_rfl) (fun _ _ _ h => h) (Or.inl ⟨by rfl, ?_⟩) (by assumption) ?_
  rotate_left
  · (intro w hSw; (try dsimp only at hSw); go_simp; try with_reducible rfl)
  try simp only [List.getElem_toArray, List.getElem_cons_zero, List.getElem_cons_succ, Act.put, List.setIfInBounds_toArray, List.set_cons_zero, List.set_cons_succ]
  refine wpAnyH_take (i := 6) (v := ?_) rfl (by kernel_rfl) (by kernel_rfl) (by kernel_rfl) (fun _ _ _ h => h) (Or.inl ⟨by rfl, ?_⟩) (by assumption) ?_
  rotate_left
  · (intro w hSw; (try dsimp only at hSw); go_simp; try with_reducible rfl)
  try simp only [List.getElem_toArray, List.getElem_cons_zero, List.getElem_cons_succ, Act.put, List.setIfInBounds_toArray, List.set_cons_zero, List.set_cons_succ]
  refine wpAnyH_take (i := 7) (v := ?_) rfl (by kernel_rfl) (by kernel_rfl) (by kernel_rfl) (fun _ _ _ h => h) (Or.inl ⟨by rfl, ?_⟩) (by assumption) ?_
  rotate_left
  · (intro w hSw; (try dsimp only at hSw); go_simp; try with_reducible rfl)
  try simp only [List.getElem_toArray, List.getElem_cons_zero, List.getElem_cons_succ, Act.put, List.setIfInBounds_toArray, List.set_cons_zero, List.set_cons_succ]
  refine wpAnyH_take (i := 8) (v := ?_) rfl (by kernel_rfl) (by kernel_rfl) (by kernel_rfl) (fun _ _ _ h => h) (Or.inl ⟨by rfl, ?_⟩) (by assumption) ?_
  rotate_left
  · (intro w hSw; (try dsimp only at hSw); go_simp; try with_reducible rfl)
  try simp only [List.getElem_toArray, List.getElem_cons_zero, List.getElem_cons_succ, Act.put, List.setIfInBounds_toArray, List.set_cons_zero, List.set_cons_succ]
  refine wpAnyH_take (i := 9) (v := ?_) rfl (by kernel_rfl) (by kernel_rfl) (by kernel_rfl) (fun _ _ _ h => h) (Or.inl ⟨by rfl, ?_⟩) (by assumption) ?_
  rotate_left
  · (intro w hSw; (try dsimp only at hSw); go_simp; try with_reducible rfl)
  try simp only [List.getElem_toArray, List.getElem_cons_zero, List.getElem_cons_succ, Act.put, List.setIfInBounds_toArray, List.set_cons_zero, List.set_cons_succ]
  refine wpAnyH_take (i := 10) (v := ?_) rfl (by kernel_rfl) (by kernel_rfl) (by kernel_rfl) (fun _ _ _ h => h) (Or.inl ⟨by rfl, ?_⟩) (by assumption) ?_
  rotate_left
  · (intro w hSw; (try dsimp only at hSw); go_simp; try with_reducible rfl)
  try simp only [List.getElem_toArray, List.getElem_cons_zero, List.getElem_cons_succ, Act.put, List.setIfInBounds_toArray, List.set_cons_zero, List.set_cons_succ]
  refine wpAnyH_take (i := 11) (v := ?_) rfl (by kernel_rfl) (by kernel_rfl) (by kernel_rfl) (fun _ _ _ h => h) (Or.inl ⟨by rfl, ?_⟩) (by assumption) ?_
  rotate_left
  · (intro w hSw; (try dsimp only at hSw); go_simp; try with_reducible rfl)
  try simp only [List.getElem_toArray, List.getElem_cons_zero, List.getElem_cons_succ, Act.put, List.setIfInBounds_toArray, List.set_cons_zero, List.set_cons_succ]
  refine wpAnyH_take (i := 12) (v := ?_) rfl (by kernel_rfl) (by kernel_rfl) (by kernel_rfl) (fun _ _ _ h => h) (Or.inl ⟨by rfl, ?_⟩) (by assumption) ?_
  rotate_left
  · (intro w hSw; (try dsimp only at hSw); go_simp; try with_reducible rfl)
  try simp only [List.getElem_toArray, List.getElem_cons_zero, List.getElem_cons_succ, Act.put, List.setIfInBounds_toArray, List.set_cons_zero, List.set_cons_succ]
  refine wpAnyH_take (i := 13) (v := ?_) rfl (by kernel_rfl) (by kernel_rfl) (by kernel_rfl) (fun _ _ _ h => h) (Or.inl ⟨by rfl, ?_⟩) (by assumption) ?_
  rotate_left
  · (intro w hSw; (try dsimp only at hSw); go_simp; try with_reducible rfl)
  try simp only [List.getElem_toArray, List.getElem_cons_zero, List.getElem_cons_succ, Act.put, List.setIfInBounds_toArray, List.set_cons_zero, List.set_cons_succ]
  refine wpAnyH_take (i := 14) (v := ?_) rfl (by kernel_rfl) (by kernel_rfl) (by kernel_rfl) (fun _ _ _ h => h) (Or.inl ⟨by rfl, ?_⟩) (by assumption) ?_
  rotate_left
  · (intro w hSw; (try dsimp only at hSw); go_simp; try with_reducible rfl)
  try simp only [List.getElem_toArray, List.getElem_cons_zero, List.getElem_cons_succ, Act.put, List.setIfInBounds_toArray, List.set_cons_zero, List.set_cons_succ]
  refine wpAnyH_take (i := 15) (v := ?_) rfl (by kernel_rfl) (by kernel_rfl) (by kernel_rfl) (fun _ _ _ h => h) (Or.inl ⟨by rfl, ?_⟩) (by assumption) ?_
  rotate_left
  · (intro w hSw; (try dsimp only at hSw); go_simp; try with_reducible rfl)
  try simp only [List.getElem_toArray, List.getElem_cons_zero, List.getElem_cons_succ, Act.put, List.setIfInBounds_toArray, List.set_cons_zero, List.set_cons_succ]
  refine wpAnyH_done (by kernel_rfl) ?_ _
  have B3 : Hid (Below W2.heap.size W2 W3) := hHeld2.2.2
  have BW3 : Hid (Below w.heap.size w W3) := B2.out.trans (B3.out.mono B2.out.size)
  clear hHeld2 KC hneq'
  go_wp2_with fail
  refine (HK1.out _ (H.out.below BW3.out)).mono ?_
  rintro e W4 ⟨rfl, hb4⟩
  have BW4 : Hid (Below w.heap.size w W4) := BW3.out.trans (hb4.mono BW3.out.size)
  have O4 : Hid _ := (O1b.out.below B3.out).below hb4
  clear hb4 B3 BW3 O1b O2 HK1 B2
  go_wp2_with fail
  refine (HK2.out _ (H.out.below BW4.out)).mono ?_
  rintro e W5 ⟨rfl, hb5⟩
  have BW5 : Hid (Below w.heap.size w W5) := BW4.out.trans (hb5.mono BW4.out.size)
  have O5 : Hid _ := O4.out.below hb5
  clear hb5 BW4 O4 HK2
  go_wp2_with fail
  refine (HK3.out _ _ O5.out).mono ?_
  rintro e W6 ⟨rfl, hb6⟩
  have BW6 : Hid (Below w.heap.size w W6) := BW5.out.trans (hb6.mono BW5.out.size)
  clear hb6 BW5 O5 HK3
  have f1 := prt_hi i o
  have f2 := prt_lo i o
  go_wp2
  go_ret
  exact ⟨rfl, BW6.out⟩
end Go.Proofs.Ytgonckbdkgiddaa
