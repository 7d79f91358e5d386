/- The walk of L4Turned of packets with a check sum. Conditions: numbers of their kinds, texts of at most 2^47 bytes. -/
import Derived.Test.YtanilaofhaelkaaL4lc
namespace Go.Proofs.Ytanilaofhaelkaa
open Go.RowKit
set_option maxRecDepth 20000 in
set_option maxHeartbeats 4000000 in
theorem turned_1 (src dst : Int) (hs : 0 ≤ src ∧ src ≤ 4294967295) (ht : 0 ≤ dst ∧ dst ≤ 4294967295) (ty co re sp dp : Int) (sq ak fl wi ur : Int) (os ds : List Int) (hf : (L4R.mk 1 ty co re sp dp false sq ak fl wi ur os ds).Fine) (hok : (L4R.mk 1 ty co re sp dp false sq ak fl wi ur os ds).ok = true) (bit : Int) (w : World) :
    Calls Try.prog 6 #[.int .u32 src, .int .u32 dst, (L4R.mk 1 ty co re sp dp false sq ak fl wi ur os ds).v, .int .i64 bit] w fun e w' => e = .returned (.bool true) ∧ Below w.heap.size w w' := by
  have HE : Hid (∀ W, Calls Try.prog 10 #[.int .u32 src, .int .u32 dst, .agg #[.int .i64 1, .int .i64 ty, .int .i64 co, .int .u32 re, .int .i64 sp, .int .i64 dp, .bool false, .int .u32 sq, .int .u32 ak, .int .i64 fl, .int .i64 wi, .int .i64 ur, .string (strOfNums os), .string (strOfNums ds)]] W fun e w' => ∃ g, e = .returned (.tuple #[.slice (some ⟨g, 0, none⟩) (L4R.mk 1 ty co re sp dp false sq ak fl wi ur os ds).body.length (L4R.mk 1 ty co re sp dp false sq ak fl wi ur os ds).body.length, .int .i64 0]) ∧ EncS W w' g (L4R.mk 1 ty co re sp dp false sq ak fl wi ur os ds).body.length (L4R.mk 1 ty co re sp dp false sq ak fl wi ur os ds).body.length ((L4R.mk 1 ty co re sp dp false sq ak fl wi ur os ds).enc src dst)) := fun W => encode_ok (L4R.mk 1 ty co re sp dp false sq ak fl wi ur os ds) hf hok src dst hs ht W
  have hbl : ((L4R.mk 1 ty co re sp dp false sq ak fl wi ur os ds).body.length : Int) = fixV 1 + os.length + ds.length := (L4R.mk 1 ty co re sp dp false sq ak fl wi ur os ds).body_len
  have hall : fixV 1 + (os.length : Int) + ds.length ≤ 65515 := (L4R.okOf hok).all
  have hfx : fixV 1 = 8 := rfl
  have HT : Hid (∀ i u, 4 ≤ i → i < (L4R.mk 1 ty co re sp dp false sq ak fl wi ur os ds).body.length → 0 ≤ u ∧ u ≤ 255 → u ≠ ((L4R.mk 1 ty co re sp dp false sq ak fl wi ur os ds).enc src dst).getD i 0 → decE src dst 1 (((L4R.mk 1 ty co re sp dp false sq ak fl wi ur os ds).enc src dst).set i u) = 30 ∧ decR src dst 1 (((L4R.mk 1 ty co re sp dp false sq ak fl wi ur os ds).enc src dst).set i u) = zeroR) := fun i u h1 h2 hu hne => turned hf hok (by simp) rfl src dst hs.1 ht.1 i u h1 h2 hu hne
  have HB : Hid _ := L4R.enc_fits hf src dst hs.1 ht.1
  have HDD : Hid (∀ W g N E, BS W (some ⟨g, 0, none⟩) N E → Calls Try.prog 7 #[.int .u32 src, .int .u32 dst, .int .i64 1, .slice (some ⟨g, 0, none⟩) N N] W fun e w' => e = .returned (.tuple #[(decR src dst 1 E).v, .int .i64 (decE src dst 1 E)]) ∧ Below W.heap.size W w') := fun W g N E hE =>
    decode_any src dst 1 hs ht (some ⟨g, 0, none⟩) N N E (Nat.le_refl _) (fun x e => ⟨g, 0, by cases e; rfl⟩) (fun e => by cases e) W hE
  clear hs ht hf hok
  rw [hfx] at hbl hall
  clear hfx
  generalize (L4R.mk 1 ty co re sp dp false sq ak fl wi ur os ds).body.length = N at *
  generalize (L4R.mk 1 ty co re sp dp false sq ak fl wi ur os ds).enc src dst = B at *
  have hN1 : 8 ≤ N := by omega
  have hN2 : N ≤ 65515 := by omega
  clear hbl hall
  show Calls Try.prog 6 #[.int .u32 src, .int .u32 dst, .agg #[.int .i64 1, .int .i64 ty, .int .i64 co, .int .u32 re, .int .i64 sp, .int .i64 dp, .bool false, .int .u32 sq, .int .u32 ak, .int .i64 fl, .int .i64 wi, .int .i64 ur, .string (strOfNums os), .string (strOfNums ds)], .int .i64 bit] w _
  generalize hM : 8 * ((N : Int) - 4) = M at *
  have hMb : 0 < M ∧ M ≤ 524120 := by omega
  have hr1 : -M < bit.tmod M := by
    have := Int.lt_tmod_of_pos bit (show (0 : Int) < M by omega); omega
  have hr2 : bit.tmod M < M := Int.tmod_lt_of_pos bit (by omega)
  have hM0 : ¬ M = 0 := by omega
  have hM1 : M ≠ 0 := by omega
  obtain ⟨q, hkM, hcase⟩ : ∃ q : Nat, (q : Int) < M ∧ ((bit.tmod M < 0 ∧ Hid ((q : Int) = bit.tmod M + M)) ∨ (¬ bit.tmod M < 0 ∧ Hid ((q : Int) = bit.tmod M))) := by
    by_cases hneg : bit.tmod M < 0
    · exact ⟨(bit.tmod M + M).toNat, by omega, .inl ⟨hneg, by show _ = _; omega⟩⟩
    · exact ⟨(bit.tmod M).toNat, by omega, .inr ⟨hneg, by show _ = _; omega⟩⟩
  obtain ⟨i, r, hkr, hr8, hi1, hi2⟩ : ∃ i r : Nat, q + 8 * 4 = 8 * i + r ∧ r < 8 ∧ 4 ≤ i ∧ i < N := ⟨(q + 8 * 4) / 8, (q + 8 * 4) % 8, by omega, by omega, by omega, by omega⟩
  have hq1 : 4 + (q : Int).tdiv 8 = i := by rw [Int.tdiv_eq_ediv_of_nonneg (by omega)]; omega
  have hq2 : (q : Int).tmod 8 = r := by rw [Int.tmod_eq_emod_of_nonneg (by omega)]; omega
  have hq3 : 4 + (q : Int) / 8 = i := by omega
  have hq4 : (q : Int) % 8 = r := by omega
  have hiI : (i : Int) < N := by omega
  have hrI : (r : Int) < 8 := by omega
  have hp := HB.out i
  have hy : (0 : Int) ≤ 2 ^ r % 256 ∧ (2 : Int) ^ r % 256 ≤ 255 := by omega
  have hy0 : (2 : Int) ^ r % 256 ≠ 0 := by
    have : r = 0 ∨ r = 1 ∨ r = 2 ∨ r = 3 ∨ r = 4 ∨ r = 5 ∨ r = 6 ∨ r = 7 := by omega
    rcases this with rfl | rfl | rfl | rfl | rfl | rfl | rfl | rfl <;> decide
  have xp := xor_u8 _ _ hp hy hy0
  have hno := HT.out i (bits .xor .u8 (B.getD i 0) (2 ^ r % 256)) hi1 hi2 xp.1 xp.2
  clear hy hy0 hp HT
  generalize hpp : B.getD i 0 = pp at *
  have Hno : Hid _ := hno
  clear hno
  have Hpp : Hid (B.getD i 0 = pp) := hpp
  clear hpp
  rcases hcase with ⟨hneg, hk⟩ | ⟨hneg, hk⟩
  all_goals
    go_enter Try.func6, Try.ntmps6
    go_wp2_with fail
    refine (HE.out _).mono ?_
    rintro e W1 ⟨g, rfl, e1⟩
    have b1 := e1.bel
    have A1 : Hid (AtB W1 w.heap.size #[.int .i64 1, .int .i64 ty, .int .i64 co, .int .u32 re, .int .i64 sp, .int .i64 dp, .bool false, .int .u32 sq, .int .u32 ak, .int .i64 fl, .int .i64 wi, .int .i64 ur, .string (strOfNums os), .string (strOfNums ds)]) := AtB.below (atB_new w #[.int .i64 1, .int .i64 ty, .int .i64 co, .int .u32 re, .int .i64 sp, .int .i64 dp, .bool false, .int .u32 sq, .int .u32 ak, .int .i64 fl, .int .i64 wi, .int .i64 ur, .string (strOfNums os), .string (strOfNums ds)] 25 _ rfl) b1
    have B1 : Hid (Below w.heap.size w W1) := (below1 w _).trans (b1.mono (by simp))
    have hE1 : Hid (EncS (w.alloc (.cells #[.int .i64 1, .int .i64 ty, .int .i64 co, .int .u32 re, .int .i64 sp, .int .i64 dp, .bool false, .int .u32 sq, .int .u32 ak, .int .i64 fl, .int .i64 wi, .int .i64 ur, .string (strOfNums os), .string (strOfNums ds)] 25)) W1 g N N B) := e1
    have hgb := World.ownsRow.lt e1.own g rfl
    clear b1 e1
    go_wp2_with fail
    refine (lives_any _).mono ?_
    rintro e W2 ⟨rfl, b2⟩
    have A2 : Hid (AtB W2 w.heap.size #[.int .i64 1, .int .i64 ty, .int .i64 co, .int .u32 re, .int .i64 sp, .int .i64 dp, .bool false, .int .u32 sq, .int .u32 ak, .int .i64 fl, .int .i64 wi, .int .i64 ur, .string (strOfNums os), .string (strOfNums ds)]) := AtB.below A1.out b2
    have B2 : Hid (Below w.heap.size w W2) := B1.out.trans (b2.mono B1.out.size)
    have E2 : Hid (BS W2 (some ⟨g, 0, none⟩) N B) := hE1.out.bs.below b2
    have fz : W2.frozen? ⟨g, i, none⟩ = false := (b2.frozen hgb.2).trans (hE1.out.own.frozenAt i)
    have hgw : w.heap.size < g := by have := hgb.1; simp at this; omega
    clear b2 A1 B1 hE1 hgb
    obtain ⟨x0, x1, x2, x3, x4, x5, x6, x7, x8, x9, x10, x11, x12, x13⟩ := AtB.cells14 A2.out
    go_wp2_with fail
    refine (map4_any 1 (by omega) _).mono ?_
    rintro e w' ⟨rfl, hw'⟩
    rw [hw', show ((mapV 1 : Nat) : Int) = 4 from rfl]
    clear hw'
    have cB : W2.cell? ⟨g, i, none⟩ = some (.int .u8 pp) := by
      rcases E2.out.cells with h0 | ⟨_, _, e, hc⟩
      · omega
      · cases e; have := hc i (by have := E2.out.len; omega); rwa [Nat.zero_add, Hpp.out] at this
    have hi0 : (0 : Int) ≤ i := by omega
    go_wp2
    rw [← hk.out]
    clear hk hneg hr1 hr2 hM
    clear x0 x1 x2 x3 x4 x5 x6 x7 x8 x9 x10 x11 x12 x13
    go_region
    have B4 : Hid (Below w.heap.size w (W2.setCell ⟨g, i, none⟩ (.int .u8 (bits .xor .u8 pp (2 ^ r % 256)))).drew) := (B2.out.setCell (by show _ ≤ g; omega) _).drew
    have E4 : Hid (BS (W2.setCell ⟨g, i, none⟩ (.int .u8 (bits .xor .u8 pp (2 ^ r % 256)))).drew (some ⟨g, 0, none⟩) N (B.set i (bits .xor .u8 pp (2 ^ r % 256)))) := (bs_set E2.out (by omega) xp.1).drew
    have A4 : Hid (AtB (W2.setCell ⟨g, i, none⟩ (.int .u8 (bits .xor .u8 pp (2 ^ r % 256)))).drew w.heap.size #[.int .i64 1, .int .i64 ty, .int .i64 co, .int .u32 re, .int .i64 sp, .int .i64 dp, .bool false, .int .u32 sq, .int .u32 ak, .int .i64 fl, .int .i64 wi, .int .i64 ur, .string (strOfNums os), .string (strOfNums ds)]) := AtB.far A2.out (by omega)
    generalize (W2.setCell ⟨g, i, none⟩ (.int .u8 (bits .xor .u8 pp (2 ^ r % 256)))).drew = W4 at *
    obtain ⟨x0, x1, x2, x3, x4, x5, x6, x7, x8, x9, x10, x11, x12, x13⟩ := AtB.cells14 A4.out
    clear fz cB B2 E2 A2
    go_wp2_with fail
    refine (proto_any 1 _).mono ?_
    rintro e w' ⟨rfl, hw'⟩
    rw [hw', show protoV 1 = .tuple #[.int .i64 1, .bool true] from rfl]
    clear hw'
    go_wp2_with fail
    refine (HDD.out _ _ _ _ E4.out).mono ?_
    rw [Hno.out.1, Hno.out.2]
    rintro e W5 ⟨rfl, b5⟩
    have B5 : Hid (Below w.heap.size w W5) := B4.out.trans (b5.mono B4.out.size)
    clear x0 x1 x2 x3 x4 x5 x6 x7 x8 x9 x10 x11 x12 x13
    clear b5 B4 E4 A4
    dsimp only [L4R.v, l4V, zeroR]
    rw [show strOfNums [] = (⟨#[]⟩ : ByteArray) from rfl]
    go_wp2
    go_ret
    exact ⟨rfl, B5.out.alloc B5.out.size _⟩
set_option maxRecDepth 20000 in
set_option maxHeartbeats 4000000 in
theorem turned_2 (src dst : Int) (hs : 0 ≤ src ∧ src ≤ 4294967295) (ht : 0 ≤ dst ∧ dst ≤ 4294967295) (ty co re sp dp : Int) (sq ak fl wi ur : Int) (os ds : List Int) (hf : (L4R.mk 2 ty co re sp dp false sq ak fl wi ur os ds).Fine) (hok : (L4R.mk 2 ty co re sp dp false sq ak fl wi ur os ds).ok = true) (bit : Int) (w : World) :
    Calls Try.prog 6 #[.int .u32 src, .int .u32 dst, (L4R.mk 2 ty co re sp dp false sq ak fl wi ur os ds).v, .int .i64 bit] w fun e w' => e = .returned (.bool true) ∧ Below w.heap.size w w' := by
  have HE : Hid (∀ W, Calls Try.prog 10 #[.int .u32 src, .int .u32 dst, .agg #[.int .i64 2, .int .i64 ty, .int .i64 co, .int .u32 re, .int .i64 sp, .int .i64 dp, .bool false, .int .u32 sq, .int .u32 ak, .int .i64 fl, .int .i64 wi, .int .i64 ur, .string (strOfNums os), .string (strOfNums ds)]] W fun e w' => ∃ g, e = .returned (.tuple #[.slice (some ⟨g, 0, none⟩) (L4R.mk 2 ty co re sp dp false sq ak fl wi ur os ds).body.length (L4R.mk 2 ty co re sp dp false sq ak fl wi ur os ds).body.length, .int .i64 0]) ∧ EncS W w' g (L4R.mk 2 ty co re sp dp false sq ak fl wi ur os ds).body.length (L4R.mk 2 ty co re sp dp false sq ak fl wi ur os ds).body.length ((L4R.mk 2 ty co re sp dp false sq ak fl wi ur os ds).enc src dst)) := fun W => encode_ok (L4R.mk 2 ty co re sp dp false sq ak fl wi ur os ds) hf hok src dst hs ht W
  have hbl : ((L4R.mk 2 ty co re sp dp false sq ak fl wi ur os ds).body.length : Int) = fixV 2 + os.length + ds.length := (L4R.mk 2 ty co re sp dp false sq ak fl wi ur os ds).body_len
  have hall : fixV 2 + (os.length : Int) + ds.length ≤ 65515 := (L4R.okOf hok).all
  have hfx : fixV 2 = 8 := rfl
  have HT : Hid (∀ i u, 8 ≤ i → i < (L4R.mk 2 ty co re sp dp false sq ak fl wi ur os ds).body.length → 0 ≤ u ∧ u ≤ 255 → u ≠ ((L4R.mk 2 ty co re sp dp false sq ak fl wi ur os ds).enc src dst).getD i 0 → decE src dst 2 (((L4R.mk 2 ty co re sp dp false sq ak fl wi ur os ds).enc src dst).set i u) = 30 ∧ decR src dst 2 (((L4R.mk 2 ty co re sp dp false sq ak fl wi ur os ds).enc src dst).set i u) = zeroR) := fun i u h1 h2 hu hne => turned hf hok (by simp) rfl src dst hs.1 ht.1 i u h1 h2 hu hne
  have HB : Hid _ := L4R.enc_fits hf src dst hs.1 ht.1
  have HDD : Hid (∀ W g N E, BS W (some ⟨g, 0, none⟩) N E → Calls Try.prog 7 #[.int .u32 src, .int .u32 dst, .int .i64 17, .slice (some ⟨g, 0, none⟩) N N] W fun e w' => e = .returned (.tuple #[(decR src dst 2 E).v, .int .i64 (decE src dst 2 E)]) ∧ Below W.heap.size W w') := fun W g N E hE =>
    decode_any src dst 17 hs ht (some ⟨g, 0, none⟩) N N E (Nat.le_refl _) (fun x e => ⟨g, 0, by cases e; rfl⟩) (fun e => by cases e) W hE
  clear hs ht hf hok
  rw [hfx] at hbl hall
  clear hfx
  generalize (L4R.mk 2 ty co re sp dp false sq ak fl wi ur os ds).body.length = N at *
  generalize (L4R.mk 2 ty co re sp dp false sq ak fl wi ur os ds).enc src dst = B at *
  have hN1 : 8 ≤ N := by omega
  have hN2 : N ≤ 65515 := by omega
  clear hbl hall
  rcases (by omega : N = 8 ∨ 8 < N) with hN8 | hN8
  · have hN9 : (N : Int) = 8 := by omega
    clear HT HDD hN1 hN2
    show Calls Try.prog 6 #[.int .u32 src, .int .u32 dst, .agg #[.int .i64 2, .int .i64 ty, .int .i64 co, .int .u32 re, .int .i64 sp, .int .i64 dp, .bool false, .int .u32 sq, .int .u32 ak, .int .i64 fl, .int .i64 wi, .int .i64 ur, .string (strOfNums os), .string (strOfNums ds)], .int .i64 bit] w _
    go_enter Try.func6, Try.ntmps6
    go_wp2_with fail
    refine (HE.out _).mono ?_
    rintro e W1 ⟨g, rfl, e1⟩
    have b1 := e1.bel
    have A1 : Hid (AtB W1 w.heap.size #[.int .i64 2, .int .i64 ty, .int .i64 co, .int .u32 re, .int .i64 sp, .int .i64 dp, .bool false, .int .u32 sq, .int .u32 ak, .int .i64 fl, .int .i64 wi, .int .i64 ur, .string (strOfNums os), .string (strOfNums ds)]) := AtB.below (atB_new w #[.int .i64 2, .int .i64 ty, .int .i64 co, .int .u32 re, .int .i64 sp, .int .i64 dp, .bool false, .int .u32 sq, .int .u32 ak, .int .i64 fl, .int .i64 wi, .int .i64 ur, .string (strOfNums os), .string (strOfNums ds)] 25 _ rfl) b1
    have B1 : Hid (Below w.heap.size w W1) := (below1 w _).trans (b1.mono (by simp))
    clear b1 e1
    go_wp2_with fail
    refine (lives_any _).mono ?_
    rintro e W2 ⟨rfl, b2⟩
    have A2 : Hid (AtB W2 w.heap.size #[.int .i64 2, .int .i64 ty, .int .i64 co, .int .u32 re, .int .i64 sp, .int .i64 dp, .bool false, .int .u32 sq, .int .u32 ak, .int .i64 fl, .int .i64 wi, .int .i64 ur, .string (strOfNums os), .string (strOfNums ds)]) := AtB.below A1.out b2
    have B2 : Hid (Below w.heap.size w W2) := B1.out.trans (b2.mono B1.out.size)
    clear b2 A1 B1
    obtain ⟨x0, x1, x2, x3, x4, x5, x6, x7, x8, x9, x10, x11, x12, x13⟩ := AtB.cells14 A2.out
    go_wp2_with fail
    refine (map4_any 2 (by omega) _).mono ?_
    rintro e w' ⟨rfl, hw'⟩
    rw [hw', show ((mapV 2 : Nat) : Int) = 8 from rfl]
    clear hw'
    go_wp2
    go_ret
    exact ⟨rfl, B2.out⟩
  have hNn : ¬ (N : Int) = 8 := by omega
  show Calls Try.prog 6 #[.int .u32 src, .int .u32 dst, .agg #[.int .i64 2, .int .i64 ty, .int .i64 co, .int .u32 re, .int .i64 sp, .int .i64 dp, .bool false, .int .u32 sq, .int .u32 ak, .int .i64 fl, .int .i64 wi, .int .i64 ur, .string (strOfNums os), .string (strOfNums ds)], .int .i64 bit] w _
  generalize hM : 8 * ((N : Int) - 8) = M at *
  have hMb : 0 < M ∧ M ≤ 524120 := by omega
  have hr1 : -M < bit.tmod M := by
    have := Int.lt_tmod_of_pos bit (show (0 : Int) < M by omega); omega
  have hr2 : bit.tmod M < M := Int.tmod_lt_of_pos bit (by omega)
  have hM0 : ¬ M = 0 := by omega
  have hM1 : M ≠ 0 := by omega
  obtain ⟨q, hkM, hcase⟩ : ∃ q : Nat, (q : Int) < M ∧ ((bit.tmod M < 0 ∧ Hid ((q : Int) = bit.tmod M + M)) ∨ (¬ bit.tmod M < 0 ∧ Hid ((q : Int) = bit.tmod M))) := by
    by_cases hneg : bit.tmod M < 0
    · exact ⟨(bit.tmod M + M).toNat, by omega, .inl ⟨hneg, by show _ = _; omega⟩⟩
    · exact ⟨(bit.tmod M).toNat, by omega, .inr ⟨hneg, by show _ = _; omega⟩⟩
  obtain ⟨i, r, hkr, hr8, hi1, hi2⟩ : ∃ i r : Nat, q + 8 * 8 = 8 * i + r ∧ r < 8 ∧ 8 ≤ i ∧ i < N := ⟨(q + 8 * 8) / 8, (q + 8 * 8) % 8, by omega, by omega, by omega, by omega⟩
  have hq1 : 8 + (q : Int).tdiv 8 = i := by rw [Int.tdiv_eq_ediv_of_nonneg (by omega)]; omega
  have hq2 : (q : Int).tmod 8 = r := by rw [Int.tmod_eq_emod_of_nonneg (by omega)]; omega
  have hq3 : 8 + (q : Int) / 8 = i := by omega
  have hq4 : (q : Int) % 8 = r := by omega
  have hiI : (i : Int) < N := by omega
  have hrI : (r : Int) < 8 := by omega
  have hp := HB.out i
  have hy : (0 : Int) ≤ 2 ^ r % 256 ∧ (2 : Int) ^ r % 256 ≤ 255 := by omega
  have hy0 : (2 : Int) ^ r % 256 ≠ 0 := by
    have : r = 0 ∨ r = 1 ∨ r = 2 ∨ r = 3 ∨ r = 4 ∨ r = 5 ∨ r = 6 ∨ r = 7 := by omega
    rcases this with rfl | rfl | rfl | rfl | rfl | rfl | rfl | rfl <;> decide
  have xp := xor_u8 _ _ hp hy hy0
  have hno := HT.out i (bits .xor .u8 (B.getD i 0) (2 ^ r % 256)) hi1 hi2 xp.1 xp.2
  clear hy hy0 hp HT
  generalize hpp : B.getD i 0 = pp at *
  have Hno : Hid _ := hno
  clear hno
  have Hpp : Hid (B.getD i 0 = pp) := hpp
  clear hpp
  rcases hcase with ⟨hneg, hk⟩ | ⟨hneg, hk⟩
  all_goals
    go_enter Try.func6, Try.ntmps6
    go_wp2_with fail
    refine (HE.out _).mono ?_
    rintro e W1 ⟨g, rfl, e1⟩
    have b1 := e1.bel
    have A1 : Hid (AtB W1 w.heap.size #[.int .i64 2, .int .i64 ty, .int .i64 co, .int .u32 re, .int .i64 sp, .int .i64 dp, .bool false, .int .u32 sq, .int .u32 ak, .int .i64 fl, .int .i64 wi, .int .i64 ur, .string (strOfNums os), .string (strOfNums ds)]) := AtB.below (atB_new w #[.int .i64 2, .int .i64 ty, .int .i64 co, .int .u32 re, .int .i64 sp, .int .i64 dp, .bool false, .int .u32 sq, .int .u32 ak, .int .i64 fl, .int .i64 wi, .int .i64 ur, .string (strOfNums os), .string (strOfNums ds)] 25 _ rfl) b1
    have B1 : Hid (Below w.heap.size w W1) := (below1 w _).trans (b1.mono (by simp))
    have hE1 : Hid (EncS (w.alloc (.cells #[.int .i64 2, .int .i64 ty, .int .i64 co, .int .u32 re, .int .i64 sp, .int .i64 dp, .bool false, .int .u32 sq, .int .u32 ak, .int .i64 fl, .int .i64 wi, .int .i64 ur, .string (strOfNums os), .string (strOfNums ds)] 25)) W1 g N N B) := e1
    have hgb := World.ownsRow.lt e1.own g rfl
    clear b1 e1
    go_wp2_with fail
    refine (lives_any _).mono ?_
    rintro e W2 ⟨rfl, b2⟩
    have A2 : Hid (AtB W2 w.heap.size #[.int .i64 2, .int .i64 ty, .int .i64 co, .int .u32 re, .int .i64 sp, .int .i64 dp, .bool false, .int .u32 sq, .int .u32 ak, .int .i64 fl, .int .i64 wi, .int .i64 ur, .string (strOfNums os), .string (strOfNums ds)]) := AtB.below A1.out b2
    have B2 : Hid (Below w.heap.size w W2) := B1.out.trans (b2.mono B1.out.size)
    have E2 : Hid (BS W2 (some ⟨g, 0, none⟩) N B) := hE1.out.bs.below b2
    have fz : W2.frozen? ⟨g, i, none⟩ = false := (b2.frozen hgb.2).trans (hE1.out.own.frozenAt i)
    have hgw : w.heap.size < g := by have := hgb.1; simp at this; omega
    clear b2 A1 B1 hE1 hgb
    obtain ⟨x0, x1, x2, x3, x4, x5, x6, x7, x8, x9, x10, x11, x12, x13⟩ := AtB.cells14 A2.out
    go_wp2_with fail
    refine (map4_any 2 (by omega) _).mono ?_
    rintro e w' ⟨rfl, hw'⟩
    rw [hw', show ((mapV 2 : Nat) : Int) = 8 from rfl]
    clear hw'
    have cB : W2.cell? ⟨g, i, none⟩ = some (.int .u8 pp) := by
      rcases E2.out.cells with h0 | ⟨_, _, e, hc⟩
      · omega
      · cases e; have := hc i (by have := E2.out.len; omega); rwa [Nat.zero_add, Hpp.out] at this
    have hi0 : (0 : Int) ≤ i := by omega
    go_wp2
    rw [← hk.out]
    clear hk hneg hr1 hr2 hM
    clear x0 x1 x2 x3 x4 x5 x6 x7 x8 x9 x10 x11 x12 x13
    go_region
    have B4 : Hid (Below w.heap.size w (W2.setCell ⟨g, i, none⟩ (.int .u8 (bits .xor .u8 pp (2 ^ r % 256)))).drew) := (B2.out.setCell (by show _ ≤ g; omega) _).drew
    have E4 : Hid (BS (W2.setCell ⟨g, i, none⟩ (.int .u8 (bits .xor .u8 pp (2 ^ r % 256)))).drew (some ⟨g, 0, none⟩) N (B.set i (bits .xor .u8 pp (2 ^ r % 256)))) := (bs_set E2.out (by omega) xp.1).drew
    have A4 : Hid (AtB (W2.setCell ⟨g, i, none⟩ (.int .u8 (bits .xor .u8 pp (2 ^ r % 256)))).drew w.heap.size #[.int .i64 2, .int .i64 ty, .int .i64 co, .int .u32 re, .int .i64 sp, .int .i64 dp, .bool false, .int .u32 sq, .int .u32 ak, .int .i64 fl, .int .i64 wi, .int .i64 ur, .string (strOfNums os), .string (strOfNums ds)]) := AtB.far A2.out (by omega)
    generalize (W2.setCell ⟨g, i, none⟩ (.int .u8 (bits .xor .u8 pp (2 ^ r % 256)))).drew = W4 at *
    obtain ⟨x0, x1, x2, x3, x4, x5, x6, x7, x8, x9, x10, x11, x12, x13⟩ := AtB.cells14 A4.out
    clear fz cB B2 E2 A2
    go_wp2_with fail
    refine (proto_any 2 _).mono ?_
    rintro e w' ⟨rfl, hw'⟩
    rw [hw', show protoV 2 = .tuple #[.int .i64 17, .bool true] from rfl]
    clear hw'
    go_wp2_with fail
    refine (HDD.out _ _ _ _ E4.out).mono ?_
    rw [Hno.out.1, Hno.out.2]
    rintro e W5 ⟨rfl, b5⟩
    have B5 : Hid (Below w.heap.size w W5) := B4.out.trans (b5.mono B4.out.size)
    clear x0 x1 x2 x3 x4 x5 x6 x7 x8 x9 x10 x11 x12 x13
    clear b5 B4 E4 A4
    dsimp only [L4R.v, l4V, zeroR]
    rw [show strOfNums [] = (⟨#[]⟩ : ByteArray) from rfl]
    go_wp2
    go_ret
    exact ⟨rfl, B5.out.alloc B5.out.size _⟩
set_option maxRecDepth 20000 in
set_option maxHeartbeats 4000000 in
theorem turned_3 (src dst : Int) (hs : 0 ≤ src ∧ src ≤ 4294967295) (ht : 0 ≤ dst ∧ dst ≤ 4294967295) (ty co re sp dp : Int) (sq ak fl wi ur : Int) (os ds : List Int) (hf : (L4R.mk 3 ty co re sp dp false sq ak fl wi ur os ds).Fine) (hok : (L4R.mk 3 ty co re sp dp false sq ak fl wi ur os ds).ok = true) (bit : Int) (w : World) :
    Calls Try.prog 6 #[.int .u32 src, .int .u32 dst, (L4R.mk 3 ty co re sp dp false sq ak fl wi ur os ds).v, .int .i64 bit] w fun e w' => e = .returned (.bool true) ∧ Below w.heap.size w w' := by
  have HE : Hid (∀ W, Calls Try.prog 10 #[.int .u32 src, .int .u32 dst, .agg #[.int .i64 3, .int .i64 ty, .int .i64 co, .int .u32 re, .int .i64 sp, .int .i64 dp, .bool false, .int .u32 sq, .int .u32 ak, .int .i64 fl, .int .i64 wi, .int .i64 ur, .string (strOfNums os), .string (strOfNums ds)]] W fun e w' => ∃ g, e = .returned (.tuple #[.slice (some ⟨g, 0, none⟩) (L4R.mk 3 ty co re sp dp false sq ak fl wi ur os ds).body.length (L4R.mk 3 ty co re sp dp false sq ak fl wi ur os ds).body.length, .int .i64 0]) ∧ EncS W w' g (L4R.mk 3 ty co re sp dp false sq ak fl wi ur os ds).body.length (L4R.mk 3 ty co re sp dp false sq ak fl wi ur os ds).body.length ((L4R.mk 3 ty co re sp dp false sq ak fl wi ur os ds).enc src dst)) := fun W => encode_ok (L4R.mk 3 ty co re sp dp false sq ak fl wi ur os ds) hf hok src dst hs ht W
  have hbl : ((L4R.mk 3 ty co re sp dp false sq ak fl wi ur os ds).body.length : Int) = fixV 3 + os.length + ds.length := (L4R.mk 3 ty co re sp dp false sq ak fl wi ur os ds).body_len
  have hall : fixV 3 + (os.length : Int) + ds.length ≤ 65515 := (L4R.okOf hok).all
  have hfx : fixV 3 = 20 := rfl
  have HT : Hid (∀ i u, 18 ≤ i → i < (L4R.mk 3 ty co re sp dp false sq ak fl wi ur os ds).body.length → 0 ≤ u ∧ u ≤ 255 → u ≠ ((L4R.mk 3 ty co re sp dp false sq ak fl wi ur os ds).enc src dst).getD i 0 → decE src dst 3 (((L4R.mk 3 ty co re sp dp false sq ak fl wi ur os ds).enc src dst).set i u) = 30 ∧ decR src dst 3 (((L4R.mk 3 ty co re sp dp false sq ak fl wi ur os ds).enc src dst).set i u) = zeroR) := fun i u h1 h2 hu hne => turned hf hok (by simp) rfl src dst hs.1 ht.1 i u h1 h2 hu hne
  have HB : Hid _ := L4R.enc_fits hf src dst hs.1 ht.1
  have HDD : Hid (∀ W g N E, BS W (some ⟨g, 0, none⟩) N E → Calls Try.prog 7 #[.int .u32 src, .int .u32 dst, .int .i64 6, .slice (some ⟨g, 0, none⟩) N N] W fun e w' => e = .returned (.tuple #[(decR src dst 3 E).v, .int .i64 (decE src dst 3 E)]) ∧ Below W.heap.size W w') := fun W g N E hE =>
    decode_any src dst 6 hs ht (some ⟨g, 0, none⟩) N N E (Nat.le_refl _) (fun x e => ⟨g, 0, by cases e; rfl⟩) (fun e => by cases e) W hE
  clear hs ht hf hok
  rw [hfx] at hbl hall
  clear hfx
  generalize (L4R.mk 3 ty co re sp dp false sq ak fl wi ur os ds).body.length = N at *
  generalize (L4R.mk 3 ty co re sp dp false sq ak fl wi ur os ds).enc src dst = B at *
  have hN1 : 20 ≤ N := by omega
  have hN2 : N ≤ 65515 := by omega
  clear hbl hall
  show Calls Try.prog 6 #[.int .u32 src, .int .u32 dst, .agg #[.int .i64 3, .int .i64 ty, .int .i64 co, .int .u32 re, .int .i64 sp, .int .i64 dp, .bool false, .int .u32 sq, .int .u32 ak, .int .i64 fl, .int .i64 wi, .int .i64 ur, .string (strOfNums os), .string (strOfNums ds)], .int .i64 bit] w _
  generalize hM : 8 * ((N : Int) - 18) = M at *
  have hMb : 0 < M ∧ M ≤ 524120 := by omega
  have hr1 : -M < bit.tmod M := by
    have := Int.lt_tmod_of_pos bit (show (0 : Int) < M by omega); omega
  have hr2 : bit.tmod M < M := Int.tmod_lt_of_pos bit (by omega)
  have hM0 : ¬ M = 0 := by omega
  have hM1 : M ≠ 0 := by omega
  obtain ⟨q, hkM, hcase⟩ : ∃ q : Nat, (q : Int) < M ∧ ((bit.tmod M < 0 ∧ Hid ((q : Int) = bit.tmod M + M)) ∨ (¬ bit.tmod M < 0 ∧ Hid ((q : Int) = bit.tmod M))) := by
    by_cases hneg : bit.tmod M < 0
    · exact ⟨(bit.tmod M + M).toNat, by omega, .inl ⟨hneg, by show _ = _; omega⟩⟩
    · exact ⟨(bit.tmod M).toNat, by omega, .inr ⟨hneg, by show _ = _; omega⟩⟩
  obtain ⟨i, r, hkr, hr8, hi1, hi2⟩ : ∃ i r : Nat, q + 8 * 18 = 8 * i + r ∧ r < 8 ∧ 18 ≤ i ∧ i < N := ⟨(q + 8 * 18) / 8, (q + 8 * 18) % 8, by omega, by omega, by omega, by omega⟩
  have hq1 : 18 + (q : Int).tdiv 8 = i := by rw [Int.tdiv_eq_ediv_of_nonneg (by omega)]; omega
  have hq2 : (q : Int).tmod 8 = r := by rw [Int.tmod_eq_emod_of_nonneg (by omega)]; omega
  have hq3 : 18 + (q : Int) / 8 = i := by omega
  have hq4 : (q : Int) % 8 = r := by omega
  have hiI : (i : Int) < N := by omega
  have hrI : (r : Int) < 8 := by omega
  have hp := HB.out i
  have hy : (0 : Int) ≤ 2 ^ r % 256 ∧ (2 : Int) ^ r % 256 ≤ 255 := by omega
  have hy0 : (2 : Int) ^ r % 256 ≠ 0 := by
    have : r = 0 ∨ r = 1 ∨ r = 2 ∨ r = 3 ∨ r = 4 ∨ r = 5 ∨ r = 6 ∨ r = 7 := by omega
    rcases this with rfl | rfl | rfl | rfl | rfl | rfl | rfl | rfl <;> decide
  have xp := xor_u8 _ _ hp hy hy0
  have hno := HT.out i (bits .xor .u8 (B.getD i 0) (2 ^ r % 256)) hi1 hi2 xp.1 xp.2
  clear hy hy0 hp HT
  generalize hpp : B.getD i 0 = pp at *
  have Hno : Hid _ := hno
  clear hno
  have Hpp : Hid (B.getD i 0 = pp) := hpp
  clear hpp
  rcases hcase with ⟨hneg, hk⟩ | ⟨hneg, hk⟩
  all_goals
    go_enter Try.func6, Try.ntmps6
    go_wp2_with fail
    refine (HE.out _).mono ?_
    rintro e W1 ⟨g, rfl, e1⟩
    have b1 := e1.bel
    have A1 : Hid (AtB W1 w.heap.size #[.int .i64 3, .int .i64 ty, .int .i64 co, .int .u32 re, .int .i64 sp, .int .i64 dp, .bool false, .int .u32 sq, .int .u32 ak, .int .i64 fl, .int .i64 wi, .int .i64 ur, .string (strOfNums os), .string (strOfNums ds)]) := AtB.below (atB_new w #[.int .i64 3, .int .i64 ty, .int .i64 co, .int .u32 re, .int .i64 sp, .int .i64 dp, .bool false, .int .u32 sq, .int .u32 ak, .int .i64 fl, .int .i64 wi, .int .i64 ur, .string (strOfNums os), .string (strOfNums ds)] 25 _ rfl) b1
    have B1 : Hid (Below w.heap.size w W1) := (below1 w _).trans (b1.mono (by simp))
    have hE1 : Hid (EncS (w.alloc (.cells #[.int .i64 3, .int .i64 ty, .int .i64 co, .int .u32 re, .int .i64 sp, .int .i64 dp, .bool false, .int .u32 sq, .int .u32 ak, .int .i64 fl, .int .i64 wi, .int .i64 ur, .string (strOfNums os), .string (strOfNums ds)] 25)) W1 g N N B) := e1
    have hgb := World.ownsRow.lt e1.own g rfl
    clear b1 e1
    go_wp2_with fail
    refine (lives_any _).mono ?_
    rintro e W2 ⟨rfl, b2⟩
    have A2 : Hid (AtB W2 w.heap.size #[.int .i64 3, .int .i64 ty, .int .i64 co, .int .u32 re, .int .i64 sp, .int .i64 dp, .bool false, .int .u32 sq, .int .u32 ak, .int .i64 fl, .int .i64 wi, .int .i64 ur, .string (strOfNums os), .string (strOfNums ds)]) := AtB.below A1.out b2
    have B2 : Hid (Below w.heap.size w W2) := B1.out.trans (b2.mono B1.out.size)
    have E2 : Hid (BS W2 (some ⟨g, 0, none⟩) N B) := hE1.out.bs.below b2
    have fz : W2.frozen? ⟨g, i, none⟩ = false := (b2.frozen hgb.2).trans (hE1.out.own.frozenAt i)
    have hgw : w.heap.size < g := by have := hgb.1; simp at this; omega
    clear b2 A1 B1 hE1 hgb
    obtain ⟨x0, x1, x2, x3, x4, x5, x6, x7, x8, x9, x10, x11, x12, x13⟩ := AtB.cells14 A2.out
    go_wp2_with fail
    refine (map4_any 3 (by omega) _).mono ?_
    rintro e w' ⟨rfl, hw'⟩
    rw [hw', show ((mapV 3 : Nat) : Int) = 18 from rfl]
    clear hw'
    have cB : W2.cell? ⟨g, i, none⟩ = some (.int .u8 pp) := by
      rcases E2.out.cells with h0 | ⟨_, _, e, hc⟩
      · omega
      · cases e; have := hc i (by have := E2.out.len; omega); rwa [Nat.zero_add, Hpp.out] at this
    have hi0 : (0 : Int) ≤ i := by omega
    go_wp2
    rw [← hk.out]
    clear hk hneg hr1 hr2 hM
    clear x0 x1 x2 x3 x4 x5 x6 x7 x8 x9 x10 x11 x12 x13
    go_region
    have B4 : Hid (Below w.heap.size w (W2.setCell ⟨g, i, none⟩ (.int .u8 (bits .xor .u8 pp (2 ^ r % 256)))).drew) := (B2.out.setCell (by show _ ≤ g; omega) _).drew
    have E4 : Hid (BS (W2.setCell ⟨g, i, none⟩ (.int .u8 (bits .xor .u8 pp (2 ^ r % 256)))).drew (some ⟨g, 0, none⟩) N (B.set i (bits .xor .u8 pp (2 ^ r % 256)))) := (bs_set E2.out (by omega) xp.1).drew
    have A4 : Hid (AtB (W2.setCell ⟨g, i, none⟩ (.int .u8 (bits .xor .u8 pp (2 ^ r % 256)))).drew w.heap.size #[.int .i64 3, .int .i64 ty, .int .i64 co, .int .u32 re, .int .i64 sp, .int .i64 dp, .bool false, .int .u32 sq, .int .u32 ak, .int .i64 fl, .int .i64 wi, .int .i64 ur, .string (strOfNums os), .string (strOfNums ds)]) := AtB.far A2.out (by omega)
    generalize (W2.setCell ⟨g, i, none⟩ (.int .u8 (bits .xor .u8 pp (2 ^ r % 256)))).drew = W4 at *
    obtain ⟨x0, x1, x2, x3, x4, x5, x6, x7, x8, x9, x10, x11, x12, x13⟩ := AtB.cells14 A4.out
    clear fz cB B2 E2 A2
    go_wp2_with fail
    refine (proto_any 3 _).mono ?_
    rintro e w' ⟨rfl, hw'⟩
    rw [hw', show protoV 3 = .tuple #[.int .i64 6, .bool true] from rfl]
    clear hw'
    go_wp2_with fail
    refine (HDD.out _ _ _ _ E4.out).mono ?_
    rw [Hno.out.1, Hno.out.2]
    rintro e W5 ⟨rfl, b5⟩
    have B5 : Hid (Below w.heap.size w W5) := B4.out.trans (b5.mono B4.out.size)
    clear x0 x1 x2 x3 x4 x5 x6 x7 x8 x9 x10 x11 x12 x13
    clear b5 B4 E4 A4
    dsimp only [L4R.v, l4V, zeroR]
    rw [show strOfNums [] = (⟨#[]⟩ : ByteArray) from rfl]
    go_wp2
    go_ret
    exact ⟨rfl, B5.out.alloc B5.out.size _⟩
end Go.Proofs.Ytanilaofhaelkaa
