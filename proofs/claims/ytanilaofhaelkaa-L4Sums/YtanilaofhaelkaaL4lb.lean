/- The walk of L4Sums. Conditions: numbers of their kinds, texts of at most 2^47 bytes. -/
import Derived.Test.YtanilaofhaelkaaL4la
namespace Go.Proofs.Ytanilaofhaelkaa
open Go.RowKit
set_option maxRecDepth 20000 in
set_option maxHeartbeats 4000000 in
theorem sums_no (src dst oth : Int) (k ty co re sp dp : Int) (ns : Bool) (sq ak fl wi ur : Int) (os ds : List Int) (hf : (L4R.mk k ty co re sp dp ns sq ak fl wi ur os ds).Fine) (hok : (L4R.mk k ty co re sp dp ns sq ak fl wi ur os ds).ok = false) (w : World) :
    Calls Try.prog 5 #[.int .u32 src, .int .u32 dst, .int .u32 oth, (L4R.mk k ty co re sp dp ns sq ak fl wi ur os ds).v] w fun e w' => e = .returned (.bool true) ∧ Below w.heap.size w w' := by
  have HE : Hid (∀ W, Calls Try.prog 10 #[.int .u32 src, .int .u32 dst, .agg #[.int .i64 k, .int .i64 ty, .int .i64 co, .int .u32 re, .int .i64 sp, .int .i64 dp, .bool ns, .int .u32 sq, .int .u32 ak, .int .i64 fl, .int .i64 wi, .int .i64 ur, .string (strOfNums os), .string (strOfNums ds)]] W fun e w' => e = .returned (.tuple #[.slice none 0 0, .int .i64 1]) ∧ Below W.heap.size W w') := fun W => encode_no (L4R.mk k ty co re sp dp ns sq ak fl wi ur os ds) hf hok src dst W
  have HK : Hid (∀ W, Calls Try.prog 12 #[.agg #[.int .i64 k, .int .i64 ty, .int .i64 co, .int .u32 re, .int .i64 sp, .int .i64 dp, .bool ns, .int .u32 sq, .int .u32 ak, .int .i64 fl, .int .i64 wi, .int .i64 ur, .string (strOfNums os), .string (strOfNums ds)]] W fun e w' => e = .returned (.int .i64 1) ∧ Below W.heap.size W w') := fun W => by
    have := l4check_any k ty co re sp dp ns sq ak fl wi ur os ds W hf.room
    rw [show l4Ok k ty co re sp dp ns sq ak fl wi ur (strOfNums os) (strOfNums ds) = false from hok] at this
    exact this
  clear hf hok
  show Calls Try.prog 5 #[.int .u32 src, .int .u32 dst, .int .u32 oth, .agg #[.int .i64 k, .int .i64 ty, .int .i64 co, .int .u32 re, .int .i64 sp, .int .i64 dp, .bool ns, .int .u32 sq, .int .u32 ak, .int .i64 fl, .int .i64 wi, .int .i64 ur, .string (strOfNums os), .string (strOfNums ds)]] w _
  go_enter Try.func5, Try.ntmps5
  go_wp2_with fail
  refine (HE.out _).mono ?_
  clear HE
  rintro e W1 ⟨rfl, b1⟩
  have A1 : Hid (AtB W1 w.heap.size #[.int .i64 k, .int .i64 ty, .int .i64 co, .int .u32 re, .int .i64 sp, .int .i64 dp, .bool ns, .int .u32 sq, .int .u32 ak, .int .i64 fl, .int .i64 wi, .int .i64 ur, .string (strOfNums os), .string (strOfNums ds)]) := AtB.below (atB_new w #[.int .i64 k, .int .i64 ty, .int .i64 co, .int .u32 re, .int .i64 sp, .int .i64 dp, .bool ns, .int .u32 sq, .int .u32 ak, .int .i64 fl, .int .i64 wi, .int .i64 ur, .string (strOfNums os), .string (strOfNums ds)] 25 _ rfl) b1
  have B1 : Hid (Below w.heap.size w W1) := (below1 w _).trans (b1.mono (by simp))
  clear b1
  go_wp2_with fail
  refine (lives_any _).mono ?_
  rintro e W2 ⟨rfl, b2⟩
  have A2 : Hid (AtB W2 w.heap.size #[.int .i64 k, .int .i64 ty, .int .i64 co, .int .u32 re, .int .i64 sp, .int .i64 dp, .bool ns, .int .u32 sq, .int .u32 ak, .int .i64 fl, .int .i64 wi, .int .i64 ur, .string (strOfNums os), .string (strOfNums ds)]) := AtB.below A1.out b2
  have B2 : Hid (Below w.heap.size w W2) := B1.out.trans (b2.mono B1.out.size)
  clear b2 A1 B1
  obtain ⟨x0, x1, x2, x3, x4, x5, x6, x7, x8, x9, x10, x11, x12, x13⟩ := AtB.cells14 A2.out
  go_wp2_with fail
  refine (HK.out _).mono ?_
  clear HK
  rintro e W3 ⟨rfl, b3⟩
  have B3 : Hid (Below w.heap.size w W3) := B2.out.trans (b3.mono B2.out.size)
  clear b3 A2 B2
  go_wp2
  go_ret
  exact ⟨rfl, B3.out⟩
set_option maxRecDepth 20000 in
set_option maxHeartbeats 4000000 in
theorem sums_plain (src dst oth : Int) (hs : 0 ≤ src ∧ src ≤ 4294967295) (ht : 0 ≤ dst ∧ dst ≤ 4294967295) (k ty co re sp dp : Int) (ns : Bool) (sq ak fl wi ur : Int) (os ds : List Int) (hk2 : (k != 2) = true) (hk3 : (k != 3) = true) (hf : (L4R.mk k ty co re sp dp ns sq ak fl wi ur os ds).Fine) (hok : (L4R.mk k ty co re sp dp ns sq ak fl wi ur os ds).ok = true) (w : World) :
    Calls Try.prog 5 #[.int .u32 src, .int .u32 dst, .int .u32 oth, (L4R.mk k ty co re sp dp ns sq ak fl wi ur os ds).v] w fun e w' => e = .returned (.bool true) ∧ Below w.heap.size w w' := by
  have HE : Hid (∀ W, Calls Try.prog 10 #[.int .u32 src, .int .u32 dst, .agg #[.int .i64 k, .int .i64 ty, .int .i64 co, .int .u32 re, .int .i64 sp, .int .i64 dp, .bool ns, .int .u32 sq, .int .u32 ak, .int .i64 fl, .int .i64 wi, .int .i64 ur, .string (strOfNums os), .string (strOfNums ds)]] W fun e w' => ∃ g, e = .returned (.tuple #[.slice (some ⟨g, 0, none⟩) (L4R.mk k ty co re sp dp ns sq ak fl wi ur os ds).body.length (L4R.mk k ty co re sp dp ns sq ak fl wi ur os ds).body.length, .int .i64 0]) ∧ EncS W w' g (L4R.mk k ty co re sp dp ns sq ak fl wi ur os ds).body.length (L4R.mk k ty co re sp dp ns sq ak fl wi ur os ds).body.length ((L4R.mk k ty co re sp dp ns sq ak fl wi ur os ds).enc src dst)) := fun W => encode_ok (L4R.mk k ty co re sp dp ns sq ak fl wi ur os ds) hf hok src dst hs ht W
  have HK : Hid (∀ W, Calls Try.prog 12 #[.agg #[.int .i64 k, .int .i64 ty, .int .i64 co, .int .u32 re, .int .i64 sp, .int .i64 dp, .bool ns, .int .u32 sq, .int .u32 ak, .int .i64 fl, .int .i64 wi, .int .i64 ur, .string (strOfNums os), .string (strOfNums ds)]] W fun e w' => e = .returned (.int .i64 0) ∧ Below W.heap.size W w') := fun W => by
    have := l4check_any k ty co re sp dp ns sq ak fl wi ur os ds W hf.room
    rw [show l4Ok k ty co re sp dp ns sq ak fl wi ur (strOfNums os) (strOfNums ds) = true from hok] at this
    exact this
  clear hs ht hf hok
  generalize (L4R.mk k ty co re sp dp ns sq ak fl wi ur os ds).body.length = N at *
  generalize (L4R.mk k ty co re sp dp ns sq ak fl wi ur os ds).enc src dst = E at *
  show Calls Try.prog 5 #[.int .u32 src, .int .u32 dst, .int .u32 oth, .agg #[.int .i64 k, .int .i64 ty, .int .i64 co, .int .u32 re, .int .i64 sp, .int .i64 dp, .bool ns, .int .u32 sq, .int .u32 ak, .int .i64 fl, .int .i64 wi, .int .i64 ur, .string (strOfNums os), .string (strOfNums ds)]] w _
  go_enter Try.func5, Try.ntmps5
  go_wp2_with fail
  refine (HE.out _).mono ?_
  clear HE
  rintro e W1 ⟨g, rfl, e1⟩
  have b1 := e1.bel
  have A1 : Hid (AtB W1 w.heap.size #[.int .i64 k, .int .i64 ty, .int .i64 co, .int .u32 re, .int .i64 sp, .int .i64 dp, .bool ns, .int .u32 sq, .int .u32 ak, .int .i64 fl, .int .i64 wi, .int .i64 ur, .string (strOfNums os), .string (strOfNums ds)]) := AtB.below (atB_new w #[.int .i64 k, .int .i64 ty, .int .i64 co, .int .u32 re, .int .i64 sp, .int .i64 dp, .bool ns, .int .u32 sq, .int .u32 ak, .int .i64 fl, .int .i64 wi, .int .i64 ur, .string (strOfNums os), .string (strOfNums ds)] 25 _ rfl) b1
  have B1 : Hid (Below w.heap.size w W1) := (below1 w _).trans (b1.mono (by simp))
  clear b1 e1
  go_wp2_with fail
  refine (lives_any _).mono ?_
  rintro e W2 ⟨rfl, b2⟩
  have A2 : Hid (AtB W2 w.heap.size #[.int .i64 k, .int .i64 ty, .int .i64 co, .int .u32 re, .int .i64 sp, .int .i64 dp, .bool ns, .int .u32 sq, .int .u32 ak, .int .i64 fl, .int .i64 wi, .int .i64 ur, .string (strOfNums os), .string (strOfNums ds)]) := AtB.below A1.out b2
  have B2 : Hid (Below w.heap.size w W2) := B1.out.trans (b2.mono B1.out.size)
  clear b2 A1 B1
  obtain ⟨x0, x1, x2, x3, x4, x5, x6, x7, x8, x9, x10, x11, x12, x13⟩ := AtB.cells14 A2.out
  go_wp2_with fail
  refine (HK.out _).mono ?_
  clear HK
  rintro e W3 ⟨rfl, b3⟩
  have B3 : Hid (Below w.heap.size w W3) := B2.out.trans (b3.mono B2.out.size)
  clear b3 A2 B2
  go_wp2
  go_ret
  exact ⟨rfl, B3.out⟩
set_option maxRecDepth 20000 in
set_option maxHeartbeats 4000000 in
theorem sums_2 (src dst oth : Int) (hs : 0 ≤ src ∧ src ≤ 4294967295) (ht : 0 ≤ dst ∧ dst ≤ 4294967295) (ho : 0 ≤ oth ∧ oth ≤ 4294967295) (ty co re sp dp : Int) (ns : Bool) (sq ak fl wi ur : Int) (os ds : List Int) (hf : (L4R.mk 2 ty co re sp dp ns sq ak fl wi ur os ds).Fine) (hok : (L4R.mk 2 ty co re sp dp ns sq ak fl wi ur os ds).ok = true) (w : World) :
    Calls Try.prog 5 #[.int .u32 src, .int .u32 dst, .int .u32 oth, (L4R.mk 2 ty co re sp dp ns sq ak fl wi ur os ds).v] w fun e w' => e = .returned (.bool true) ∧ Below w.heap.size w w' := by
  have HE : Hid (∀ W, Calls Try.prog 10 #[.int .u32 src, .int .u32 dst, .agg #[.int .i64 2, .int .i64 ty, .int .i64 co, .int .u32 re, .int .i64 sp, .int .i64 dp, .bool ns, .int .u32 sq, .int .u32 ak, .int .i64 fl, .int .i64 wi, .int .i64 ur, .string (strOfNums os), .string (strOfNums ds)]] W fun e w' => ∃ g, e = .returned (.tuple #[.slice (some ⟨g, 0, none⟩) (L4R.mk 2 ty co re sp dp ns sq ak fl wi ur os ds).body.length (L4R.mk 2 ty co re sp dp ns sq ak fl wi ur os ds).body.length, .int .i64 0]) ∧ EncS W w' g (L4R.mk 2 ty co re sp dp ns sq ak fl wi ur os ds).body.length (L4R.mk 2 ty co re sp dp ns sq ak fl wi ur os ds).body.length ((L4R.mk 2 ty co re sp dp ns sq ak fl wi ur os ds).enc src dst)) := fun W => encode_ok (L4R.mk 2 ty co re sp dp ns sq ak fl wi ur os ds) hf hok src dst hs ht W
  have hD := dec_other hf hok (by simp) src dst oth hs.1 ht.1 ho.1
  have p1 := psd_bd src dst 0 0 hs.1 ht.1
  have p2 := psd_bd oth dst 0 0 ho.1 ht.1
  have HP1 : Hid (∀ W, Calls Try.prog 15 #[.int .u32 src, .int .u32 dst, .int .i64 0, .int .i64 0] W fun e w' => e = .returned (.int .u16 (psd src dst 0 0)) ∧ w' = W) := fun W => pseudo_any W src dst 0 0 hs ht
  have HP2 : Hid (∀ W, Calls Try.prog 15 #[.int .u32 oth, .int .u32 dst, .int .i64 0, .int .i64 0] W fun e w' => e = .returned (.int .u16 (psd oth dst 0 0)) ∧ w' = W) := fun W => pseudo_any W oth dst 0 0 ho ht
  have HDD : Hid (∀ W g N E, (L4R.mk 2 ty co re sp dp ns sq ak fl wi ur os ds).enc src dst = E → BS W (some ⟨g, 0, none⟩) N E → Calls Try.prog 7 #[.int .u32 oth, .int .u32 dst, .int .i64 17, .slice (some ⟨g, 0, none⟩) N N] W fun e w' => e = .returned (.tuple #[(decR oth dst 2 ((L4R.mk 2 ty co re sp dp ns sq ak fl wi ur os ds).enc src dst)).v, .int .i64 (decE oth dst 2 ((L4R.mk 2 ty co re sp dp ns sq ak fl wi ur os ds).enc src dst))]) ∧ Below W.heap.size W w') := fun W g N E he hE => by
    rw [he]
    exact decode_any oth dst 17 ho ht (some ⟨g, 0, none⟩) N N E (Nat.le_refl _) (fun x e => ⟨g, 0, by cases e; rfl⟩) (fun e => by cases e) W hE
  have hD' : if ns = true ∨ psd src dst 0 0 % 65535 = psd oth dst 0 0 % 65535 then decE oth dst 2 ((L4R.mk 2 ty co re sp dp ns sq ak fl wi ur os ds).enc src dst) = 0 ∧ decR oth dst 2 ((L4R.mk 2 ty co re sp dp ns sq ak fl wi ur os ds).enc src dst) = (L4R.mk 2 ty co re sp dp ns sq ak fl wi ur os ds) else decE oth dst 2 ((L4R.mk 2 ty co re sp dp ns sq ak fl wi ur os ds).enc src dst) = 30 ∧ decR oth dst 2 ((L4R.mk 2 ty co re sp dp ns sq ak fl wi ur os ds).enc src dst) = zeroR := hD
  clear hD hs ht ho hf hok
  generalize psd src dst 0 0 = P1 at *
  generalize psd oth dst 0 0 = P2 at *
  have t1 : P1.tmod 65535 = P1 % 65535 := Int.tmod_eq_emod_of_nonneg p1.1
  have t2 : P2.tmod 65535 = P2 % 65535 := Int.tmod_eq_emod_of_nonneg p2.1
  have HEN : Hid (∃ E, (L4R.mk 2 ty co re sp dp ns sq ak fl wi ur os ds).enc src dst = E) := ⟨_, rfl⟩
  generalize (L4R.mk 2 ty co re sp dp ns sq ak fl wi ur os ds).body.length = N at *
  generalize decE oth dst 2 ((L4R.mk 2 ty co re sp dp ns sq ak fl wi ur os ds).enc src dst) = DE at *
  generalize decR oth dst 2 ((L4R.mk 2 ty co re sp dp ns sq ak fl wi ur os ds).enc src dst) = DR at *
  cases ns
  · by_cases hc : P1 % 65535 = P2 % 65535
    · rw [if_pos (.inr hc)] at hD'
      obtain ⟨rfl, rfl⟩ := hD'
      have hpick : (P1 % 65535 == P2 % 65535) = true := by simp [hc]
      clear hc
      show Calls Try.prog 5 #[.int .u32 src, .int .u32 dst, .int .u32 oth, .agg #[.int .i64 2, .int .i64 ty, .int .i64 co, .int .u32 re, .int .i64 sp, .int .i64 dp, .bool false, .int .u32 sq, .int .u32 ak, .int .i64 fl, .int .i64 wi, .int .i64 ur, .string (strOfNums os), .string (strOfNums ds)]] w _
      go_enter Try.func5, Try.ntmps5
      go_wp2_with fail
      refine (HE.out _).mono ?_
      clear HE
      rintro e W1 ⟨g, rfl, e1⟩
      have b1 := e1.bel
      have A1 : Hid (AtB W1 w.heap.size #[.int .i64 2, .int .i64 ty, .int .i64 co, .int .u32 re, .int .i64 sp, .int .i64 dp, .bool false, .int .u32 sq, .int .u32 ak, .int .i64 fl, .int .i64 wi, .int .i64 ur, .string (strOfNums os), .string (strOfNums ds)]) := AtB.below (atB_new w #[.int .i64 2, .int .i64 ty, .int .i64 co, .int .u32 re, .int .i64 sp, .int .i64 dp, .bool false, .int .u32 sq, .int .u32 ak, .int .i64 fl, .int .i64 wi, .int .i64 ur, .string (strOfNums os), .string (strOfNums ds)] 25 _ rfl) b1
      have B1 : Hid (Below w.heap.size w W1) := (below1 w _).trans (b1.mono (by simp))
      have E1 : Hid (BS W1 (some ⟨g, 0, none⟩) N ((L4R.mk 2 ty co re sp dp false sq ak fl wi ur os ds).enc src dst)) := e1.bs
      clear b1 e1
      go_wp2_with fail
      refine (lives_any _).mono ?_
      rintro e W2 ⟨rfl, b2⟩
      have A2 : Hid (AtB W2 w.heap.size #[.int .i64 2, .int .i64 ty, .int .i64 co, .int .u32 re, .int .i64 sp, .int .i64 dp, .bool false, .int .u32 sq, .int .u32 ak, .int .i64 fl, .int .i64 wi, .int .i64 ur, .string (strOfNums os), .string (strOfNums ds)]) := AtB.below A1.out b2
      have B2 : Hid (Below w.heap.size w W2) := B1.out.trans (b2.mono B1.out.size)
      have E2 : Hid (BS W2 (some ⟨g, 0, none⟩) N ((L4R.mk 2 ty co re sp dp false sq ak fl wi ur os ds).enc src dst)) := E1.out.below b2
      clear b2 A1 B1 E1
      obtain ⟨x0, x1, x2, x3, x4, x5, x6, x7, x8, x9, x10, x11, x12, x13⟩ := AtB.cells14 A2.out
      go_wp2_with fail
      refine (proto_any 2 _).mono ?_
      rintro e w' ⟨rfl, hw'⟩
      rw [hw', show protoV 2 = .tuple #[.int .i64 17, .bool true] from rfl]
      clear hw'
      go_wp2_with fail
      refine (HDD.out _ _ _ _ rfl E2.out).mono ?_
      clear HDD
      rintro e W3 ⟨rfl, b3⟩
      have A3 : Hid (AtB W3 w.heap.size #[.int .i64 2, .int .i64 ty, .int .i64 co, .int .u32 re, .int .i64 sp, .int .i64 dp, .bool false, .int .u32 sq, .int .u32 ak, .int .i64 fl, .int .i64 wi, .int .i64 ur, .string (strOfNums os), .string (strOfNums ds)]) := AtB.below A2.out b3
      have B3 : Hid (Below w.heap.size w W3) := B2.out.trans (b3.mono B2.out.size)
      clear x0 x1 x2 x3 x4 x5 x6 x7 x8 x9 x10 x11 x12 x13
      clear b3 A2 B2 E2
      dsimp only [L4R.v, l4V]
      go_wp2_with fail
      refine (HP1.out _).mono ?_
      rintro e w' ⟨rfl, hw'⟩
      rw [hw']
      clear hw'
      go_wp2_with fail
      refine (HP2.out _).mono ?_
      rintro e w' ⟨rfl, hw'⟩
      rw [hw']
      clear hw'
      have hq := fun W => eq14 2 ty co re sp dp false sq ak fl wi ur (strOfNums os) (strOfNums ds) W
      obtain ⟨x0, x1, x2, x3, x4, x5, x6, x7, x8, x9, x10, x11, x12, x13⟩ := AtB.cells14 (AtB.below A3.out (below1 W3 (.cells #[.int .i64 2, .int .i64 ty, .int .i64 co, .int .u32 re, .int .i64 sp, .int .i64 dp, .bool false, .int .u32 sq, .int .u32 ak, .int .i64 fl, .int .i64 wi, .int .i64 ur, .string (strOfNums os), .string (strOfNums ds)] 25)))
      go_wp2
      go_ret
      exact ⟨rfl, B3.out.alloc B3.out.size _⟩
    · rw [if_neg (by simp [hc])] at hD'
      obtain ⟨rfl, rfl⟩ := hD'
      have hpick : (P1 % 65535 == P2 % 65535) = false := by simp [hc]
      clear hc
      show Calls Try.prog 5 #[.int .u32 src, .int .u32 dst, .int .u32 oth, .agg #[.int .i64 2, .int .i64 ty, .int .i64 co, .int .u32 re, .int .i64 sp, .int .i64 dp, .bool false, .int .u32 sq, .int .u32 ak, .int .i64 fl, .int .i64 wi, .int .i64 ur, .string (strOfNums os), .string (strOfNums ds)]] w _
      go_enter Try.func5, Try.ntmps5
      go_wp2_with fail
      refine (HE.out _).mono ?_
      clear HE
      rintro e W1 ⟨g, rfl, e1⟩
      have b1 := e1.bel
      have A1 : Hid (AtB W1 w.heap.size #[.int .i64 2, .int .i64 ty, .int .i64 co, .int .u32 re, .int .i64 sp, .int .i64 dp, .bool false, .int .u32 sq, .int .u32 ak, .int .i64 fl, .int .i64 wi, .int .i64 ur, .string (strOfNums os), .string (strOfNums ds)]) := AtB.below (atB_new w #[.int .i64 2, .int .i64 ty, .int .i64 co, .int .u32 re, .int .i64 sp, .int .i64 dp, .bool false, .int .u32 sq, .int .u32 ak, .int .i64 fl, .int .i64 wi, .int .i64 ur, .string (strOfNums os), .string (strOfNums ds)] 25 _ rfl) b1
      have B1 : Hid (Below w.heap.size w W1) := (below1 w _).trans (b1.mono (by simp))
      have E1 : Hid (BS W1 (some ⟨g, 0, none⟩) N ((L4R.mk 2 ty co re sp dp false sq ak fl wi ur os ds).enc src dst)) := e1.bs
      clear b1 e1
      go_wp2_with fail
      refine (lives_any _).mono ?_
      rintro e W2 ⟨rfl, b2⟩
      have A2 : Hid (AtB W2 w.heap.size #[.int .i64 2, .int .i64 ty, .int .i64 co, .int .u32 re, .int .i64 sp, .int .i64 dp, .bool false, .int .u32 sq, .int .u32 ak, .int .i64 fl, .int .i64 wi, .int .i64 ur, .string (strOfNums os), .string (strOfNums ds)]) := AtB.below A1.out b2
      have B2 : Hid (Below w.heap.size w W2) := B1.out.trans (b2.mono B1.out.size)
      have E2 : Hid (BS W2 (some ⟨g, 0, none⟩) N ((L4R.mk 2 ty co re sp dp false sq ak fl wi ur os ds).enc src dst)) := E1.out.below b2
      clear b2 A1 B1 E1
      obtain ⟨x0, x1, x2, x3, x4, x5, x6, x7, x8, x9, x10, x11, x12, x13⟩ := AtB.cells14 A2.out
      go_wp2_with fail
      refine (proto_any 2 _).mono ?_
      rintro e w' ⟨rfl, hw'⟩
      rw [hw', show protoV 2 = .tuple #[.int .i64 17, .bool true] from rfl]
      clear hw'
      go_wp2_with fail
      refine (HDD.out _ _ _ _ rfl E2.out).mono ?_
      clear HDD
      rintro e W3 ⟨rfl, b3⟩
      have A3 : Hid (AtB W3 w.heap.size #[.int .i64 2, .int .i64 ty, .int .i64 co, .int .u32 re, .int .i64 sp, .int .i64 dp, .bool false, .int .u32 sq, .int .u32 ak, .int .i64 fl, .int .i64 wi, .int .i64 ur, .string (strOfNums os), .string (strOfNums ds)]) := AtB.below A2.out b3
      have B3 : Hid (Below w.heap.size w W3) := B2.out.trans (b3.mono B2.out.size)
      clear x0 x1 x2 x3 x4 x5 x6 x7 x8 x9 x10 x11 x12 x13
      clear b3 A2 B2 E2
      dsimp only [L4R.v, l4V, zeroR]
      go_wp2_with fail
      refine (HP1.out _).mono ?_
      rintro e w' ⟨rfl, hw'⟩
      rw [hw']
      clear hw'
      go_wp2_with fail
      refine (HP2.out _).mono ?_
      rintro e w' ⟨rfl, hw'⟩
      rw [hw']
      clear hw'
      rw [show strOfNums [] = (⟨#[]⟩ : ByteArray) from rfl]
      obtain ⟨x0, x1, x2, x3, x4, x5, x6, x7, x8, x9, x10, x11, x12, x13⟩ := AtB.cells14 (AtB.below A3.out (below1 W3 (.cells #[.int .i64 0, .int .i64 0, .int .i64 0, .int .u32 0, .int .i64 0, .int .i64 0, .bool false, .int .u32 0, .int .u32 0, .int .i64 0, .int .i64 0, .int .i64 0, .string ⟨#[]⟩, .string ⟨#[]⟩] 25)))
      go_wp2
      go_ret
      exact ⟨rfl, B3.out.alloc B3.out.size _⟩
  · rw [if_pos (.inl rfl)] at hD'
    obtain ⟨rfl, rfl⟩ := hD'
    show Calls Try.prog 5 #[.int .u32 src, .int .u32 dst, .int .u32 oth, .agg #[.int .i64 2, .int .i64 ty, .int .i64 co, .int .u32 re, .int .i64 sp, .int .i64 dp, .bool true, .int .u32 sq, .int .u32 ak, .int .i64 fl, .int .i64 wi, .int .i64 ur, .string (strOfNums os), .string (strOfNums ds)]] w _
    go_enter Try.func5, Try.ntmps5
    go_wp2_with fail
    refine (HE.out _).mono ?_
    clear HE
    rintro e W1 ⟨g, rfl, e1⟩
    have b1 := e1.bel
    have A1 : Hid (AtB W1 w.heap.size #[.int .i64 2, .int .i64 ty, .int .i64 co, .int .u32 re, .int .i64 sp, .int .i64 dp, .bool true, .int .u32 sq, .int .u32 ak, .int .i64 fl, .int .i64 wi, .int .i64 ur, .string (strOfNums os), .string (strOfNums ds)]) := AtB.below (atB_new w #[.int .i64 2, .int .i64 ty, .int .i64 co, .int .u32 re, .int .i64 sp, .int .i64 dp, .bool true, .int .u32 sq, .int .u32 ak, .int .i64 fl, .int .i64 wi, .int .i64 ur, .string (strOfNums os), .string (strOfNums ds)] 25 _ rfl) b1
    have B1 : Hid (Below w.heap.size w W1) := (below1 w _).trans (b1.mono (by simp))
    have E1 : Hid (BS W1 (some ⟨g, 0, none⟩) N ((L4R.mk 2 ty co re sp dp true sq ak fl wi ur os ds).enc src dst)) := e1.bs
    clear b1 e1
    go_wp2_with fail
    refine (lives_any _).mono ?_
    rintro e W2 ⟨rfl, b2⟩
    have A2 : Hid (AtB W2 w.heap.size #[.int .i64 2, .int .i64 ty, .int .i64 co, .int .u32 re, .int .i64 sp, .int .i64 dp, .bool true, .int .u32 sq, .int .u32 ak, .int .i64 fl, .int .i64 wi, .int .i64 ur, .string (strOfNums os), .string (strOfNums ds)]) := AtB.below A1.out b2
    have B2 : Hid (Below w.heap.size w W2) := B1.out.trans (b2.mono B1.out.size)
    have E2 : Hid (BS W2 (some ⟨g, 0, none⟩) N ((L4R.mk 2 ty co re sp dp true sq ak fl wi ur os ds).enc src dst)) := E1.out.below b2
    clear b2 A1 B1 E1
    obtain ⟨x0, x1, x2, x3, x4, x5, x6, x7, x8, x9, x10, x11, x12, x13⟩ := AtB.cells14 A2.out
    go_wp2_with fail
    refine (proto_any 2 _).mono ?_
    rintro e w' ⟨rfl, hw'⟩
    rw [hw', show protoV 2 = .tuple #[.int .i64 17, .bool true] from rfl]
    clear hw'
    go_wp2_with fail
    refine (HDD.out _ _ _ _ rfl E2.out).mono ?_
    clear HDD
    rintro e W3 ⟨rfl, b3⟩
    have A3 : Hid (AtB W3 w.heap.size #[.int .i64 2, .int .i64 ty, .int .i64 co, .int .u32 re, .int .i64 sp, .int .i64 dp, .bool true, .int .u32 sq, .int .u32 ak, .int .i64 fl, .int .i64 wi, .int .i64 ur, .string (strOfNums os), .string (strOfNums ds)]) := AtB.below A2.out b3
    have B3 : Hid (Below w.heap.size w W3) := B2.out.trans (b3.mono B2.out.size)
    clear x0 x1 x2 x3 x4 x5 x6 x7 x8 x9 x10 x11 x12 x13
    clear b3 A2 B2 E2
    dsimp only [L4R.v, l4V]
    go_wp2_with fail
    refine (HP1.out _).mono ?_
    rintro e w' ⟨rfl, hw'⟩
    rw [hw']
    clear hw'
    go_wp2_with fail
    refine (HP2.out _).mono ?_
    rintro e w' ⟨rfl, hw'⟩
    rw [hw']
    clear hw'
    have hq := fun W => eq14 2 ty co re sp dp true sq ak fl wi ur (strOfNums os) (strOfNums ds) W
    obtain ⟨x0, x1, x2, x3, x4, x5, x6, x7, x8, x9, x10, x11, x12, x13⟩ := AtB.cells14 (AtB.below A3.out (below1 W3 (.cells #[.int .i64 2, .int .i64 ty, .int .i64 co, .int .u32 re, .int .i64 sp, .int .i64 dp, .bool true, .int .u32 sq, .int .u32 ak, .int .i64 fl, .int .i64 wi, .int .i64 ur, .string (strOfNums os), .string (strOfNums ds)] 25)))
    go_wp2
    go_ret
    exact ⟨rfl, B3.out.alloc B3.out.size _⟩
set_option maxRecDepth 20000 in
set_option maxHeartbeats 4000000 in
theorem sums_3 (src dst oth : Int) (hs : 0 ≤ src ∧ src ≤ 4294967295) (ht : 0 ≤ dst ∧ dst ≤ 4294967295) (ho : 0 ≤ oth ∧ oth ≤ 4294967295) (ty co re sp dp : Int) (ns : Bool) (sq ak fl wi ur : Int) (os ds : List Int) (hf : (L4R.mk 3 ty co re sp dp ns sq ak fl wi ur os ds).Fine) (hok : (L4R.mk 3 ty co re sp dp ns sq ak fl wi ur os ds).ok = true) (w : World) :
    Calls Try.prog 5 #[.int .u32 src, .int .u32 dst, .int .u32 oth, (L4R.mk 3 ty co re sp dp ns sq ak fl wi ur os ds).v] w fun e w' => e = .returned (.bool true) ∧ Below w.heap.size w w' := by
  have HE : Hid (∀ W, Calls Try.prog 10 #[.int .u32 src, .int .u32 dst, .agg #[.int .i64 3, .int .i64 ty, .int .i64 co, .int .u32 re, .int .i64 sp, .int .i64 dp, .bool ns, .int .u32 sq, .int .u32 ak, .int .i64 fl, .int .i64 wi, .int .i64 ur, .string (strOfNums os), .string (strOfNums ds)]] W fun e w' => ∃ g, e = .returned (.tuple #[.slice (some ⟨g, 0, none⟩) (L4R.mk 3 ty co re sp dp ns sq ak fl wi ur os ds).body.length (L4R.mk 3 ty co re sp dp ns sq ak fl wi ur os ds).body.length, .int .i64 0]) ∧ EncS W w' g (L4R.mk 3 ty co re sp dp ns sq ak fl wi ur os ds).body.length (L4R.mk 3 ty co re sp dp ns sq ak fl wi ur os ds).body.length ((L4R.mk 3 ty co re sp dp ns sq ak fl wi ur os ds).enc src dst)) := fun W => encode_ok (L4R.mk 3 ty co re sp dp ns sq ak fl wi ur os ds) hf hok src dst hs ht W
  have hD := dec_other hf hok (by simp) src dst oth hs.1 ht.1 ho.1
  have p1 := psd_bd src dst 0 0 hs.1 ht.1
  have p2 := psd_bd oth dst 0 0 ho.1 ht.1
  have HP1 : Hid (∀ W, Calls Try.prog 15 #[.int .u32 src, .int .u32 dst, .int .i64 0, .int .i64 0] W fun e w' => e = .returned (.int .u16 (psd src dst 0 0)) ∧ w' = W) := fun W => pseudo_any W src dst 0 0 hs ht
  have HP2 : Hid (∀ W, Calls Try.prog 15 #[.int .u32 oth, .int .u32 dst, .int .i64 0, .int .i64 0] W fun e w' => e = .returned (.int .u16 (psd oth dst 0 0)) ∧ w' = W) := fun W => pseudo_any W oth dst 0 0 ho ht
  have HDD : Hid (∀ W g N E, (L4R.mk 3 ty co re sp dp ns sq ak fl wi ur os ds).enc src dst = E → BS W (some ⟨g, 0, none⟩) N E → Calls Try.prog 7 #[.int .u32 oth, .int .u32 dst, .int .i64 6, .slice (some ⟨g, 0, none⟩) N N] W fun e w' => e = .returned (.tuple #[(decR oth dst 3 ((L4R.mk 3 ty co re sp dp ns sq ak fl wi ur os ds).enc src dst)).v, .int .i64 (decE oth dst 3 ((L4R.mk 3 ty co re sp dp ns sq ak fl wi ur os ds).enc src dst))]) ∧ Below W.heap.size W w') := fun W g N E he hE => by
    rw [he]
    exact decode_any oth dst 6 ho ht (some ⟨g, 0, none⟩) N N E (Nat.le_refl _) (fun x e => ⟨g, 0, by cases e; rfl⟩) (fun e => by cases e) W hE
  have hD' : if ns = true ∨ psd src dst 0 0 % 65535 = psd oth dst 0 0 % 65535 then decE oth dst 3 ((L4R.mk 3 ty co re sp dp ns sq ak fl wi ur os ds).enc src dst) = 0 ∧ decR oth dst 3 ((L4R.mk 3 ty co re sp dp ns sq ak fl wi ur os ds).enc src dst) = (L4R.mk 3 ty co re sp dp ns sq ak fl wi ur os ds) else decE oth dst 3 ((L4R.mk 3 ty co re sp dp ns sq ak fl wi ur os ds).enc src dst) = 30 ∧ decR oth dst 3 ((L4R.mk 3 ty co re sp dp ns sq ak fl wi ur os ds).enc src dst) = zeroR := hD
  clear hD hs ht ho hf hok
  generalize psd src dst 0 0 = P1 at *
  generalize psd oth dst 0 0 = P2 at *
  have t1 : P1.tmod 65535 = P1 % 65535 := Int.tmod_eq_emod_of_nonneg p1.1
  have t2 : P2.tmod 65535 = P2 % 65535 := Int.tmod_eq_emod_of_nonneg p2.1
  have HEN : Hid (∃ E, (L4R.mk 3 ty co re sp dp ns sq ak fl wi ur os ds).enc src dst = E) := ⟨_, rfl⟩
  generalize (L4R.mk 3 ty co re sp dp ns sq ak fl wi ur os ds).body.length = N at *
  generalize decE oth dst 3 ((L4R.mk 3 ty co re sp dp ns sq ak fl wi ur os ds).enc src dst) = DE at *
  generalize decR oth dst 3 ((L4R.mk 3 ty co re sp dp ns sq ak fl wi ur os ds).enc src dst) = DR at *
  cases ns
  · by_cases hc : P1 % 65535 = P2 % 65535
    · rw [if_pos (.inr hc)] at hD'
      obtain ⟨rfl, rfl⟩ := hD'
      have hpick : (P1 % 65535 == P2 % 65535) = true := by simp [hc]
      clear hc
      show Calls Try.prog 5 #[.int .u32 src, .int .u32 dst, .int .u32 oth, .agg #[.int .i64 3, .int .i64 ty, .int .i64 co, .int .u32 re, .int .i64 sp, .int .i64 dp, .bool false, .int .u32 sq, .int .u32 ak, .int .i64 fl, .int .i64 wi, .int .i64 ur, .string (strOfNums os), .string (strOfNums ds)]] w _
      go_enter Try.func5, Try.ntmps5
      go_wp2_with fail
      refine (HE.out _).mono ?_
      clear HE
      rintro e W1 ⟨g, rfl, e1⟩
      have b1 := e1.bel
      have A1 : Hid (AtB W1 w.heap.size #[.int .i64 3, .int .i64 ty, .int .i64 co, .int .u32 re, .int .i64 sp, .int .i64 dp, .bool false, .int .u32 sq, .int .u32 ak, .int .i64 fl, .int .i64 wi, .int .i64 ur, .string (strOfNums os), .string (strOfNums ds)]) := AtB.below (atB_new w #[.int .i64 3, .int .i64 ty, .int .i64 co, .int .u32 re, .int .i64 sp, .int .i64 dp, .bool false, .int .u32 sq, .int .u32 ak, .int .i64 fl, .int .i64 wi, .int .i64 ur, .string (strOfNums os), .string (strOfNums ds)] 25 _ rfl) b1
      have B1 : Hid (Below w.heap.size w W1) := (below1 w _).trans (b1.mono (by simp))
      have E1 : Hid (BS W1 (some ⟨g, 0, none⟩) N ((L4R.mk 3 ty co re sp dp false sq ak fl wi ur os ds).enc src dst)) := e1.bs
      clear b1 e1
      go_wp2_with fail
      refine (lives_any _).mono ?_
      rintro e W2 ⟨rfl, b2⟩
      have A2 : Hid (AtB W2 w.heap.size #[.int .i64 3, .int .i64 ty, .int .i64 co, .int .u32 re, .int .i64 sp, .int .i64 dp, .bool false, .int .u32 sq, .int .u32 ak, .int .i64 fl, .int .i64 wi, .int .i64 ur, .string (strOfNums os), .string (strOfNums ds)]) := AtB.below A1.out b2
      have B2 : Hid (Below w.heap.size w W2) := B1.out.trans (b2.mono B1.out.size)
      have E2 : Hid (BS W2 (some ⟨g, 0, none⟩) N ((L4R.mk 3 ty co re sp dp false sq ak fl wi ur os ds).enc src dst)) := E1.out.below b2
      clear b2 A1 B1 E1
      obtain ⟨x0, x1, x2, x3, x4, x5, x6, x7, x8, x9, x10, x11, x12, x13⟩ := AtB.cells14 A2.out
      go_wp2_with fail
      refine (proto_any 3 _).mono ?_
      rintro e w' ⟨rfl, hw'⟩
      rw [hw', show protoV 3 = .tuple #[.int .i64 6, .bool true] from rfl]
      clear hw'
      go_wp2_with fail
      refine (HDD.out _ _ _ _ rfl E2.out).mono ?_
      clear HDD
      rintro e W3 ⟨rfl, b3⟩
      have A3 : Hid (AtB W3 w.heap.size #[.int .i64 3, .int .i64 ty, .int .i64 co, .int .u32 re, .int .i64 sp, .int .i64 dp, .bool false, .int .u32 sq, .int .u32 ak, .int .i64 fl, .int .i64 wi, .int .i64 ur, .string (strOfNums os), .string (strOfNums ds)]) := AtB.below A2.out b3
      have B3 : Hid (Below w.heap.size w W3) := B2.out.trans (b3.mono B2.out.size)
      clear x0 x1 x2 x3 x4 x5 x6 x7 x8 x9 x10 x11 x12 x13
      clear b3 A2 B2 E2
      dsimp only [L4R.v, l4V]
      go_wp2_with fail
      refine (HP1.out _).mono ?_
      rintro e w' ⟨rfl, hw'⟩
      rw [hw']
      clear hw'
      go_wp2_with fail
      refine (HP2.out _).mono ?_
      rintro e w' ⟨rfl, hw'⟩
      rw [hw']
      clear hw'
      have hq := fun W => eq14 3 ty co re sp dp false sq ak fl wi ur (strOfNums os) (strOfNums ds) W
      obtain ⟨x0, x1, x2, x3, x4, x5, x6, x7, x8, x9, x10, x11, x12, x13⟩ := AtB.cells14 (AtB.below A3.out (below1 W3 (.cells #[.int .i64 3, .int .i64 ty, .int .i64 co, .int .u32 re, .int .i64 sp, .int .i64 dp, .bool false, .int .u32 sq, .int .u32 ak, .int .i64 fl, .int .i64 wi, .int .i64 ur, .string (strOfNums os), .string (strOfNums ds)] 25)))
      go_wp2
      go_ret
      exact ⟨rfl, B3.out.alloc B3.out.size _⟩
    · rw [if_neg (by simp [hc])] at hD'
      obtain ⟨rfl, rfl⟩ := hD'
      have hpick : (P1 % 65535 == P2 % 65535) = false := by simp [hc]
      clear hc
      show Calls Try.prog 5 #[.int .u32 src, .int .u32 dst, .int .u32 oth, .agg #[.int .i64 3, .int .i64 ty, .int .i64 co, .int .u32 re, .int .i64 sp, .int .i64 dp, .bool false, .int .u32 sq, .int .u32 ak, .int .i64 fl, .int .i64 wi, .int .i64 ur, .string (strOfNums os), .string (strOfNums ds)]] w _
      go_enter Try.func5, Try.ntmps5
      go_wp2_with fail
      refine (HE.out _).mono ?_
      clear HE
      rintro e W1 ⟨g, rfl, e1⟩
      have b1 := e1.bel
      have A1 : Hid (AtB W1 w.heap.size #[.int .i64 3, .int .i64 ty, .int .i64 co, .int .u32 re, .int .i64 sp, .int .i64 dp, .bool false, .int .u32 sq, .int .u32 ak, .int .i64 fl, .int .i64 wi, .int .i64 ur, .string (strOfNums os), .string (strOfNums ds)]) := AtB.below (atB_new w #[.int .i64 3, .int .i64 ty, .int .i64 co, .int .u32 re, .int .i64 sp, .int .i64 dp, .bool false, .int .u32 sq, .int .u32 ak, .int .i64 fl, .int .i64 wi, .int .i64 ur, .string (strOfNums os), .string (strOfNums ds)] 25 _ rfl) b1
      have B1 : Hid (Below w.heap.size w W1) := (below1 w _).trans (b1.mono (by simp))
      have E1 : Hid (BS W1 (some ⟨g, 0, none⟩) N ((L4R.mk 3 ty co re sp dp false sq ak fl wi ur os ds).enc src dst)) := e1.bs
      clear b1 e1
      go_wp2_with fail
      refine (lives_any _).mono ?_
      rintro e W2 ⟨rfl, b2⟩
      have A2 : Hid (AtB W2 w.heap.size #[.int .i64 3, .int .i64 ty, .int .i64 co, .int .u32 re, .int .i64 sp, .int .i64 dp, .bool false, .int .u32 sq, .int .u32 ak, .int .i64 fl, .int .i64 wi, .int .i64 ur, .string (strOfNums os), .string (strOfNums ds)]) := AtB.below A1.out b2
      have B2 : Hid (Below w.heap.size w W2) := B1.out.trans (b2.mono B1.out.size)
      have E2 : Hid (BS W2 (some ⟨g, 0, none⟩) N ((L4R.mk 3 ty co re sp dp false sq ak fl wi ur os ds).enc src dst)) := E1.out.below b2
      clear b2 A1 B1 E1
      obtain ⟨x0, x1, x2, x3, x4, x5, x6, x7, x8, x9, x10, x11, x12, x13⟩ := AtB.cells14 A2.out
      go_wp2_with fail
      refine (proto_any 3 _).mono ?_
      rintro e w' ⟨rfl, hw'⟩
      rw [hw', show protoV 3 = .tuple #[.int .i64 6, .bool true] from rfl]
      clear hw'
      go_wp2_with fail
      refine (HDD.out _ _ _ _ rfl E2.out).mono ?_
      clear HDD
      rintro e W3 ⟨rfl, b3⟩
      have A3 : Hid (AtB W3 w.heap.size #[.int .i64 3, .int .i64 ty, .int .i64 co, .int .u32 re, .int .i64 sp, .int .i64 dp, .bool false, .int .u32 sq, .int .u32 ak, .int .i64 fl, .int .i64 wi, .int .i64 ur, .string (strOfNums os), .string (strOfNums ds)]) := AtB.below A2.out b3
      have B3 : Hid (Below w.heap.size w W3) := B2.out.trans (b3.mono B2.out.size)
      clear x0 x1 x2 x3 x4 x5 x6 x7 x8 x9 x10 x11 x12 x13
      clear b3 A2 B2 E2
      dsimp only [L4R.v, l4V, zeroR]
      go_wp2_with fail
      refine (HP1.out _).mono ?_
      rintro e w' ⟨rfl, hw'⟩
      rw [hw']
      clear hw'
      go_wp2_with fail
      refine (HP2.out _).mono ?_
      rintro e w' ⟨rfl, hw'⟩
      rw [hw']
      clear hw'
      rw [show strOfNums [] = (⟨#[]⟩ : ByteArray) from rfl]
      obtain ⟨x0, x1, x2, x3, x4, x5, x6, x7, x8, x9, x10, x11, x12, x13⟩ := AtB.cells14 (AtB.below A3.out (below1 W3 (.cells #[.int .i64 0, .int .i64 0, .int .i64 0, .int .u32 0, .int .i64 0, .int .i64 0, .bool false, .int .u32 0, .int .u32 0, .int .i64 0, .int .i64 0, .int .i64 0, .string ⟨#[]⟩, .string ⟨#[]⟩] 25)))
      go_wp2
      go_ret
      exact ⟨rfl, B3.out.alloc B3.out.size _⟩
  · rw [if_pos (.inl rfl)] at hD'
    obtain ⟨rfl, rfl⟩ := hD'
    show Calls Try.prog 5 #[.int .u32 src, .int .u32 dst, .int .u32 oth, .agg #[.int .i64 3, .int .i64 ty, .int .i64 co, .int .u32 re, .int .i64 sp, .int .i64 dp, .bool true, .int .u32 sq, .int .u32 ak, .int .i64 fl, .int .i64 wi, .int .i64 ur, .string (strOfNums os), .string (strOfNums ds)]] w _
    go_enter Try.func5, Try.ntmps5
    go_wp2_with fail
    refine (HE.out _).mono ?_
    clear HE
    rintro e W1 ⟨g, rfl, e1⟩
    have b1 := e1.bel
    have A1 : Hid (AtB W1 w.heap.size #[.int .i64 3, .int .i64 ty, .int .i64 co, .int .u32 re, .int .i64 sp, .int .i64 dp, .bool true, .int .u32 sq, .int .u32 ak, .int .i64 fl, .int .i64 wi, .int .i64 ur, .string (strOfNums os), .string (strOfNums ds)]) := AtB.below (atB_new w #[.int .i64 3, .int .i64 ty, .int .i64 co, .int .u32 re, .int .i64 sp, .int .i64 dp, .bool true, .int .u32 sq, .int .u32 ak, .int .i64 fl, .int .i64 wi, .int .i64 ur, .string (strOfNums os), .string (strOfNums ds)] 25 _ rfl) b1
    have B1 : Hid (Below w.heap.size w W1) := (below1 w _).trans (b1.mono (by simp))
    have E1 : Hid (BS W1 (some ⟨g, 0, none⟩) N ((L4R.mk 3 ty co re sp dp true sq ak fl wi ur os ds).enc src dst)) := e1.bs
    clear b1 e1
    go_wp2_with fail
    refine (lives_any _).mono ?_
    rintro e W2 ⟨rfl, b2⟩
    have A2 : Hid (AtB W2 w.heap.size #[.int .i64 3, .int .i64 ty, .int .i64 co, .int .u32 re, .int .i64 sp, .int .i64 dp, .bool true, .int .u32 sq, .int .u32 ak, .int .i64 fl, .int .i64 wi, .int .i64 ur, .string (strOfNums os), .string (strOfNums ds)]) := AtB.below A1.out b2
    have B2 : Hid (Below w.heap.size w W2) := B1.out.trans (b2.mono B1.out.size)
    have E2 : Hid (BS W2 (some ⟨g, 0, none⟩) N ((L4R.mk 3 ty co re sp dp true sq ak fl wi ur os ds).enc src dst)) := E1.out.below b2
    clear b2 A1 B1 E1
    obtain ⟨x0, x1, x2, x3, x4, x5, x6, x7, x8, x9, x10, x11, x12, x13⟩ := AtB.cells14 A2.out
    go_wp2_with fail
    refine (proto_any 3 _).mono ?_
    rintro e w' ⟨rfl, hw'⟩
    rw [hw', show protoV 3 = .tuple #[.int .i64 6, .bool true] from rfl]
    clear hw'
    go_wp2_with fail
    refine (HDD.out _ _ _ _ rfl E2.out).mono ?_
    clear HDD
    rintro e W3 ⟨rfl, b3⟩
    have A3 : Hid (AtB W3 w.heap.size #[.int .i64 3, .int .i64 ty, .int .i64 co, .int .u32 re, .int .i64 sp, .int .i64 dp, .bool true, .int .u32 sq, .int .u32 ak, .int .i64 fl, .int .i64 wi, .int .i64 ur, .string (strOfNums os), .string (strOfNums ds)]) := AtB.below A2.out b3
    have B3 : Hid (Below w.heap.size w W3) := B2.out.trans (b3.mono B2.out.size)
    clear x0 x1 x2 x3 x4 x5 x6 x7 x8 x9 x10 x11 x12 x13
    clear b3 A2 B2 E2
    dsimp only [L4R.v, l4V]
    go_wp2_with fail
    refine (HP1.out _).mono ?_
    rintro e w' ⟨rfl, hw'⟩
    rw [hw']
    clear hw'
    go_wp2_with fail
    refine (HP2.out _).mono ?_
    rintro e w' ⟨rfl, hw'⟩
    rw [hw']
    clear hw'
    have hq := fun W => eq14 3 ty co re sp dp true sq ak fl wi ur (strOfNums os) (strOfNums ds) W
    obtain ⟨x0, x1, x2, x3, x4, x5, x6, x7, x8, x9, x10, x11, x12, x13⟩ := AtB.cells14 (AtB.below A3.out (below1 W3 (.cells #[.int .i64 3, .int .i64 ty, .int .i64 co, .int .u32 re, .int .i64 sp, .int .i64 dp, .bool true, .int .u32 sq, .int .u32 ak, .int .i64 fl, .int .i64 wi, .int .i64 ur, .string (strOfNums os), .string (strOfNums ds)] 25)))
    go_wp2
    go_ret
    exact ⟨rfl, B3.out.alloc B3.out.size _⟩
theorem sums_any (src dst oth : Int) (hs : 0 ≤ src ∧ src ≤ 4294967295) (ht : 0 ≤ dst ∧ dst ≤ 4294967295) (ho : 0 ≤ oth ∧ oth ≤ 4294967295) (x : L4R) (hf : x.Fine) (w : World) :
    Calls Try.prog 5 #[.int .u32 src, .int .u32 dst, .int .u32 oth, x.v] w fun e w' => e = .returned (.bool true) ∧ Below w.heap.size w w' := by
  obtain ⟨k, ty, co, re, sp, dp, ns, sq, ak, fl, wi, ur, os, ds⟩ := x
  cases hok : (L4R.mk k ty co re sp dp ns sq ak fl wi ur os ds).ok
  · exact sums_no src dst oth k ty co re sp dp ns sq ak fl wi ur os ds hf hok w
  by_cases h2 : k = 2
  · subst h2
    exact sums_2 src dst oth hs ht ho ty co re sp dp ns sq ak fl wi ur os ds hf hok w
  by_cases h3 : k = 3
  · subst h3
    exact sums_3 src dst oth hs ht ho ty co re sp dp ns sq ak fl wi ur os ds hf hok w
  exact sums_plain src dst oth hs ht k ty co re sp dp ns sq ak fl wi ur os ds (by simp [h2]) (by simp [h3]) hf hok w
end Go.Proofs.Ytanilaofhaelkaa
