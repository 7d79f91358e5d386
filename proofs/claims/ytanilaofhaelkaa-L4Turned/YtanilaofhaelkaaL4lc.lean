/- A packet one byte of which is another: plain facts; the walk of L4Turned. Conditions: numbers of their kinds, texts of at most 2^47 bytes. -/
import Derived.Test.YtanilaofhaelkaaL4la
namespace Go.Proofs.Ytanilaofhaelkaa
open Go.RowKit

theorem wsum_set1 (m : Nat) : ∀ (zs : List Int) (k : Nat) (x : Int), zs.length ≤ m → k < zs.length → wsum (zs.set k x) = wsum zs + (x - zs.getD k 0) * (if k % 2 = 0 then 256 else 1) := by
  induction m using Nat.strongRecOn with
  | _ m ih =>
    intro zs k x hm hk
    match zs, k with
    | [], k => simp at hk
    | [u], 0 => simp [wsum]; omega
    | [u], k + 1 => simp at hk
    | u :: v :: r, 0 => simp [wsum]; omega
    | u :: v :: r, 1 => simp [wsum]; omega
    | u :: v :: r, k + 2 =>
      have := ih (m - 2) (by simp at hm; omega) r k x (by simp at hm; omega) (by simp at hk; omega)
      simp only [List.set_cons_succ, List.getD_cons_succ, wsum, this, show (k + 2) % 2 = k % 2 from by omega]
      split <;> omega
theorem getD_set_ne (zs : List Int) (k i : Nat) (x : Int) (h : k ≠ i) : (zs.set k x).getD i 0 = zs.getD i 0 := by
  simp [List.getD_eq_getElem?_getD, h]
/-- From where on no length and no check sum stands. -/
def mapV (k : Int) : Nat := if k = 1 then 4 else if k = 2 then 8 else 18
theorem map4_any (k : Int) (hk : k = 1 ∨ k = 2 ∨ k = 3) (w : World) : Calls Try.prog 16 #[.int .i64 k] w fun e w' => e = .returned (.int .i64 (mapV k)) ∧ w' = w := by
  rcases hk with rfl | rfl | rfl
  all_goals
    go_enter Try.func16, Try.ntmps16
    go_wp2
    go_ret
    exact ⟨rfl, rfl⟩
theorem L4R.enc_fits {x : L4R} (hf : x.Fine) (src dst : Int) (hs : 0 ≤ src) (ht : 0 ≤ dst) : ∀ i, 0 ≤ (x.enc src dst).getD i 0 ∧ (x.enc src dst).getD i 0 ≤ 255 := by
  have hB := L4R.body_fits hf
  have hc := chkC_bd src dst x.k _ hs ht hB
  unfold L4R.enc
  split
  · exact hB
  · unfold setC
    exact fits_set (fits_set hB _ _ (by omega)) _ _ (by omega)
theorem L4R.word_ne {x : L4R} (hf : x.Fine) (hok : x.ok = true) (hk : x.k = 2) (hn : x.ns = false) (src dst : Int) (hs : 0 ≤ src) (ht : 0 ≤ dst) : ¬ ((x.enc src dst).getD 6 0 * 256 + (x.enc src dst).getD 7 0 = 0) := by
  have hB := L4R.body_fits hf
  have hk0 : x.k ≠ 0 := by omega
  have s := L4R.shape hf hok hk0 src dst hs ht
  have hc := chkC_udp src dst x.body hs ht hB
  have hl := s.len
  have he : x.enc src dst = setC src dst x.k x.body := by
    unfold L4R.enc; rw [if_neg (by rw [hn]; simp [hk0])]
  rw [he, hk]
  rw [hk] at hl
  unfold setC
  rw [show chkAt 2 = 6 from rfl] at hl ⊢
  have g7 : ((x.body.set 6 (chkC src dst 2 x.body / 256)).set (6 + 1) (chkC src dst 2 x.body % 256)).getD 7 0 = chkC src dst 2 x.body % 256 := by
    simp [List.getD_eq_getElem?_getD, hl]
  have g6 : ((x.body.set 6 (chkC src dst 2 x.body / 256)).set (6 + 1) (chkC src dst 2 x.body % 256)).getD 6 0 = chkC src dst 2 x.body / 256 := by
    simp [List.getD_eq_getElem?_getD, (by omega : 6 < x.body.length)]
  rw [g6, g7]
  omega
theorem msr_set (k : Int) (hk : k = 1 ∨ k = 2 ∨ k = 3) (E : List Int) (i : Nat) (u : Int) (h : mapV k ≤ i) : msrV k (E.set i u) = msrV k E := by
  unfold msrV
  rw [List.length_set]
  rcases hk with rfl | rfl | rfl
  · rfl
  · have h8 : 8 ≤ i := h
    rw [getD_set_ne _ _ 4 _ (by omega), getD_set_ne _ _ 5 _ (by omega), if_pos rfl, if_pos rfl]
  · have h8 : 18 ≤ i := h
    rw [getD_set_ne _ _ _ _ (by omega), getD_set_ne _ _ _ _ (by omega), getD_set_ne _ _ _ _ (by omega)]
theorem turned {x : L4R} (hf : x.Fine) (hok : x.ok = true) (hk : x.k = 1 ∨ x.k = 2 ∨ x.k = 3) (hn : x.ns = false) (src dst : Int) (hs : 0 ≤ src) (ht : 0 ≤ dst) (i : Nat) (u : Int) (h1 : mapV x.k ≤ i) (h2 : i < x.body.length) (hu : 0 ≤ u ∧ u ≤ 255) (hne : u ≠ (x.enc src dst).getD i 0) :
    decE src dst x.k ((x.enc src dst).set i u) = 30 ∧ decR src dst x.k ((x.enc src dst).set i u) = zeroR := by
  have hk0 : x.k ≠ 0 := by omega
  have s := L4R.shape hf hok hk0 src dst hs ht
  have hE := L4R.enc_fits hf src dst hs ht
  have hl := x.enc_len src dst
  have hr := (L4R.right hf hok hk0 hn src dst src hs ht hs).2 rfl
  have hm : msrV x.k ((x.enc src dst).set i u) = 0 := (msr_set x.k hk _ i u h1).trans s.msr
  have hr2 : rightV src dst x.k ((x.enc src dst).set i u) = false := by
    unfold rightV at hr ⊢
    rw [if_neg hk0] at hr ⊢
    have c1 : ¬ (x.k = 2 ∧ (x.enc src dst).getD 6 0 * 256 + (x.enc src dst).getD 7 0 = 0) := fun h => L4R.word_ne hf hok h.1 hn src dst hs ht h.2
    have c2 : ¬ (x.k = 2 ∧ ((x.enc src dst).set i u).getD 6 0 * 256 + ((x.enc src dst).set i u).getD 7 0 = 0) := by
      rintro ⟨e, h⟩
      rw [e, show mapV 2 = 8 from rfl] at h1
      rw [getD_set_ne _ _ _ _ (by omega), getD_set_ne _ _ _ _ (by omega)] at h
      exact c1 ⟨e, h⟩
    rw [if_neg c1] at hr
    rw [if_neg c2]
    have hw := wsum_bd hE
    have hw2 := wsum_bd (fits_set hE i u hu)
    have e1 := extra_nn src dst x.k x.body.length hs ht
    have q1 := sumV_extra src dst x.k _ hw hs ht
    have q2 := sumV_extra src dst x.k _ hw2 hs ht
    rw [List.length_set, hl] at q2
    rw [hl] at q1
    have hS : sumV src dst x.k (x.enc src dst) = 65535 := by simpa using hr
    have hd := wsum_set1 _ (x.enc src dst) i u (Nat.le_refl _) (by omega)
    have hb := hE i
    rw [hS] at q1
    rw [q2]
    generalize extra src dst x.k x.body.length = X at *
    generalize wsum (x.enc src dst) = S at *
    generalize wsum ((x.enc src dst).set i u) = S2 at *
    generalize (x.enc src dst).getD i 0 = y at *
    simp only [beq_eq_false_iff_ne, ne_eq]
    unfold fld at q1 ⊢
    split at hd <;> split at q1 <;> split <;> omega
  unfold decE decR
  rw [if_pos hm, hr2, if_neg (by simp), if_neg (by simp)]
  exact ⟨rfl, rfl⟩
set_option maxRecDepth 20000 in
set_option maxHeartbeats 4000000 in
theorem turned_no (src dst : Int) (k ty co re sp dp : Int) (ns : Bool) (sq ak fl wi ur : Int) (os ds : List Int) (hf : (L4R.mk k ty co re sp dp ns sq ak fl wi ur os ds).Fine) (hok : (L4R.mk k ty co re sp dp ns sq ak fl wi ur os ds).ok = false) (bit : Int) (w : World) :
    Calls Try.prog 6 #[.int .u32 src, .int .u32 dst, (L4R.mk k ty co re sp dp ns sq ak fl wi ur os ds).v, .int .i64 bit] w fun e w' => e = .returned (.bool true) ∧ Below w.heap.size w w' := by
  have HE : Hid (∀ W, Calls Try.prog 10 #[.int .u32 src, .int .u32 dst, .agg #[.int .i64 k, .int .i64 ty, .int .i64 co, .int .u32 re, .int .i64 sp, .int .i64 dp, .bool ns, .int .u32 sq, .int .u32 ak, .int .i64 fl, .int .i64 wi, .int .i64 ur, .string (strOfNums os), .string (strOfNums ds)]] W fun e w' => e = .returned (.tuple #[.slice none 0 0, .int .i64 1]) ∧ Below W.heap.size W w') := fun W => encode_no (L4R.mk k ty co re sp dp ns sq ak fl wi ur os ds) hf hok src dst W
  have HK : Hid (∀ W, Calls Try.prog 12 #[.agg #[.int .i64 k, .int .i64 ty, .int .i64 co, .int .u32 re, .int .i64 sp, .int .i64 dp, .bool ns, .int .u32 sq, .int .u32 ak, .int .i64 fl, .int .i64 wi, .int .i64 ur, .string (strOfNums os), .string (strOfNums ds)]] W fun e w' => e = .returned (.int .i64 1) ∧ Below W.heap.size W w') := fun W => by
    have := l4check_any k ty co re sp dp ns sq ak fl wi ur os ds W hf.room
    rw [show l4Ok k ty co re sp dp ns sq ak fl wi ur (strOfNums os) (strOfNums ds) = false from hok] at this
    exact this
  clear hf hok
  show Calls Try.prog 6 #[.int .u32 src, .int .u32 dst, .agg #[.int .i64 k, .int .i64 ty, .int .i64 co, .int .u32 re, .int .i64 sp, .int .i64 dp, .bool ns, .int .u32 sq, .int .u32 ak, .int .i64 fl, .int .i64 wi, .int .i64 ur, .string (strOfNums os), .string (strOfNums ds)], .int .i64 bit] w _
  go_enter Try.func6, Try.ntmps6
  go_wp2_with fail
  refine (HE.out _).mono ?_
  clear HE
  rintro e W1 ⟨rfl, b1⟩
  have A1 : Hid (AtB W1 w.heap.size #[.int .i64 k, .int .i64 ty, .int .i64 co, .int .u32 re, .int .i64 sp, .int .i64 dp, .bool ns, .int .u32 sq, .int .u32 ak, .int .i64 fl, .int .i64 wi, .int .i64 ur, .string (strOfNums os), .string (strOfNums ds)]) := AtB.below (atB_new w #[.int .i64 k, .int .i64 ty, .int .i64 co, .int .u32 re, .int .i64 sp, .int .i64 dp, .bool ns, .int .u32 sq, .int .u32 ak, .int .i64 fl, .int .i64 wi, .int .i64 ur, .string (strOfNums os), .string (strOfNums ds)] 25 _ rfl) b1
  have B1 : Hid (Below w.heap.size w W1) := (below1 w _).trans (b1.mono (by simp))
  clear b1
  go_wp2_with fail
  refine (lives_any _).mono ?_
  rintro e W2 ⟨rfl, b2⟩
  have A2 : Hid (AtB W2 w.heap.size #[.int .i64 k, .int .i64 ty, .int .i64 co, .int .u32 re, .int .i64 sp, .int .i64 dp, .bool ns, .int .u32 sq, .int .u32 ak, .int .i64 fl, .int .i64 wi, .int .i64 ur, .string (strOfNums os), .string (strOfNums ds)]) := AtB.below A1.out b2
  have B2 : Hid (Below w.heap.size w W2) := B1.out.trans (b2.mono B1.out.size)
  clear b2 A1 B1
  obtain ⟨x0, x1, x2, x3, x4, x5, x6, x7, x8, x9, x10, x11, x12, x13⟩ := AtB.cells14 A2.out
  go_wp2_with fail
  refine (HK.out _).mono ?_
  clear HK
  rintro e W3 ⟨rfl, b3⟩
  have B3 : Hid (Below w.heap.size w W3) := B2.out.trans (b3.mono B2.out.size)
  clear b3 A2 B2
  go_wp2
  go_ret
  exact ⟨rfl, B3.out⟩
set_option maxRecDepth 20000 in
set_option maxHeartbeats 4000000 in
theorem turned_opaque (src dst : Int) (hs : 0 ≤ src ∧ src ≤ 4294967295) (ht : 0 ≤ dst ∧ dst ≤ 4294967295) (ty co re sp dp : Int) (ns : Bool) (sq ak fl wi ur : Int) (os ds : List Int) (hf : (L4R.mk 0 ty co re sp dp ns sq ak fl wi ur os ds).Fine) (hok : (L4R.mk 0 ty co re sp dp ns sq ak fl wi ur os ds).ok = true) (bit : Int) (w : World) :
    Calls Try.prog 6 #[.int .u32 src, .int .u32 dst, (L4R.mk 0 ty co re sp dp ns sq ak fl wi ur os ds).v, .int .i64 bit] w fun e w' => e = .returned (.bool true) ∧ Below w.heap.size w w' := by
  have HE : Hid (∀ W, Calls Try.prog 10 #[.int .u32 src, .int .u32 dst, .agg #[.int .i64 0, .int .i64 ty, .int .i64 co, .int .u32 re, .int .i64 sp, .int .i64 dp, .bool ns, .int .u32 sq, .int .u32 ak, .int .i64 fl, .int .i64 wi, .int .i64 ur, .string (strOfNums os), .string (strOfNums ds)]] W fun e w' => ∃ g, e = .returned (.tuple #[.slice (some ⟨g, 0, none⟩) (L4R.mk 0 ty co re sp dp ns sq ak fl wi ur os ds).body.length (L4R.mk 0 ty co re sp dp ns sq ak fl wi ur os ds).body.length, .int .i64 0]) ∧ EncS W w' g (L4R.mk 0 ty co re sp dp ns sq ak fl wi ur os ds).body.length (L4R.mk 0 ty co re sp dp ns sq ak fl wi ur os ds).body.length ((L4R.mk 0 ty co re sp dp ns sq ak fl wi ur os ds).enc src dst)) := fun W => encode_ok (L4R.mk 0 ty co re sp dp ns sq ak fl wi ur os ds) hf hok src dst hs ht W
  have HK : Hid (∀ W, Calls Try.prog 12 #[.agg #[.int .i64 0, .int .i64 ty, .int .i64 co, .int .u32 re, .int .i64 sp, .int .i64 dp, .bool ns, .int .u32 sq, .int .u32 ak, .int .i64 fl, .int .i64 wi, .int .i64 ur, .string (strOfNums os), .string (strOfNums ds)]] W fun e w' => e = .returned (.int .i64 0) ∧ Below W.heap.size W w') := fun W => by
    have := l4check_any 0 ty co re sp dp ns sq ak fl wi ur os ds W hf.room
    rw [show l4Ok 0 ty co re sp dp ns sq ak fl wi ur (strOfNums os) (strOfNums ds) = true from hok] at this
    exact this
  clear hs ht hf hok
  generalize (L4R.mk 0 ty co re sp dp ns sq ak fl wi ur os ds).body.length = N at *
  generalize (L4R.mk 0 ty co re sp dp ns sq ak fl wi ur os ds).enc src dst = E at *
  show Calls Try.prog 6 #[.int .u32 src, .int .u32 dst, .agg #[.int .i64 0, .int .i64 ty, .int .i64 co, .int .u32 re, .int .i64 sp, .int .i64 dp, .bool ns, .int .u32 sq, .int .u32 ak, .int .i64 fl, .int .i64 wi, .int .i64 ur, .string (strOfNums os), .string (strOfNums ds)], .int .i64 bit] w _
  go_enter Try.func6, Try.ntmps6
  go_wp2_with fail
  refine (HE.out _).mono ?_
  clear HE
  rintro e W1 ⟨g, rfl, e1⟩
  have b1 := e1.bel
  have A1 : Hid (AtB W1 w.heap.size #[.int .i64 0, .int .i64 ty, .int .i64 co, .int .u32 re, .int .i64 sp, .int .i64 dp, .bool ns, .int .u32 sq, .int .u32 ak, .int .i64 fl, .int .i64 wi, .int .i64 ur, .string (strOfNums os), .string (strOfNums ds)]) := AtB.below (atB_new w #[.int .i64 0, .int .i64 ty, .int .i64 co, .int .u32 re, .int .i64 sp, .int .i64 dp, .bool ns, .int .u32 sq, .int .u32 ak, .int .i64 fl, .int .i64 wi, .int .i64 ur, .string (strOfNums os), .string (strOfNums ds)] 25 _ rfl) b1
  have B1 : Hid (Below w.heap.size w W1) := (below1 w _).trans (b1.mono (by simp))
  clear b1 e1
  go_wp2_with fail
  refine (lives_any _).mono ?_
  rintro e W2 ⟨rfl, b2⟩
  have A2 : Hid (AtB W2 w.heap.size #[.int .i64 0, .int .i64 ty, .int .i64 co, .int .u32 re, .int .i64 sp, .int .i64 dp, .bool ns, .int .u32 sq, .int .u32 ak, .int .i64 fl, .int .i64 wi, .int .i64 ur, .string (strOfNums os), .string (strOfNums ds)]) := AtB.below A1.out b2
  have B2 : Hid (Below w.heap.size w W2) := B1.out.trans (b2.mono B1.out.size)
  clear b2 A1 B1
  obtain ⟨x0, x1, x2, x3, x4, x5, x6, x7, x8, x9, x10, x11, x12, x13⟩ := AtB.cells14 A2.out
  go_wp2_with fail
  refine (HK.out _).mono ?_
  clear HK
  rintro e W3 ⟨rfl, b3⟩
  have B3 : Hid (Below w.heap.size w W3) := B2.out.trans (b3.mono B2.out.size)
  clear b3 A2 B2
  go_wp2
  go_ret
  exact ⟨rfl, B3.out⟩
set_option maxRecDepth 20000 in
set_option maxHeartbeats 4000000 in
theorem turned_nosum (src dst : Int) (hs : 0 ≤ src ∧ src ≤ 4294967295) (ht : 0 ≤ dst ∧ dst ≤ 4294967295) (k ty co re sp dp : Int) (sq ak fl wi ur : Int) (os ds : List Int) (hk0 : (k == 0) = false) (hf : (L4R.mk k ty co re sp dp true sq ak fl wi ur os ds).Fine) (hok : (L4R.mk k ty co re sp dp true sq ak fl wi ur os ds).ok = true) (bit : Int) (w : World) :
    Calls Try.prog 6 #[.int .u32 src, .int .u32 dst, (L4R.mk k ty co re sp dp true sq ak fl wi ur os ds).v, .int .i64 bit] w fun e w' => e = .returned (.bool true) ∧ Below w.heap.size w w' := by
  have HE : Hid (∀ W, Calls Try.prog 10 #[.int .u32 src, .int .u32 dst, .agg #[.int .i64 k, .int .i64 ty, .int .i64 co, .int .u32 re, .int .i64 sp, .int .i64 dp, .bool true, .int .u32 sq, .int .u32 ak, .int .i64 fl, .int .i64 wi, .int .i64 ur, .string (strOfNums os), .string (strOfNums ds)]] W fun e w' => ∃ g, e = .returned (.tuple #[.slice (some ⟨g, 0, none⟩) (L4R.mk k ty co re sp dp true sq ak fl wi ur os ds).body.length (L4R.mk k ty co re sp dp true sq ak fl wi ur os ds).body.length, .int .i64 0]) ∧ EncS W w' g (L4R.mk k ty co re sp dp true sq ak fl wi ur os ds).body.length (L4R.mk k ty co re sp dp true sq ak fl wi ur os ds).body.length ((L4R.mk k ty co re sp dp true sq ak fl wi ur os ds).enc src dst)) := fun W => encode_ok (L4R.mk k ty co re sp dp true sq ak fl wi ur os ds) hf hok src dst hs ht W
  have HK : Hid (∀ W, Calls Try.prog 12 #[.agg #[.int .i64 k, .int .i64 ty, .int .i64 co, .int .u32 re, .int .i64 sp, .int .i64 dp, .bool true, .int .u32 sq, .int .u32 ak, .int .i64 fl, .int .i64 wi, .int .i64 ur, .string (strOfNums os), .string (strOfNums ds)]] W fun e w' => e = .returned (.int .i64 0) ∧ Below W.heap.size W w') := fun W => by
    have := l4check_any k ty co re sp dp true sq ak fl wi ur os ds W hf.room
    rw [show l4Ok k ty co re sp dp true sq ak fl wi ur (strOfNums os) (strOfNums ds) = true from hok] at this
    exact this
  clear hs ht hf hok
  generalize (L4R.mk k ty co re sp dp true sq ak fl wi ur os ds).body.length = N at *
  generalize (L4R.mk k ty co re sp dp true sq ak fl wi ur os ds).enc src dst = E at *
  show Calls Try.prog 6 #[.int .u32 src, .int .u32 dst, .agg #[.int .i64 k, .int .i64 ty, .int .i64 co, .int .u32 re, .int .i64 sp, .int .i64 dp, .bool true, .int .u32 sq, .int .u32 ak, .int .i64 fl, .int .i64 wi, .int .i64 ur, .string (strOfNums os), .string (strOfNums ds)], .int .i64 bit] w _
  go_enter Try.func6, Try.ntmps6
  go_wp2_with fail
  refine (HE.out _).mono ?_
  clear HE
  rintro e W1 ⟨g, rfl, e1⟩
  have b1 := e1.bel
  have A1 : Hid (AtB W1 w.heap.size #[.int .i64 k, .int .i64 ty, .int .i64 co, .int .u32 re, .int .i64 sp, .int .i64 dp, .bool true, .int .u32 sq, .int .u32 ak, .int .i64 fl, .int .i64 wi, .int .i64 ur, .string (strOfNums os), .string (strOfNums ds)]) := AtB.below (atB_new w #[.int .i64 k, .int .i64 ty, .int .i64 co, .int .u32 re, .int .i64 sp, .int .i64 dp, .bool true, .int .u32 sq, .int .u32 ak, .int .i64 fl, .int .i64 wi, .int .i64 ur, .string (strOfNums os), .string (strOfNums ds)] 25 _ rfl) b1
  have B1 : Hid (Below w.heap.size w W1) := (below1 w _).trans (b1.mono (by simp))
  clear b1 e1
  go_wp2_with fail
  refine (lives_any _).mono ?_
  rintro e W2 ⟨rfl, b2⟩
  have A2 : Hid (AtB W2 w.heap.size #[.int .i64 k, .int .i64 ty, .int .i64 co, .int .u32 re, .int .i64 sp, .int .i64 dp, .bool true, .int .u32 sq, .int .u32 ak, .int .i64 fl, .int .i64 wi, .int .i64 ur, .string (strOfNums os), .string (strOfNums ds)]) := AtB.below A1.out b2
  have B2 : Hid (Below w.heap.size w W2) := B1.out.trans (b2.mono B1.out.size)
  clear b2 A1 B1
  obtain ⟨x0, x1, x2, x3, x4, x5, x6, x7, x8, x9, x10, x11, x12, x13⟩ := AtB.cells14 A2.out
  go_wp2_with fail
  refine (HK.out _).mono ?_
  clear HK
  rintro e W3 ⟨rfl, b3⟩
  have B3 : Hid (Below w.heap.size w W3) := B2.out.trans (b3.mono B2.out.size)
  clear b3 A2 B2
  go_wp2
  go_ret
  exact ⟨rfl, B3.out⟩
end Go.Proofs.Ytanilaofhaelkaa
