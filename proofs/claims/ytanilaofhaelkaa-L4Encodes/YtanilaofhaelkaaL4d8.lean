/- The walk of L4Encodes. Conditions: numbers of their kinds, texts of at most 2^47 bytes. -/
import Derived.Test.YtanilaofhaelkaaL4d7
import Derived.Test.YtanilaofhaelkaaL4la
namespace Go.Proofs.Ytanilaofhaelkaa
open Go.RowKit
set_option linter.unusedSimpArgs false
set_option maxRecDepth 20000 in
set_option maxHeartbeats 8000000 in
theorem encodes_no (src dst : Int) (k ty co re sp dp : Int) (ns : Bool) (sq ak fl wi ur : Int) (os ds : List Int) (hf : (L4R.mk k ty co re sp dp ns sq ak fl wi ur os ds).Fine) (hos : os.length ≤ 140737488355328) (hok : (L4R.mk k ty co re sp dp ns sq ak fl wi ur os ds).ok = false) (w : World) :
    Calls Try.prog 4 #[.int .u32 src, .int .u32 dst, (L4R.mk k ty co re sp dp ns sq ak fl wi ur os ds).v] w fun e w' => e = .returned (.bool true) ∧ Below w.heap.size w w' := by
  have HE : Hid (∀ W, Calls Try.prog 10 #[.int .u32 src, .int .u32 dst, .agg #[.int .i64 k, .int .i64 ty, .int .i64 co, .int .u32 re, .int .i64 sp, .int .i64 dp, .bool ns, .int .u32 sq, .int .u32 ak, .int .i64 fl, .int .i64 wi, .int .i64 ur, .string (strOfNums os), .string (strOfNums ds)]] W fun e w' => e = .returned (.tuple #[.slice none 0 0, .int .i64 1]) ∧ Below W.heap.size W w') := fun W => encode_no (L4R.mk k ty co re sp dp ns sq ak fl wi ur os ds) hf hok src dst W
  have HF : Hid (∀ W, Calls Try.prog 11 #[.int .u32 src, .int .u32 dst, .agg #[.int .i64 k, .int .i64 ty, .int .i64 co, .int .u32 re, .int .i64 sp, .int .i64 dp, .bool ns, .int .u32 sq, .int .u32 ak, .int .i64 fl, .int .i64 wi, .int .i64 ur, .string (strOfNums os), .string (strOfNums ds)]] W fun e w' => e = .returned (.tuple #[.slice none 0 0, .int .i64 1]) ∧ Below W.heap.size W w') := fun W => renc_none (L4R.mk k ty co re sp dp ns sq ak fl wi ur os ds) hf hos hok src dst W
  have HC : Hid (∀ W, Calls Try.prog 12 #[.agg #[.int .i64 k, .int .i64 ty, .int .i64 co, .int .u32 re, .int .i64 sp, .int .i64 dp, .bool ns, .int .u32 sq, .int .u32 ak, .int .i64 fl, .int .i64 wi, .int .i64 ur, .string (strOfNums os), .string (strOfNums ds)]] W fun e w' => e = .returned (.int .i64 1) ∧ Below W.heap.size W w') := fun W => by
    have := l4check_any k ty co re sp dp ns sq ak fl wi ur os ds W hf.room
    rw [show l4Ok k ty co re sp dp ns sq ak fl wi ur (strOfNums os) (strOfNums ds) = false from hok] at this
    exact this
  have HR : Hid (∀ W, Calls Try.prog 13 #[.agg #[.int .i64 k, .int .i64 ty, .int .i64 co, .int .u32 re, .int .i64 sp, .int .i64 dp, .bool ns, .int .u32 sq, .int .u32 ak, .int .i64 fl, .int .i64 wi, .int .i64 ur, .string (strOfNums os), .string (strOfNums ds)]] W fun e w' => e = .returned (.int .i64 1) ∧ Below W.heap.size W w') := fun W => by
    have := rl4check_any (L4R.mk k ty co re sp dp ns sq ak fl wi ur os ds) hf hos W
    rw [hok] at this
    exact this
  clear hf hok hos
  show Calls Try.prog 4 #[.int .u32 src, .int .u32 dst, .agg #[.int .i64 k, .int .i64 ty, .int .i64 co, .int .u32 re, .int .i64 sp, .int .i64 dp, .bool ns, .int .u32 sq, .int .u32 ak, .int .i64 fl, .int .i64 wi, .int .i64 ur, .string (strOfNums os), .string (strOfNums ds)]] w _
  go_enter Try.func4, Try.ntmps4
  go_wp2_with fail
  refine (HE.out _).mono ?_
  clear HE
  rintro e W1 ⟨rfl, b1⟩
  have A1 : Hid (AtB W1 w.heap.size #[.int .i64 k, .int .i64 ty, .int .i64 co, .int .u32 re, .int .i64 sp, .int .i64 dp, .bool ns, .int .u32 sq, .int .u32 ak, .int .i64 fl, .int .i64 wi, .int .i64 ur, .string (strOfNums os), .string (strOfNums ds)]) := AtB.below (atB_new w #[.int .i64 k, .int .i64 ty, .int .i64 co, .int .u32 re, .int .i64 sp, .int .i64 dp, .bool ns, .int .u32 sq, .int .u32 ak, .int .i64 fl, .int .i64 wi, .int .i64 ur, .string (strOfNums os), .string (strOfNums ds)] 25 _ rfl) b1
  have B1 : Hid (Below w.heap.size w W1) := (below1 w _).trans (b1.mono (by simp))
  clear b1
  obtain ⟨x0, x1, x2, x3, x4, x5, x6, x7, x8, x9, x10, x11, x12, x13⟩ := AtB.cells14 A1.out
  go_wp2_with fail
  clear x0 x1 x2 x3 x4 x5 x6 x7 x8 x9 x10 x11 x12 x13
  refine (HF.out _).mono ?_
  clear HF
  rintro e W2 ⟨rfl, b2⟩
  have A2 : Hid (AtB W2 w.heap.size #[.int .i64 k, .int .i64 ty, .int .i64 co, .int .u32 re, .int .i64 sp, .int .i64 dp, .bool ns, .int .u32 sq, .int .u32 ak, .int .i64 fl, .int .i64 wi, .int .i64 ur, .string (strOfNums os), .string (strOfNums ds)]) := AtB.below A1.out b2
  have B2 : Hid (Below w.heap.size w W2) := B1.out.trans (b2.mono B1.out.size)
  have P2 : Hid (BS W2 none 0 []) := BS.empty none
  have Q2 : Hid (BS W2 none 0 []) := BS.empty none
  clear b2 A1 B1
  go_wp2_with fail
  refine wp_region_held_drew (S := (fun W => AtB W w.heap.size #[.int .i64 k, .int .i64 ty, .int .i64 co, .int .u32 re, .int .i64 sp, .int .i64 dp, .bool ns, .int .u32 sq, .int .u32 ak, .int .i64 fl, .int .i64 wi, .int .i64 ur, .string (strOfNums os), .string (strOfNums ds)] ∧ BS W none 0 [] ∧ BS W none 0 [])) (by kernel_rfl) ⟨A2.out, P2.out.drew, Q2.out.drew⟩ (fun hHeld => ?_)
  have A3 : Hid (AtB W2.drew w.heap.size #[.int .i64 k, .int .i64 ty, .int .i64 co, .int .u32 re, .int .i64 sp, .int .i64 dp, .bool ns, .int .u32 sq, .int .u32 ak, .int .i64 fl, .int .i64 wi, .int .i64 ur, .string (strOfNums os), .string (strOfNums ds)]) := A2.out
  have P3 : Hid (BS W2.drew none 0 []) := P2.out.drew
  have Q3 : Hid (BS W2.drew none 0 []) := Q2.out.drew
  have B3 : Hid (Below w.heap.size w W2.drew) := B2.out.drew
  obtain ⟨W3, hW3⟩ : ∃ V, W2.drew = V := ⟨_, rfl⟩
  rw [hW3] at A3 P3 Q3 B3 hHeld ⊢
  clear hW3 A2 P2 Q2 B2
  refine wpAnyH_ready (rs := [0]) (by kernel_rfl) (by simp) ?_
  refine AllReadyH.cons (o := _) rfl (fun K hK => ?_) AllReadyH.nil
  go_simp
  refine (lives_any _).mono ?_
  rintro e W4 ⟨rfl, b4⟩
  have A4 : Hid (AtB W4 w.heap.size #[.int .i64 k, .int .i64 ty, .int .i64 co, .int .u32 re, .int .i64 sp, .int .i64 dp, .bool ns, .int .u32 sq, .int .u32 ak, .int .i64 fl, .int .i64 wi, .int .i64 ur, .string (strOfNums os), .string (strOfNums ds)]) := AtB.below A3.out b4
  have P4 : Hid (BS W4 none 0 []) := P3.out.below b4
  have Q4 : Hid (BS W4 none 0 []) := Q3.out.below b4
  have B4 : Hid (Below w.heap.size w W4) := B3.out.trans (b4.mono B3.out.size)
  clear b4 A3 P3 Q3 B3 hHeld
  refine hK _ _ ⟨A4.out, P4.out, Q4.out⟩ (fun hHeld => ?_)
  try simp only [List.getElem_toArray, List.getElem_cons_zero, List.getElem_cons_succ, Act.put, List.setIfInBounds_toArray, List.set_cons_zero, List.set_cons_succ]
  refine wpAnyH_take (i := 1) (v := ?_) rfl (by kernel_rfl) (by kernel_rfl) (by kernel_rfl) (fun _ _ _ h => h) (Or.inl ⟨by rfl, ?_⟩) (by assumption) ?_
  rotate_left
  · (intro w hSw; (try dsimp only at hSw); go_simp; try with_reducible rfl)
  try simp only [List.getElem_toArray, List.getElem_cons_zero, List.getElem_cons_succ, Act.put, List.setIfInBounds_toArray, List.set_cons_zero, List.set_cons_succ]
  refine wpAnyH_take (i := 2) (v := ?_) rfl (by kernel_rfl) (by kernel_rfl) (by kernel_rfl) (fun _ _ _ h => h) (Or.inl ⟨by rfl, ?_⟩) (by assumption) ?_
  rotate_left
  · (intro w hSw; (try dsimp only at hSw); go_simp; try with_reducible rfl)
  try simp only [List.getElem_toArray, List.getElem_cons_zero, List.getElem_cons_succ, Act.put, List.setIfInBounds_toArray, List.set_cons_zero, List.set_cons_succ]
  refine wpAnyH_take (i := 3) (v := ?_) rfl (by kernel_rfl) (by kernel_rfl) (by kernel_rfl) (fun _ _ _ h => h) (Or.inl ⟨by rfl, ?_⟩) (by assumption) ?_
  rotate_left
  · (intro w hSw; (try dsimp only at hSw); go_simp; try with_reducible rfl)
  try simp only [List.getElem_toArray, List.getElem_cons_zero, List.getElem_cons_succ, Act.put, List.setIfInBounds_toArray, List.set_cons_zero, List.set_cons_succ]
  refine wpAnyH_take (i := 4) (v := .string (strOfNums [])) rfl (by kernel_rfl) (by kernel_rfl) (by kernel_rfl) (fun _ _ _ h => h) (Or.inl ⟨by rfl, fun W hW => by have cv := run_conv_bs (P := Try.prog) 0 hW.2.1 23 9 5 Try.underlying23 Try.underlying5 Try.underlying9; go_simp⟩) (by assumption) ?_
  try simp only [List.getElem_toArray, List.getElem_cons_zero, List.getElem_cons_succ, Act.put, List.setIfInBounds_toArray, List.set_cons_zero, List.set_cons_succ]
  refine wpAnyH_take (i := 5) (v := ?_) rfl (by kernel_rfl) (by kernel_rfl) (by kernel_rfl) (fun _ _ _ h => h) (Or.inl ⟨by rfl, ?_⟩) (by assumption) ?_
  rotate_left
  · (intro w hSw; (try dsimp only at hSw); go_simp; try with_reducible rfl)
  try simp only [List.getElem_toArray, List.getElem_cons_zero, List.getElem_cons_succ, Act.put, List.setIfInBounds_toArray, List.set_cons_zero, List.set_cons_succ]
  refine wpAnyH_take (i := 6) (v := .string (strOfNums [])) rfl (by kernel_rfl) (by kernel_rfl) (by kernel_rfl) (fun _ _ _ h => h) (Or.inl ⟨by rfl, fun W hW => by have cv := run_conv_bs (P := Try.prog) 0 hW.2.2 23 9 5 Try.underlying23 Try.underlying5 Try.underlying9; go_simp⟩) (by assumption) ?_
  try simp only [List.getElem_toArray, List.getElem_cons_zero, List.getElem_cons_succ, Act.put, List.setIfInBounds_toArray, List.set_cons_zero, List.set_cons_succ]
  refine wpAnyH_take (i := 7) (v := ?_) rfl (by kernel_rfl) (by kernel_rfl) (by kernel_rfl) (fun _ _ _ h => h) (Or.inl ⟨by rfl, ?_⟩) (by assumption) ?_
  rotate_left
  · (intro w hSw; (try dsimp only at hSw); go_simp; try with_reducible rfl)
  try simp only [List.getElem_toArray, List.getElem_cons_zero, List.getElem_cons_succ, Act.put, List.setIfInBounds_toArray, List.set_cons_zero, List.set_cons_succ]
  refine wpAnyH_take (i := 8) (v := ?_) rfl (by kernel_rfl) (by kernel_rfl) (by kernel_rfl) (fun _ _ _ h => h) (Or.inl ⟨by rfl, ?_⟩) (by assumption) ?_
  rotate_left
  · (intro w hSw; (try dsimp only at hSw); go_simp; try with_reducible rfl)
  try simp only [List.getElem_toArray, List.getElem_cons_zero, List.getElem_cons_succ, Act.put, List.setIfInBounds_toArray, List.set_cons_zero, List.set_cons_succ]
  refine wpAnyH_take (i := 9) (v := ?_) rfl (by kernel_rfl) (by kernel_rfl) (by kernel_rfl) (fun _ _ _ h => h) (Or.inl ⟨by rfl, ?_⟩) (by assumption) ?_
  rotate_left
  · (intro w hSw; (try dsimp only at hSw); go_simp; try with_reducible rfl)
  try simp only [List.getElem_toArray, List.getElem_cons_zero, List.getElem_cons_succ, Act.put, List.setIfInBounds_toArray, List.set_cons_zero, List.set_cons_succ]
  refine wpAnyH_take (i := 10) (v := ?_) rfl (by kernel_rfl) (by kernel_rfl) (by kernel_rfl) (fun _ _ _ h => h) (Or.inl ⟨by rfl, ?_⟩) (by assumption) ?_
  rotate_left
  · (intro w hSw; (try dsimp only at hSw); go_simp; try with_reducible rfl)
  try simp only [List.getElem_toArray, List.getElem_cons_zero, List.getElem_cons_succ, Act.put, List.setIfInBounds_toArray, List.set_cons_zero, List.set_cons_succ]
  refine wpAnyH_take (i := 11) (v := ?_) rfl (by kernel_rfl) (by kernel_rfl) (by kernel_rfl) (fun _ _ _ h => h) (Or.inl ⟨by rfl, ?_⟩) (by assumption) ?_
  rotate_left
  · (intro w hSw; (try dsimp only at hSw); go_simp; try with_reducible rfl)
  try simp only [List.getElem_toArray, List.getElem_cons_zero, List.getElem_cons_succ, Act.put, List.setIfInBounds_toArray, List.set_cons_zero, List.set_cons_succ]
  refine wpAnyH_take (i := 12) (v := ?_) rfl (by kernel_rfl) (by kernel_rfl) (by kernel_rfl) (fun _ _ _ h => h) (Or.inl ⟨by rfl, ?_⟩) (by assumption) ?_
  rotate_left
  · (intro w hSw; (try dsimp only at hSw); go_simp; try with_reducible rfl)
  try simp only [List.getElem_toArray, List.getElem_cons_zero, List.getElem_cons_succ, Act.put, List.setIfInBounds_toArray, List.set_cons_zero, List.set_cons_succ]
  refine wpAnyH_take (i := 13) (v := ?_) rfl (by kernel_rfl) (by kernel_rfl) (by kernel_rfl) (fun _ _ _ h => h) (Or.inl ⟨by rfl, ?_⟩) (by assumption) ?_
  rotate_left
  · (intro w hSw; (try dsimp only at hSw); go_simp; try with_reducible rfl)
  try simp only [List.getElem_toArray, List.getElem_cons_zero, List.getElem_cons_succ, Act.put, List.setIfInBounds_toArray, List.set_cons_zero, List.set_cons_succ]
  refine wpAnyH_take (i := 14) (v := ?_) rfl (by kernel_rfl) (by kernel_rfl) (by kernel_rfl) (fun _ _ _ h => h) (Or.inl ⟨by rfl, ?_⟩) (by assumption) ?_
  rotate_left
  · (intro w hSw; (try dsimp only at hSw); go_simp; try with_reducible rfl)
  try simp only [List.getElem_toArray, List.getElem_cons_zero, List.getElem_cons_succ, Act.put, List.setIfInBounds_toArray, List.set_cons_zero, List.set_cons_succ]
  refine wpAnyH_take (i := 15) (v := .agg #[.int .i64 k, .int .i64 ty, .int .i64 co, .int .u32 re, .int .i64 sp, .int .i64 dp, .bool ns, .int .u32 sq, .int .u32 ak, .int .i64 fl, .int .i64 wi, .int .i64 ur, .string (strOfNums os), .string (strOfNums ds)]) rfl (by kernel_rfl) (by kernel_rfl) (by kernel_rfl) (fun _ _ _ h => h) (Or.inl ⟨by rfl, fun W hW => by obtain ⟨x0, x1, x2, x3, x4, x5, x6, x7, x8, x9, x10, x11, x12, x13⟩ := AtB.cells14 hW.1; go_simp⟩) (by assumption) ?_
  try simp only [List.getElem_toArray, List.getElem_cons_zero, List.getElem_cons_succ, Act.put, List.setIfInBounds_toArray, List.set_cons_zero, List.set_cons_succ]
  refine wpAnyH_take (i := 17) (v := .agg #[.int .i64 k, .int .i64 ty, .int .i64 co, .int .u32 re, .int .i64 sp, .int .i64 dp, .bool ns, .int .u32 sq, .int .u32 ak, .int .i64 fl, .int .i64 wi, .int .i64 ur, .string (strOfNums os), .string (strOfNums ds)]) rfl (by kernel_rfl) (by kernel_rfl) (by kernel_rfl) (fun _ _ _ h => h) (Or.inl ⟨by rfl, fun W hW => by obtain ⟨x0, x1, x2, x3, x4, x5, x6, x7, x8, x9, x10, x11, x12, x13⟩ := AtB.cells14 hW.1; go_simp⟩) (by assumption) ?_
  try simp only [List.getElem_toArray, List.getElem_cons_zero, List.getElem_cons_succ, Act.put, List.setIfInBounds_toArray, List.set_cons_zero, List.set_cons_succ]
  refine wpAnyH_ready (rs := [16]) (by kernel_rfl) (by simp) ?_
  refine AllReadyH.cons (o := _) rfl (fun K hK => ?_) AllReadyH.nil
  go_simp
  refine (HC.out _).mono ?_
  clear HC
  rintro e W5 ⟨rfl, b5⟩
  have A5 : Hid (AtB W5 w.heap.size #[.int .i64 k, .int .i64 ty, .int .i64 co, .int .u32 re, .int .i64 sp, .int .i64 dp, .bool ns, .int .u32 sq, .int .u32 ak, .int .i64 fl, .int .i64 wi, .int .i64 ur, .string (strOfNums os), .string (strOfNums ds)]) := AtB.below A4.out b5
  have P5 : Hid (BS W5 none 0 []) := P4.out.below b5
  have Q5 : Hid (BS W5 none 0 []) := Q4.out.below b5
  have B5 : Hid (Below w.heap.size w W5) := B4.out.trans (b5.mono B4.out.size)
  clear b5 A4 P4 Q4 B4 hHeld
  refine hK _ _ ⟨A5.out, P5.out, Q5.out⟩ (fun hHeld => ?_)
  try simp only [List.getElem_toArray, List.getElem_cons_zero, List.getElem_cons_succ, Act.put, List.setIfInBounds_toArray, List.set_cons_zero, List.set_cons_succ]
  refine wpAnyH_ready (rs := [18]) (by kernel_rfl) (by simp) ?_
  refine AllReadyH.cons (o := _) rfl (fun K hK => ?_) AllReadyH.nil
  go_simp
  refine (HR.out _).mono ?_
  clear HR
  rintro e W6 ⟨rfl, b6⟩
  have A6 : Hid (AtB W6 w.heap.size #[.int .i64 k, .int .i64 ty, .int .i64 co, .int .u32 re, .int .i64 sp, .int .i64 dp, .bool ns, .int .u32 sq, .int .u32 ak, .int .i64 fl, .int .i64 wi, .int .i64 ur, .string (strOfNums os), .string (strOfNums ds)]) := AtB.below A5.out b6
  have P6 : Hid (BS W6 none 0 []) := P5.out.below b6
  have Q6 : Hid (BS W6 none 0 []) := Q5.out.below b6
  have B6 : Hid (Below w.heap.size w W6) := B5.out.trans (b6.mono B5.out.size)
  clear b6 A5 P5 Q5 B5 hHeld
  refine hK _ _ ⟨A6.out, P6.out, Q6.out⟩ (fun hHeld => ?_)
  try simp only [List.getElem_toArray, List.getElem_cons_zero, List.getElem_cons_succ, Act.put, List.setIfInBounds_toArray, List.set_cons_zero, List.set_cons_succ]
  refine wpAnyH_take (i := 19) (v := ?_) rfl (by kernel_rfl) (by kernel_rfl) (by kernel_rfl) (fun _ _ _ h => h) (Or.inl ⟨by rfl, ?_⟩) (by assumption) ?_
  rotate_left
  · (intro w hSw; (try dsimp only at hSw); go_simp; try with_reducible rfl)
  try simp only [List.getElem_toArray, List.getElem_cons_zero, List.getElem_cons_succ, Act.put, List.setIfInBounds_toArray, List.set_cons_zero, List.set_cons_succ]
  refine wpAnyH_take (i := 20) (v := ?_) rfl (by kernel_rfl) (by kernel_rfl) (by kernel_rfl) (fun _ _ _ h => h) (Or.inl ⟨by rfl, ?_⟩) (by assumption) ?_
  rotate_left
  · (intro w hSw; (try dsimp only at hSw); go_simp; try with_reducible rfl)
  try simp only [List.getElem_toArray, List.getElem_cons_zero, List.getElem_cons_succ, Act.put, List.setIfInBounds_toArray, List.set_cons_zero, List.set_cons_succ]
  refine wpAnyH_done (by kernel_rfl) ?_ _
  clear hHeld
  try simp only [List.getElem_toArray, List.getElem_cons_zero, List.getElem_cons_succ, Act.put, List.setIfInBounds_toArray, List.set_cons_zero, List.set_cons_succ]
  go_wp2
  go_ret
  exact ⟨rfl, B6.out⟩
set_option maxRecDepth 20000 in
set_option maxHeartbeats 8000000 in
theorem encodes_0 (src dst : Int) (hs : 0 ≤ src ∧ src ≤ 4294967295) (ht : 0 ≤ dst ∧ dst ≤ 4294967295) (ty co re sp dp : Int) (ns : Bool) (sq ak fl wi ur : Int) (os ds : List Int) (hf : (L4R.mk 0 ty co re sp dp ns sq ak fl wi ur os ds).Fine) (hos : os.length ≤ 140737488355328) (hok : (L4R.mk 0 ty co re sp dp ns sq ak fl wi ur os ds).ok = true) (w : World) :
    Calls Try.prog 4 #[.int .u32 src, .int .u32 dst, (L4R.mk 0 ty co re sp dp ns sq ak fl wi ur os ds).v] w fun e w' => e = .returned (.bool true) ∧ Below w.heap.size w w' := by
  have HE : Hid (∀ W, Calls Try.prog 10 #[.int .u32 src, .int .u32 dst, .agg #[.int .i64 0, .int .i64 ty, .int .i64 co, .int .u32 re, .int .i64 sp, .int .i64 dp, .bool ns, .int .u32 sq, .int .u32 ak, .int .i64 fl, .int .i64 wi, .int .i64 ur, .string (strOfNums os), .string (strOfNums ds)]] W fun e w' => ∃ g, e = .returned (.tuple #[.slice (some ⟨g, 0, none⟩) (L4R.mk 0 ty co re sp dp ns sq ak fl wi ur os ds).body.length (L4R.mk 0 ty co re sp dp ns sq ak fl wi ur os ds).body.length, .int .i64 0]) ∧ EncS W w' g (L4R.mk 0 ty co re sp dp ns sq ak fl wi ur os ds).body.length (L4R.mk 0 ty co re sp dp ns sq ak fl wi ur os ds).body.length ((L4R.mk 0 ty co re sp dp ns sq ak fl wi ur os ds).enc src dst)) := fun W => encode_ok (L4R.mk 0 ty co re sp dp ns sq ak fl wi ur os ds) hf hok src dst hs ht W
  have HF : Hid (∀ W, Calls Try.prog 11 #[.int .u32 src, .int .u32 dst, .agg #[.int .i64 0, .int .i64 ty, .int .i64 co, .int .u32 re, .int .i64 sp, .int .i64 dp, .bool ns, .int .u32 sq, .int .u32 ak, .int .i64 fl, .int .i64 wi, .int .i64 ur, .string (strOfNums os), .string (strOfNums ds)]] W fun e w' => ∃ a cap, e = .returned (.tuple #[.slice a (L4R.mk 0 ty co re sp dp ns sq ak fl wi ur os ds).body.length cap, .int .i64 0]) ∧ BS w' a (L4R.mk 0 ty co re sp dp ns sq ak fl wi ur os ds).body.length ((L4R.mk 0 ty co re sp dp ns sq ak fl wi ur os ds).enc src dst) ∧ Below W.heap.size W w') := fun W => renc_any (L4R.mk 0 ty co re sp dp ns sq ak fl wi ur os ds) hf hos hok src dst hs ht W
  have HD : Hid (∀ W g, BS W (some ⟨g, 0, none⟩) (L4R.mk 0 ty co re sp dp ns sq ak fl wi ur os ds).body.length ((L4R.mk 0 ty co re sp dp ns sq ak fl wi ur os ds).enc src dst) → Calls Try.prog 7 #[.int .u32 src, .int .u32 dst, .int .i64 250, .slice (some ⟨g, 0, none⟩) (L4R.mk 0 ty co re sp dp ns sq ak fl wi ur os ds).body.length (L4R.mk 0 ty co re sp dp ns sq ak fl wi ur os ds).body.length] W fun e w' => e = .returned (.tuple #[.agg #[.int .i64 0, .int .i64 ty, .int .i64 co, .int .u32 re, .int .i64 sp, .int .i64 dp, .bool ns, .int .u32 sq, .int .u32 ak, .int .i64 fl, .int .i64 wi, .int .i64 ur, .string (strOfNums os), .string (strOfNums ds)], .int .i64 0]) ∧ Below W.heap.size W w') := fun W g hB => by
    have := decode_any src dst 250 hs ht (some ⟨g, 0, none⟩) _ _ _ (Nat.le_refl _) (fun x e => ⟨g, 0, by cases e; rfl⟩) (fun e => by cases e) W hB
    have hd : decE src dst 0 ((L4R.mk 0 ty co re sp dp ns sq ak fl wi ur os ds).enc src dst) = 0 ∧ decR src dst 0 ((L4R.mk 0 ty co re sp dp ns sq ak fl wi ur os ds).enc src dst) = (L4R.mk 0 ty co re sp dp ns sq ak fl wi ur os ds) := dec_own hf hok src dst hs.1 ht.1
    rw [show kindV 250 = 0 from rfl, hd.1, hd.2] at this
    exact this
  have hq := fun W => eq14 0 ty co re sp dp ns sq ak fl wi ur (strOfNums os) (strOfNums ds) W
  have HQ : Hid _ := hq
  have HC : Hid (∀ W, Calls Try.prog 12 #[.agg #[.int .i64 0, .int .i64 ty, .int .i64 co, .int .u32 re, .int .i64 sp, .int .i64 dp, .bool ns, .int .u32 sq, .int .u32 ak, .int .i64 fl, .int .i64 wi, .int .i64 ur, .string (strOfNums os), .string (strOfNums ds)]] W fun e w' => e = .returned (.int .i64 0) ∧ Below W.heap.size W w') := fun W => by
    have := l4check_any 0 ty co re sp dp ns sq ak fl wi ur os ds W hf.room
    rw [show l4Ok 0 ty co re sp dp ns sq ak fl wi ur (strOfNums os) (strOfNums ds) = true from hok] at this
    exact this
  have HR : Hid (∀ W, Calls Try.prog 13 #[.agg #[.int .i64 0, .int .i64 ty, .int .i64 co, .int .u32 re, .int .i64 sp, .int .i64 dp, .bool ns, .int .u32 sq, .int .u32 ak, .int .i64 fl, .int .i64 wi, .int .i64 ur, .string (strOfNums os), .string (strOfNums ds)]] W fun e w' => e = .returned (.int .i64 0) ∧ Below W.heap.size W w') := fun W => by
    have := rl4check_any (L4R.mk 0 ty co re sp dp ns sq ak fl wi ur os ds) hf hos W
    rw [hok] at this
    exact this
  clear hs ht hf hok hos hq
  generalize (L4R.mk 0 ty co re sp dp ns sq ak fl wi ur os ds).body.length = N at *
  generalize (L4R.mk 0 ty co re sp dp ns sq ak fl wi ur os ds).enc src dst = E at *
  show Calls Try.prog 4 #[.int .u32 src, .int .u32 dst, .agg #[.int .i64 0, .int .i64 ty, .int .i64 co, .int .u32 re, .int .i64 sp, .int .i64 dp, .bool ns, .int .u32 sq, .int .u32 ak, .int .i64 fl, .int .i64 wi, .int .i64 ur, .string (strOfNums os), .string (strOfNums ds)]] w _
  go_enter Try.func4, Try.ntmps4
  go_wp2_with fail
  refine (HE.out _).mono ?_
  clear HE
  rintro e W1 ⟨g, rfl, e1⟩
  have b1 := e1.bel
  have A1 : Hid (AtB W1 w.heap.size #[.int .i64 0, .int .i64 ty, .int .i64 co, .int .u32 re, .int .i64 sp, .int .i64 dp, .bool ns, .int .u32 sq, .int .u32 ak, .int .i64 fl, .int .i64 wi, .int .i64 ur, .string (strOfNums os), .string (strOfNums ds)]) := AtB.below (atB_new w #[.int .i64 0, .int .i64 ty, .int .i64 co, .int .u32 re, .int .i64 sp, .int .i64 dp, .bool ns, .int .u32 sq, .int .u32 ak, .int .i64 fl, .int .i64 wi, .int .i64 ur, .string (strOfNums os), .string (strOfNums ds)] 25 _ rfl) b1
  have B1 : Hid (Below w.heap.size w W1) := (below1 w _).trans (b1.mono (by simp))
  have P1 : Hid (BS W1 (some ⟨g, 0, none⟩) N E) := e1.bs
  clear b1 e1
  obtain ⟨x0, x1, x2, x3, x4, x5, x6, x7, x8, x9, x10, x11, x12, x13⟩ := AtB.cells14 A1.out
  go_wp2_with fail
  clear x0 x1 x2 x3 x4 x5 x6 x7 x8 x9 x10 x11 x12 x13
  refine (HF.out _).mono ?_
  clear HF
  rintro e W2 ⟨a, cap, rfl, q2, b2⟩
  have A2 : Hid (AtB W2 w.heap.size #[.int .i64 0, .int .i64 ty, .int .i64 co, .int .u32 re, .int .i64 sp, .int .i64 dp, .bool ns, .int .u32 sq, .int .u32 ak, .int .i64 fl, .int .i64 wi, .int .i64 ur, .string (strOfNums os), .string (strOfNums ds)]) := AtB.below A1.out b2
  have B2 : Hid (Below w.heap.size w W2) := B1.out.trans (b2.mono B1.out.size)
  have P2 : Hid (BS W2 (some ⟨g, 0, none⟩) N E) := P1.out.below b2
  have Q2 : Hid (BS W2 a N E) := q2
  clear b2 A1 B1 P1 q2
  go_wp2_with fail
  refine wp_region_held_drew (S := (fun W => AtB W w.heap.size #[.int .i64 0, .int .i64 ty, .int .i64 co, .int .u32 re, .int .i64 sp, .int .i64 dp, .bool ns, .int .u32 sq, .int .u32 ak, .int .i64 fl, .int .i64 wi, .int .i64 ur, .string (strOfNums os), .string (strOfNums ds)] ∧ BS W (some ⟨g, 0, none⟩) N E ∧ BS W a N E)) (by kernel_rfl) ⟨A2.out, P2.out.drew, Q2.out.drew⟩ (fun hHeld => ?_)
  have A3 : Hid (AtB W2.drew w.heap.size #[.int .i64 0, .int .i64 ty, .int .i64 co, .int .u32 re, .int .i64 sp, .int .i64 dp, .bool ns, .int .u32 sq, .int .u32 ak, .int .i64 fl, .int .i64 wi, .int .i64 ur, .string (strOfNums os), .string (strOfNums ds)]) := A2.out
  have P3 : Hid (BS W2.drew (some ⟨g, 0, none⟩) N E) := P2.out.drew
  have Q3 : Hid (BS W2.drew a N E) := Q2.out.drew
  have B3 : Hid (Below w.heap.size w W2.drew) := B2.out.drew
  obtain ⟨W3, hW3⟩ : ∃ V, W2.drew = V := ⟨_, rfl⟩
  rw [hW3] at A3 P3 Q3 B3 hHeld ⊢
  clear hW3 A2 P2 Q2 B2
  refine wpAnyH_ready (rs := [0]) (by kernel_rfl) (by simp) ?_
  refine AllReadyH.cons (o := _) rfl (fun K hK => ?_) AllReadyH.nil
  go_simp
  refine (lives_any _).mono ?_
  rintro e W4 ⟨rfl, b4⟩
  have A4 : Hid (AtB W4 w.heap.size #[.int .i64 0, .int .i64 ty, .int .i64 co, .int .u32 re, .int .i64 sp, .int .i64 dp, .bool ns, .int .u32 sq, .int .u32 ak, .int .i64 fl, .int .i64 wi, .int .i64 ur, .string (strOfNums os), .string (strOfNums ds)]) := AtB.below A3.out b4
  have P4 : Hid (BS W4 (some ⟨g, 0, none⟩) N E) := P3.out.below b4
  have Q4 : Hid (BS W4 a N E) := Q3.out.below b4
  have B4 : Hid (Below w.heap.size w W4) := B3.out.trans (b4.mono B3.out.size)
  clear b4 A3 P3 Q3 B3 hHeld
  refine hK _ _ ⟨A4.out, P4.out, Q4.out⟩ (fun hHeld => ?_)
  try simp only [List.getElem_toArray, List.getElem_cons_zero, List.getElem_cons_succ, Act.put, List.setIfInBounds_toArray, List.set_cons_zero, List.set_cons_succ]
  refine wpAnyH_take (i := 1) (v := ?_) rfl (by kernel_rfl) (by kernel_rfl) (by kernel_rfl) (fun _ _ _ h => h) (Or.inl ⟨by rfl, ?_⟩) (by assumption) ?_
  rotate_left
  · (intro w hSw; (try dsimp only at hSw); go_simp; try with_reducible rfl)
  try simp only [List.getElem_toArray, List.getElem_cons_zero, List.getElem_cons_succ, Act.put, List.setIfInBounds_toArray, List.set_cons_zero, List.set_cons_succ]
  refine wpAnyH_take (i := 2) (v := ?_) rfl (by kernel_rfl) (by kernel_rfl) (by kernel_rfl) (fun _ _ _ h => h) (Or.inl ⟨by rfl, ?_⟩) (by assumption) ?_
  rotate_left
  · (intro w hSw; (try dsimp only at hSw); go_simp; try with_reducible rfl)
  try simp only [List.getElem_toArray, List.getElem_cons_zero, List.getElem_cons_succ, Act.put, List.setIfInBounds_toArray, List.set_cons_zero, List.set_cons_succ]
  refine wpAnyH_take (i := 3) (v := ?_) rfl (by kernel_rfl) (by kernel_rfl) (by kernel_rfl) (fun _ _ _ h => h) (Or.inl ⟨by rfl, ?_⟩) (by assumption) ?_
  rotate_left
  · (intro w hSw; (try dsimp only at hSw); go_simp; try with_reducible rfl)
  try simp only [List.getElem_toArray, List.getElem_cons_zero, List.getElem_cons_succ, Act.put, List.setIfInBounds_toArray, List.set_cons_zero, List.set_cons_succ]
  refine wpAnyH_take (i := 4) (v := .string (strOfNums E)) rfl (by kernel_rfl) (by kernel_rfl) (by kernel_rfl) (fun _ _ _ h => h) (Or.inl ⟨by rfl, fun W hW => by have cv := run_conv_bs (P := Try.prog) N hW.2.1 23 9 5 Try.underlying23 Try.underlying5 Try.underlying9; go_simp⟩) (by assumption) ?_
  try simp only [List.getElem_toArray, List.getElem_cons_zero, List.getElem_cons_succ, Act.put, List.setIfInBounds_toArray, List.set_cons_zero, List.set_cons_succ]
  refine wpAnyH_take (i := 5) (v := ?_) rfl (by kernel_rfl) (by kernel_rfl) (by kernel_rfl) (fun _ _ _ h => h) (Or.inl ⟨by rfl, ?_⟩) (by assumption) ?_
  rotate_left
  · (intro w hSw; (try dsimp only at hSw); go_simp; try with_reducible rfl)
  try simp only [List.getElem_toArray, List.getElem_cons_zero, List.getElem_cons_succ, Act.put, List.setIfInBounds_toArray, List.set_cons_zero, List.set_cons_succ]
  refine wpAnyH_take (i := 6) (v := .string (strOfNums E)) rfl (by kernel_rfl) (by kernel_rfl) (by kernel_rfl) (fun _ _ _ h => h) (Or.inl ⟨by rfl, fun W hW => by have cv := run_conv_bs (P := Try.prog) cap hW.2.2 23 9 5 Try.underlying23 Try.underlying5 Try.underlying9; go_simp⟩) (by assumption) ?_
  try simp only [List.getElem_toArray, List.getElem_cons_zero, List.getElem_cons_succ, Act.put, List.setIfInBounds_toArray, List.set_cons_zero, List.set_cons_succ]
  refine wpAnyH_take (i := 7) (v := ?_) rfl (by kernel_rfl) (by kernel_rfl) (by kernel_rfl) (fun _ _ _ h => h) (Or.inl ⟨by rfl, ?_⟩) (by assumption) ?_
  rotate_left
  · (intro w hSw; (try dsimp only at hSw); go_simp; try with_reducible rfl)
  try simp only [List.getElem_toArray, List.getElem_cons_zero, List.getElem_cons_succ, Act.put, List.setIfInBounds_toArray, List.set_cons_zero, List.set_cons_succ]
  refine wpAnyH_take (i := 8) (v := ?_) rfl (by kernel_rfl) (by kernel_rfl) (by kernel_rfl) (fun _ _ _ h => h) (Or.inl ⟨by rfl, ?_⟩) (by assumption) ?_
  rotate_left
  · (intro w hSw; (try dsimp only at hSw); go_simp; try with_reducible rfl)
  try simp only [List.getElem_toArray, List.getElem_cons_zero, List.getElem_cons_succ, Act.put, List.setIfInBounds_toArray, List.set_cons_zero, List.set_cons_succ]
  refine wpAnyH_take (i := 9) (v := ?_) rfl (by kernel_rfl) (by kernel_rfl) (by kernel_rfl) (fun _ _ _ h => h) (Or.inl ⟨by rfl, ?_⟩) (by assumption) ?_
  rotate_left
  · (intro w hSw; (try dsimp only at hSw); go_simp; try with_reducible rfl)
  try simp only [List.getElem_toArray, List.getElem_cons_zero, List.getElem_cons_succ, Act.put, List.setIfInBounds_toArray, List.set_cons_zero, List.set_cons_succ]
  refine wpAnyH_take (i := 10) (v := ?_) rfl (by kernel_rfl) (by kernel_rfl) (by kernel_rfl) (fun _ _ _ h => h) (Or.inl ⟨by rfl, ?_⟩) (by assumption) ?_
  rotate_left
  · (intro w hSw; (try dsimp only at hSw); go_simp; try with_reducible rfl)
  try simp only [List.getElem_toArray, List.getElem_cons_zero, List.getElem_cons_succ, Act.put, List.setIfInBounds_toArray, List.set_cons_zero, List.set_cons_succ]
  refine wpAnyH_take (i := 11) (v := ?_) rfl (by kernel_rfl) (by kernel_rfl) (by kernel_rfl) (fun _ _ _ h => h) (Or.inl ⟨by rfl, ?_⟩) (by assumption) ?_
  rotate_left
  · (intro w hSw; (try dsimp only at hSw); go_simp; try with_reducible rfl)
  try simp only [List.getElem_toArray, List.getElem_cons_zero, List.getElem_cons_succ, Act.put, List.setIfInBounds_toArray, List.set_cons_zero, List.set_cons_succ]
  refine wpAnyH_take (i := 12) (v := ?_) rfl (by kernel_rfl) (by kernel_rfl) (by kernel_rfl) (fun _ _ _ h => h) (Or.inl ⟨by rfl, ?_⟩) (by assumption) ?_
  rotate_left
  · (intro w hSw; (try dsimp only at hSw); go_simp; try with_reducible rfl)
  try simp only [List.getElem_toArray, List.getElem_cons_zero, List.getElem_cons_succ, Act.put, List.setIfInBounds_toArray, List.set_cons_zero, List.set_cons_succ]
  refine wpAnyH_take (i := 13) (v := ?_) rfl (by kernel_rfl) (by kernel_rfl) (by kernel_rfl) (fun _ _ _ h => h) (Or.inl ⟨by rfl, ?_⟩) (by assumption) ?_
  rotate_left
  · (intro w hSw; (try dsimp only at hSw); go_simp; try with_reducible rfl)
  try simp only [List.getElem_toArray, List.getElem_cons_zero, List.getElem_cons_succ, Act.put, List.setIfInBounds_toArray, List.set_cons_zero, List.set_cons_succ]
  refine wpAnyH_take (i := 14) (v := ?_) rfl (by kernel_rfl) (by kernel_rfl) (by kernel_rfl) (fun _ _ _ h => h) (Or.inl ⟨by rfl, ?_⟩) (by assumption) ?_
  rotate_left
  · (intro w hSw; (try dsimp only at hSw); go_simp; try with_reducible rfl)
  try simp only [List.getElem_toArray, List.getElem_cons_zero, List.getElem_cons_succ, Act.put, List.setIfInBounds_toArray, List.set_cons_zero, List.set_cons_succ]
  refine wpAnyH_take (i := 15) (v := .agg #[.int .i64 0, .int .i64 ty, .int .i64 co, .int .u32 re, .int .i64 sp, .int .i64 dp, .bool ns, .int .u32 sq, .int .u32 ak, .int .i64 fl, .int .i64 wi, .int .i64 ur, .string (strOfNums os), .string (strOfNums ds)]) rfl (by kernel_rfl) (by kernel_rfl) (by kernel_rfl) (fun _ _ _ h => h) (Or.inl ⟨by rfl, fun W hW => by obtain ⟨x0, x1, x2, x3, x4, x5, x6, x7, x8, x9, x10, x11, x12, x13⟩ := AtB.cells14 hW.1; go_simp⟩) (by assumption) ?_
  try simp only [List.getElem_toArray, List.getElem_cons_zero, List.getElem_cons_succ, Act.put, List.setIfInBounds_toArray, List.set_cons_zero, List.set_cons_succ]
  refine wpAnyH_take (i := 17) (v := .agg #[.int .i64 0, .int .i64 ty, .int .i64 co, .int .u32 re, .int .i64 sp, .int .i64 dp, .bool ns, .int .u32 sq, .int .u32 ak, .int .i64 fl, .int .i64 wi, .int .i64 ur, .string (strOfNums os), .string (strOfNums ds)]) rfl (by kernel_rfl) (by kernel_rfl) (by kernel_rfl) (fun _ _ _ h => h) (Or.inl ⟨by rfl, fun W hW => by obtain ⟨x0, x1, x2, x3, x4, x5, x6, x7, x8, x9, x10, x11, x12, x13⟩ := AtB.cells14 hW.1; go_simp⟩) (by assumption) ?_
  try simp only [List.getElem_toArray, List.getElem_cons_zero, List.getElem_cons_succ, Act.put, List.setIfInBounds_toArray, List.set_cons_zero, List.set_cons_succ]
  refine wpAnyH_ready (rs := [16]) (by kernel_rfl) (by simp) ?_
  refine AllReadyH.cons (o := _) rfl (fun K hK => ?_) AllReadyH.nil
  go_simp
  refine (HC.out _).mono ?_
  clear HC
  rintro e W5 ⟨rfl, b5⟩
  have A5 : Hid (AtB W5 w.heap.size #[.int .i64 0, .int .i64 ty, .int .i64 co, .int .u32 re, .int .i64 sp, .int .i64 dp, .bool ns, .int .u32 sq, .int .u32 ak, .int .i64 fl, .int .i64 wi, .int .i64 ur, .string (strOfNums os), .string (strOfNums ds)]) := AtB.below A4.out b5
  have P5 : Hid (BS W5 (some ⟨g, 0, none⟩) N E) := P4.out.below b5
  have Q5 : Hid (BS W5 a N E) := Q4.out.below b5
  have B5 : Hid (Below w.heap.size w W5) := B4.out.trans (b5.mono B4.out.size)
  clear b5 A4 P4 Q4 B4 hHeld
  refine hK _ _ ⟨A5.out, P5.out, Q5.out⟩ (fun hHeld => ?_)
  try simp only [List.getElem_toArray, List.getElem_cons_zero, List.getElem_cons_succ, Act.put, List.setIfInBounds_toArray, List.set_cons_zero, List.set_cons_succ]
  refine wpAnyH_ready (rs := [18]) (by kernel_rfl) (by simp) ?_
  refine AllReadyH.cons (o := _) rfl (fun K hK => ?_) AllReadyH.nil
  go_simp
  refine (HR.out _).mono ?_
  clear HR
  rintro e W6 ⟨rfl, b6⟩
  have A6 : Hid (AtB W6 w.heap.size #[.int .i64 0, .int .i64 ty, .int .i64 co, .int .u32 re, .int .i64 sp, .int .i64 dp, .bool ns, .int .u32 sq, .int .u32 ak, .int .i64 fl, .int .i64 wi, .int .i64 ur, .string (strOfNums os), .string (strOfNums ds)]) := AtB.below A5.out b6
  have P6 : Hid (BS W6 (some ⟨g, 0, none⟩) N E) := P5.out.below b6
  have Q6 : Hid (BS W6 a N E) := Q5.out.below b6
  have B6 : Hid (Below w.heap.size w W6) := B5.out.trans (b6.mono B5.out.size)
  clear b6 A5 P5 Q5 B5 hHeld
  refine hK _ _ ⟨A6.out, P6.out, Q6.out⟩ (fun hHeld => ?_)
  try simp only [List.getElem_toArray, List.getElem_cons_zero, List.getElem_cons_succ, Act.put, List.setIfInBounds_toArray, List.set_cons_zero, List.set_cons_succ]
  refine wpAnyH_take (i := 19) (v := ?_) rfl (by kernel_rfl) (by kernel_rfl) (by kernel_rfl) (fun _ _ _ h => h) (Or.inl ⟨by rfl, ?_⟩) (by assumption) ?_
  rotate_left
  · (intro w hSw; (try dsimp only at hSw); go_simp; try with_reducible rfl)
  try simp only [List.getElem_toArray, List.getElem_cons_zero, List.getElem_cons_succ, Act.put, List.setIfInBounds_toArray, List.set_cons_zero, List.set_cons_succ]
  refine wpAnyH_take (i := 20) (v := ?_) rfl (by kernel_rfl) (by kernel_rfl) (by kernel_rfl) (fun _ _ _ h => h) (Or.inl ⟨by rfl, ?_⟩) (by assumption) ?_
  rotate_left
  · (intro w hSw; (try dsimp only at hSw); go_simp; try with_reducible rfl)
  try simp only [List.getElem_toArray, List.getElem_cons_zero, List.getElem_cons_succ, Act.put, List.setIfInBounds_toArray, List.set_cons_zero, List.set_cons_succ]
  refine wpAnyH_done (by kernel_rfl) ?_ _
  clear hHeld
  try simp only [List.getElem_toArray, List.getElem_cons_zero, List.getElem_cons_succ, Act.put, List.setIfInBounds_toArray, List.set_cons_zero, List.set_cons_succ]
  obtain ⟨x0, x1, x2, x3, x4, x5, x6, x7, x8, x9, x10, x11, x12, x13⟩ := AtB.cells14 A6.out
  go_wp2_with fail
  refine (proto_any _ _).mono ?_
  rintro e w' ⟨rfl, hw'⟩
  rw [hw', show protoV 0 = .tuple #[.int .i64 0, .bool false] from rfl]
  clear hw'
  go_wp2_with fail
  clear x0 x1 x2 x3 x4 x5 x6 x7 x8 x9 x10 x11 x12 x13
  refine (HD.out _ g P6.out).mono ?_
  clear HD
  rintro e W7 ⟨rfl, b7⟩
  have A7 := AtB.below (AtB.below A6.out b7) (below1 W7 (.cells #[.int .i64 0, .int .i64 ty, .int .i64 co, .int .u32 re, .int .i64 sp, .int .i64 dp, .bool ns, .int .u32 sq, .int .u32 ak, .int .i64 fl, .int .i64 wi, .int .i64 ur, .string (strOfNums os), .string (strOfNums ds)] 25))
  have A8 := atB_new W7 #[.int .i64 0, .int .i64 ty, .int .i64 co, .int .u32 re, .int .i64 sp, .int .i64 dp, .bool ns, .int .u32 sq, .int .u32 ak, .int .i64 fl, .int .i64 wi, .int .i64 ur, .string (strOfNums os), .string (strOfNums ds)] 25 _ rfl
  have B7 : Hid (Below w.heap.size w W7) := B6.out.trans (b7.mono B6.out.size)
  have B8 : Hid (Below w.heap.size w (W7.alloc (.cells #[.int .i64 0, .int .i64 ty, .int .i64 co, .int .u32 re, .int .i64 sp, .int .i64 dp, .bool ns, .int .u32 sq, .int .u32 ak, .int .i64 fl, .int .i64 wi, .int .i64 ur, .string (strOfNums os), .string (strOfNums ds)] 25))) := B7.out.alloc B7.out.size _
  clear b7 A6 P6 Q6 B6 B7
  obtain ⟨x0, x1, x2, x3, x4, x5, x6, x7, x8, x9, x10, x11, x12, x13⟩ := AtB.cells14 A7
  obtain ⟨y0, y1, y2, y3, y4, y5, y6, y7, y8, y9, y10, y11, y12, y13⟩ := AtB.cells14 A8
  clear A7 A8
  have hq := HQ.out
  go_wp2
  go_ret
  exact ⟨rfl, B8.out⟩
set_option maxRecDepth 20000 in
set_option maxHeartbeats 8000000 in
theorem encodes_1 (src dst : Int) (hs : 0 ≤ src ∧ src ≤ 4294967295) (ht : 0 ≤ dst ∧ dst ≤ 4294967295) (ty co re sp dp : Int) (ns : Bool) (sq ak fl wi ur : Int) (os ds : List Int) (hf : (L4R.mk 1 ty co re sp dp ns sq ak fl wi ur os ds).Fine) (hos : os.length ≤ 140737488355328) (hok : (L4R.mk 1 ty co re sp dp ns sq ak fl wi ur os ds).ok = true) (w : World) :
    Calls Try.prog 4 #[.int .u32 src, .int .u32 dst, (L4R.mk 1 ty co re sp dp ns sq ak fl wi ur os ds).v] w fun e w' => e = .returned (.bool true) ∧ Below w.heap.size w w' := by
  have HE : Hid (∀ W, Calls Try.prog 10 #[.int .u32 src, .int .u32 dst, .agg #[.int .i64 1, .int .i64 ty, .int .i64 co, .int .u32 re, .int .i64 sp, .int .i64 dp, .bool ns, .int .u32 sq, .int .u32 ak, .int .i64 fl, .int .i64 wi, .int .i64 ur, .string (strOfNums os), .string (strOfNums ds)]] W fun e w' => ∃ g, e = .returned (.tuple #[.slice (some ⟨g, 0, none⟩) (L4R.mk 1 ty co re sp dp ns sq ak fl wi ur os ds).body.length (L4R.mk 1 ty co re sp dp ns sq ak fl wi ur os ds).body.length, .int .i64 0]) ∧ EncS W w' g (L4R.mk 1 ty co re sp dp ns sq ak fl wi ur os ds).body.length (L4R.mk 1 ty co re sp dp ns sq ak fl wi ur os ds).body.length ((L4R.mk 1 ty co re sp dp ns sq ak fl wi ur os ds).enc src dst)) := fun W => encode_ok (L4R.mk 1 ty co re sp dp ns sq ak fl wi ur os ds) hf hok src dst hs ht W
  have HF : Hid (∀ W, Calls Try.prog 11 #[.int .u32 src, .int .u32 dst, .agg #[.int .i64 1, .int .i64 ty, .int .i64 co, .int .u32 re, .int .i64 sp, .int .i64 dp, .bool ns, .int .u32 sq, .int .u32 ak, .int .i64 fl, .int .i64 wi, .int .i64 ur, .string (strOfNums os), .string (strOfNums ds)]] W fun e w' => ∃ a cap, e = .returned (.tuple #[.slice a (L4R.mk 1 ty co re sp dp ns sq ak fl wi ur os ds).body.length cap, .int .i64 0]) ∧ BS w' a (L4R.mk 1 ty co re sp dp ns sq ak fl wi ur os ds).body.length ((L4R.mk 1 ty co re sp dp ns sq ak fl wi ur os ds).enc src dst) ∧ Below W.heap.size W w') := fun W => renc_any (L4R.mk 1 ty co re sp dp ns sq ak fl wi ur os ds) hf hos hok src dst hs ht W
  have HD : Hid (∀ W g, BS W (some ⟨g, 0, none⟩) (L4R.mk 1 ty co re sp dp ns sq ak fl wi ur os ds).body.length ((L4R.mk 1 ty co re sp dp ns sq ak fl wi ur os ds).enc src dst) → Calls Try.prog 7 #[.int .u32 src, .int .u32 dst, .int .i64 1, .slice (some ⟨g, 0, none⟩) (L4R.mk 1 ty co re sp dp ns sq ak fl wi ur os ds).body.length (L4R.mk 1 ty co re sp dp ns sq ak fl wi ur os ds).body.length] W fun e w' => e = .returned (.tuple #[.agg #[.int .i64 1, .int .i64 ty, .int .i64 co, .int .u32 re, .int .i64 sp, .int .i64 dp, .bool ns, .int .u32 sq, .int .u32 ak, .int .i64 fl, .int .i64 wi, .int .i64 ur, .string (strOfNums os), .string (strOfNums ds)], .int .i64 0]) ∧ Below W.heap.size W w') := fun W g hB => by
    have := decode_any src dst 1 hs ht (some ⟨g, 0, none⟩) _ _ _ (Nat.le_refl _) (fun x e => ⟨g, 0, by cases e; rfl⟩) (fun e => by cases e) W hB
    have hd : decE src dst 1 ((L4R.mk 1 ty co re sp dp ns sq ak fl wi ur os ds).enc src dst) = 0 ∧ decR src dst 1 ((L4R.mk 1 ty co re sp dp ns sq ak fl wi ur os ds).enc src dst) = (L4R.mk 1 ty co re sp dp ns sq ak fl wi ur os ds) := dec_own hf hok src dst hs.1 ht.1
    rw [show kindV 1 = 1 from rfl, hd.1, hd.2] at this
    exact this
  have hq := fun W => eq14 1 ty co re sp dp ns sq ak fl wi ur (strOfNums os) (strOfNums ds) W
  have HQ : Hid _ := hq
  have HC : Hid (∀ W, Calls Try.prog 12 #[.agg #[.int .i64 1, .int .i64 ty, .int .i64 co, .int .u32 re, .int .i64 sp, .int .i64 dp, .bool ns, .int .u32 sq, .int .u32 ak, .int .i64 fl, .int .i64 wi, .int .i64 ur, .string (strOfNums os), .string (strOfNums ds)]] W fun e w' => e = .returned (.int .i64 0) ∧ Below W.heap.size W w') := fun W => by
    have := l4check_any 1 ty co re sp dp ns sq ak fl wi ur os ds W hf.room
    rw [show l4Ok 1 ty co re sp dp ns sq ak fl wi ur (strOfNums os) (strOfNums ds) = true from hok] at this
    exact this
  have HR : Hid (∀ W, Calls Try.prog 13 #[.agg #[.int .i64 1, .int .i64 ty, .int .i64 co, .int .u32 re, .int .i64 sp, .int .i64 dp, .bool ns, .int .u32 sq, .int .u32 ak, .int .i64 fl, .int .i64 wi, .int .i64 ur, .string (strOfNums os), .string (strOfNums ds)]] W fun e w' => e = .returned (.int .i64 0) ∧ Below W.heap.size W w') := fun W => by
    have := rl4check_any (L4R.mk 1 ty co re sp dp ns sq ak fl wi ur os ds) hf hos W
    rw [hok] at this
    exact this
  clear hs ht hf hok hos hq
  generalize (L4R.mk 1 ty co re sp dp ns sq ak fl wi ur os ds).body.length = N at *
  generalize (L4R.mk 1 ty co re sp dp ns sq ak fl wi ur os ds).enc src dst = E at *
  show Calls Try.prog 4 #[.int .u32 src, .int .u32 dst, .agg #[.int .i64 1, .int .i64 ty, .int .i64 co, .int .u32 re, .int .i64 sp, .int .i64 dp, .bool ns, .int .u32 sq, .int .u32 ak, .int .i64 fl, .int .i64 wi, .int .i64 ur, .string (strOfNums os), .string (strOfNums ds)]] w _
  go_enter Try.func4, Try.ntmps4
  go_wp2_with fail
  refine (HE.out _).mono ?_
  clear HE
  rintro e W1 ⟨g, rfl, e1⟩
  have b1 := e1.bel
  have A1 : Hid (AtB W1 w.heap.size #[.int .i64 1, .int .i64 ty, .int .i64 co, .int .u32 re, .int .i64 sp, .int .i64 dp, .bool ns, .int .u32 sq, .int .u32 ak, .int .i64 fl, .int .i64 wi, .int .i64 ur, .string (strOfNums os), .string (strOfNums ds)]) := AtB.below (atB_new w #[.int .i64 1, .int .i64 ty, .int .i64 co, .int .u32 re, .int .i64 sp, .int .i64 dp, .bool ns, .int .u32 sq, .int .u32 ak, .int .i64 fl, .int .i64 wi, .int .i64 ur, .string (strOfNums os), .string (strOfNums ds)] 25 _ rfl) b1
  have B1 : Hid (Below w.heap.size w W1) := (below1 w _).trans (b1.mono (by simp))
  have P1 : Hid (BS W1 (some ⟨g, 0, none⟩) N E) := e1.bs
  clear b1 e1
  obtain ⟨x0, x1, x2, x3, x4, x5, x6, x7, x8, x9, x10, x11, x12, x13⟩ := AtB.cells14 A1.out
  go_wp2_with fail
  clear x0 x1 x2 x3 x4 x5 x6 x7 x8 x9 x10 x11 x12 x13
  refine (HF.out _).mono ?_
  clear HF
  rintro e W2 ⟨a, cap, rfl, q2, b2⟩
  have A2 : Hid (AtB W2 w.heap.size #[.int .i64 1, .int .i64 ty, .int .i64 co, .int .u32 re, .int .i64 sp, .int .i64 dp, .bool ns, .int .u32 sq, .int .u32 ak, .int .i64 fl, .int .i64 wi, .int .i64 ur, .string (strOfNums os), .string (strOfNums ds)]) := AtB.below A1.out b2
  have B2 : Hid (Below w.heap.size w W2) := B1.out.trans (b2.mono B1.out.size)
  have P2 : Hid (BS W2 (some ⟨g, 0, none⟩) N E) := P1.out.below b2
  have Q2 : Hid (BS W2 a N E) := q2
  clear b2 A1 B1 P1 q2
  go_wp2_with fail
  refine wp_region_held_drew (S := (fun W => AtB W w.heap.size #[.int .i64 1, .int .i64 ty, .int .i64 co, .int .u32 re, .int .i64 sp, .int .i64 dp, .bool ns, .int .u32 sq, .int .u32 ak, .int .i64 fl, .int .i64 wi, .int .i64 ur, .string (strOfNums os), .string (strOfNums ds)] ∧ BS W (some ⟨g, 0, none⟩) N E ∧ BS W a N E)) (by kernel_rfl) ⟨A2.out, P2.out.drew, Q2.out.drew⟩ (fun hHeld => ?_)
  have A3 : Hid (AtB W2.drew w.heap.size #[.int .i64 1, .int .i64 ty, .int .i64 co, .int .u32 re, .int .i64 sp, .int .i64 dp, .bool ns, .int .u32 sq, .int .u32 ak, .int .i64 fl, .int .i64 wi, .int .i64 ur, .string (strOfNums os), .string (strOfNums ds)]) := A2.out
  have P3 : Hid (BS W2.drew (some ⟨g, 0, none⟩) N E) := P2.out.drew
  have Q3 : Hid (BS W2.drew a N E) := Q2.out.drew
  have B3 : Hid (Below w.heap.size w W2.drew) := B2.out.drew
  obtain ⟨W3, hW3⟩ : ∃ V, W2.drew = V := ⟨_, rfl⟩
  rw [hW3] at A3 P3 Q3 B3 hHeld ⊢
  clear hW3 A2 P2 Q2 B2
  refine wpAnyH_ready (rs := [0]) (by kernel_rfl) (by simp) ?_
  refine AllReadyH.cons (o := _) rfl (fun K hK => ?_) AllReadyH.nil
  go_simp
  refine (lives_any _).mono ?_
  rintro e W4 ⟨rfl, b4⟩
  have A4 : Hid (AtB W4 w.heap.size #[.int .i64 1, .int .i64 ty, .int .i64 co, .int .u32 re, .int .i64 sp, .int .i64 dp, .bool ns, .int .u32 sq, .int .u32 ak, .int .i64 fl, .int .i64 wi, .int .i64 ur, .string (strOfNums os), .string (strOfNums ds)]) := AtB.below A3.out b4
  have P4 : Hid (BS W4 (some ⟨g, 0, none⟩) N E) := P3.out.below b4
  have Q4 : Hid (BS W4 a N E) := Q3.out.below b4
  have B4 : Hid (Below w.heap.size w W4) := B3.out.trans (b4.mono B3.out.size)
  clear b4 A3 P3 Q3 B3 hHeld
  refine hK _ _ ⟨A4.out, P4.out, Q4.out⟩ (fun hHeld => ?_)
  try simp only [List.getElem_toArray, List.getElem_cons_zero, List.getElem_cons_succ, Act.put, List.setIfInBounds_toArray, List.set_cons_zero, List.set_cons_succ]
  refine wpAnyH_take (i := 1) (v := ?_) rfl (by kernel_rfl) (by kernel_rfl) (by kernel_rfl) (fun _ _ _ h => h) (Or.inl ⟨by rfl, ?_⟩) (by assumption) ?_
  rotate_left
  · (intro w hSw; (try dsimp only at hSw); go_simp; try with_reducible rfl)
  try simp only [List.getElem_toArray, List.getElem_cons_zero, List.getElem_cons_succ, Act.put, List.setIfInBounds_toArray, List.set_cons_zero, List.set_cons_succ]
  refine wpAnyH_take (i := 2) (v := ?_) rfl (by kernel_rfl) (by kernel_rfl) (by kernel_rfl) (fun _ _ _ h => h) (Or.inl ⟨by rfl, ?_⟩) (by assumption) ?_
  rotate_left
  · (intro w hSw; (try dsimp only at hSw); go_simp; try with_reducible rfl)
  try simp only [List.getElem_toArray, List.getElem_cons_zero, List.getElem_cons_succ, Act.put, List.setIfInBounds_toArray, List.set_cons_zero, List.set_cons_succ]
  refine wpAnyH_take (i := 3) (v := ?_) rfl (by kernel_rfl) (by kernel_rfl) (by kernel_rfl) (fun _ _ _ h => h) (Or.inl ⟨by rfl, ?_⟩) (by assumption) ?_
  rotate_left
  · (intro w hSw; (try dsimp only at hSw); go_simp; try with_reducible rfl)
  try simp only [List.getElem_toArray, List.getElem_cons_zero, List.getElem_cons_succ, Act.put, List.setIfInBounds_toArray, List.set_cons_zero, List.set_cons_succ]
  refine wpAnyH_take (i := 4) (v := .string (strOfNums E)) rfl (by kernel_rfl) (by kernel_rfl) (by kernel_rfl) (fun _ _ _ h => h) (Or.inl ⟨by rfl, fun W hW => by have cv := run_conv_bs (P := Try.prog) N hW.2.1 23 9 5 Try.underlying23 Try.underlying5 Try.underlying9; go_simp⟩) (by assumption) ?_
  try simp only [List.getElem_toArray, List.getElem_cons_zero, List.getElem_cons_succ, Act.put, List.setIfInBounds_toArray, List.set_cons_zero, List.set_cons_succ]
  refine wpAnyH_take (i := 5) (v := ?_) rfl (by kernel_rfl) (by kernel_rfl) (by kernel_rfl) (fun _ _ _ h => h) (Or.inl ⟨by rfl, ?_⟩) (by assumption) ?_
  rotate_left
  · (intro w hSw; (try dsimp only at hSw); go_simp; try with_reducible rfl)
  try simp only [List.getElem_toArray, List.getElem_cons_zero, List.getElem_cons_succ, Act.put, List.setIfInBounds_toArray, List.set_cons_zero, List.set_cons_succ]
  refine wpAnyH_take (i := 6) (v := .string (strOfNums E)) rfl (by kernel_rfl) (by kernel_rfl) (by kernel_rfl) (fun _ _ _ h => h) (Or.inl ⟨by rfl, fun W hW => by have cv := run_conv_bs (P := Try.prog) cap hW.2.2 23 9 5 Try.underlying23 Try.underlying5 Try.underlying9; go_simp⟩) (by assumption) ?_
  try simp only [List.getElem_toArray, List.getElem_cons_zero, List.getElem_cons_succ, Act.put, List.setIfInBounds_toArray, List.set_cons_zero, List.set_cons_succ]
  refine wpAnyH_take (i := 7) (v := ?_) rfl (by kernel_rfl) (by kernel_rfl) (by kernel_rfl) (fun _ _ _ h => h) (Or.inl ⟨by rfl, ?_⟩) (by assumption) ?_
  rotate_left
  · (intro w hSw; (try dsimp only at hSw); go_simp; try with_reducible rfl)
  try simp only [List.getElem_toArray, List.getElem_cons_zero, List.getElem_cons_succ, Act.put, List.setIfInBounds_toArray, List.set_cons_zero, List.set_cons_succ]
  refine wpAnyH_take (i := 8) (v := ?_) rfl (by kernel_rfl) (by kernel_rfl) (by kernel_rfl) (fun _ _ _ h => h) (Or.inl ⟨by rfl, ?_⟩) (by assumption) ?_
  rotate_left
  · (intro w hSw; (try dsimp only at hSw); go_simp; try with_reducible rfl)
  try simp only [List.getElem_toArray, List.getElem_cons_zero, List.getElem_cons_succ, Act.put, List.setIfInBounds_toArray, List.set_cons_zero, List.set_cons_succ]
  refine wpAnyH_take (i := 9) (v := ?_) rfl (by kernel_rfl) (by kernel_rfl) (by kernel_rfl) (fun _ _ _ h => h) (Or.inl ⟨by rfl, ?_⟩) (by assumption) ?_
  rotate_left
  · (intro w hSw; (try dsimp only at hSw); go_simp; try with_reducible rfl)
  try simp only [List.getElem_toArray, List.getElem_cons_zero, List.getElem_cons_succ, Act.put, List.setIfInBounds_toArray, List.set_cons_zero, List.set_cons_succ]
  refine wpAnyH_take (i := 10) (v := ?_) rfl (by kernel_rfl) (by kernel_rfl) (by kernel_rfl) (fun _ _ _ h => h) (Or.inl ⟨by rfl, ?_⟩) (by assumption) ?_
  rotate_left
  · (intro w hSw; (try dsimp only at hSw); go_simp; try with_reducible rfl)
  try simp only [List.getElem_toArray, List.getElem_cons_zero, List.getElem_cons_succ, Act.put, List.setIfInBounds_toArray, List.set_cons_zero, List.set_cons_succ]
  refine wpAnyH_take (i := 11) (v := ?_) rfl (by kernel_rfl) (by kernel_rfl) (by kernel_rfl) (fun _ _ _ h => h) (Or.inl ⟨by rfl, ?_⟩) (by assumption) ?_
  rotate_left
  · (intro w hSw; (try dsimp only at hSw); go_simp; try with_reducible rfl)
  try simp only [List.getElem_toArray, List.getElem_cons_zero, List.getElem_cons_succ, Act.put, List.setIfInBounds_toArray, List.set_cons_zero, List.set_cons_succ]
  refine wpAnyH_take (i := 12) (v := ?_) rfl (by kernel_rfl) (by kernel_rfl) (by kernel_rfl) (fun _ _ _ h => h) (Or.inl ⟨by rfl, ?_⟩) (by assumption) ?_
  rotate_left
  · (intro w hSw; (try dsimp only at hSw); go_simp; try with_reducible rfl)
  try simp only [List.getElem_toArray, List.getElem_cons_zero, List.getElem_cons_succ, Act.put, List.setIfInBounds_toArray, List.set_cons_zero, List.set_cons_succ]
  refine wpAnyH_take (i := 13) (v := ?_) rfl (by kernel_rfl) (by kernel_rfl) (by kernel_rfl) (fun _ _ _ h => h) (Or.inl ⟨by rfl, ?_⟩) (by assumption) ?_
  rotate_left
  · (intro w hSw; (try dsimp only at hSw); go_simp; try with_reducible rfl)
  try simp only [List.getElem_toArray, List.getElem_cons_zero, List.getElem_cons_succ, Act.put, List.setIfInBounds_toArray, List.set_cons_zero, List.set_cons_succ]
  refine wpAnyH_take (i := 14) (v := ?_) rfl (by kernel_rfl) (by kernel_rfl) (by kernel_rfl) (fun _ _ _ h => h) (Or.inl ⟨by rfl, ?_⟩) (by assumption) ?_
  rotate_left
  · (intro w hSw; (try dsimp only at hSw); go_simp; try with_reducible rfl)
  try simp only [List.getElem_toArray, List.getElem_cons_zero, List.getElem_cons_succ, Act.put, List.setIfInBounds_toArray, List.set_cons_zero, List.set_cons_succ]
  refine wpAnyH_take (i := 15) (v := .agg #[.int .i64 1, .int .i64 ty, .int .i64 co, .int .u32 re, .int .i64 sp, .int .i64 dp, .bool ns, .int .u32 sq, .int .u32 ak, .int .i64 fl, .int .i64 wi, .int .i64 ur, .string (strOfNums os), .string (strOfNums ds)]) rfl (by kernel_rfl) (by kernel_rfl) (by kernel_rfl) (fun _ _ _ h => h) (Or.inl ⟨by rfl, fun W hW => by obtain ⟨x0, x1, x2, x3, x4, x5, x6, x7, x8, x9, x10, x11, x12, x13⟩ := AtB.cells14 hW.1; go_simp⟩) (by assumption) ?_
  try simp only [List.getElem_toArray, List.getElem_cons_zero, List.getElem_cons_succ, Act.put, List.setIfInBounds_toArray, List.set_cons_zero, List.set_cons_succ]
  refine wpAnyH_take (i := 17) (v := .agg #[.int .i64 1, .int .i64 ty, .int .i64 co, .int .u32 re, .int .i64 sp, .int .i64 dp, .bool ns, .int .u32 sq, .int .u32 ak, .int .i64 fl, .int .i64 wi, .int .i64 ur, .string (strOfNums os), .string (strOfNums ds)]) rfl (by kernel_rfl) (by kernel_rfl) (by kernel_rfl) (fun _ _ _ h => h) (Or.inl ⟨by rfl, fun W hW => by obtain ⟨x0, x1, x2, x3, x4, x5, x6, x7, x8, x9, x10, x11, x12, x13⟩ := AtB.cells14 hW.1; go_simp⟩) (by assumption) ?_
  try simp only [List.getElem_toArray, List.getElem_cons_zero, List.getElem_cons_succ, Act.put, List.setIfInBounds_toArray, List.set_cons_zero, List.set_cons_succ]
  refine wpAnyH_ready (rs := [16]) (by kernel_rfl) (by simp) ?_
  refine AllReadyH.cons (o := _) rfl (fun K hK => ?_) AllReadyH.nil
  go_simp
  refine (HC.out _).mono ?_
  clear HC
  rintro e W5 ⟨rfl, b5⟩
  have A5 : Hid (AtB W5 w.heap.size #[.int .i64 1, .int .i64 ty, .int .i64 co, .int .u32 re, .int .i64 sp, .int .i64 dp, .bool ns, .int .u32 sq, .int .u32 ak, .int .i64 fl, .int .i64 wi, .int .i64 ur, .string (strOfNums os), .string (strOfNums ds)]) := AtB.below A4.out b5
  have P5 : Hid (BS W5 (some ⟨g, 0, none⟩) N E) := P4.out.below b5
  have Q5 : Hid (BS W5 a N E) := Q4.out.below b5
  have B5 : Hid (Below w.heap.size w W5) := B4.out.trans (b5.mono B4.out.size)
  clear b5 A4 P4 Q4 B4 hHeld
  refine hK _ _ ⟨A5.out, P5.out, Q5.out⟩ (fun hHeld => ?_)
  try simp only [List.getElem_toArray, List.getElem_cons_zero, List.getElem_cons_succ, Act.put, List.setIfInBounds_toArray, List.set_cons_zero, List.set_cons_succ]
  refine wpAnyH_ready (rs := [18]) (by kernel_rfl) (by simp) ?_
  refine AllReadyH.cons (o := _) rfl (fun K hK => ?_) AllReadyH.nil
  go_simp
  refine (HR.out _).mono ?_
  clear HR
  rintro e W6 ⟨rfl, b6⟩
  have A6 : Hid (AtB W6 w.heap.size #[.int .i64 1, .int .i64 ty, .int .i64 co, .int .u32 re, .int .i64 sp, .int .i64 dp, .bool ns, .int .u32 sq, .int .u32 ak, .int .i64 fl, .int .i64 wi, .int .i64 ur, .string (strOfNums os), .string (strOfNums ds)]) := AtB.below A5.out b6
  have P6 : Hid (BS W6 (some ⟨g, 0, none⟩) N E) := P5.out.below b6
  have Q6 : Hid (BS W6 a N E) := Q5.out.below b6
  have B6 : Hid (Below w.heap.size w W6) := B5.out.trans (b6.mono B5.out.size)
  clear b6 A5 P5 Q5 B5 hHeld
  refine hK _ _ ⟨A6.out, P6.out, Q6.out⟩ (fun hHeld => ?_)
  try simp only [List.getElem_toArray, List.getElem_cons_zero, List.getElem_cons_succ, Act.put, List.setIfInBounds_toArray, List.set_cons_zero, List.set_cons_succ]
  refine wpAnyH_take (i := 19) (v := ?_) rfl (by kernel_rfl) (by kernel_rfl) (by kernel_rfl) (fun _ _ _ h => h) (Or.inl ⟨by rfl, ?_⟩) (by assumption) ?_
  rotate_left
  · (intro w hSw; (try dsimp only at hSw); go_simp; try with_reducible rfl)
  try simp only [List.getElem_toArray, List.getElem_cons_zero, List.getElem_cons_succ, Act.put, List.setIfInBounds_toArray, List.set_cons_zero, List.set_cons_succ]
  refine wpAnyH_take (i := 20) (v := ?_) rfl (by kernel_rfl) (by kernel_rfl) (by kernel_rfl) (fun _ _ _ h => h) (Or.inl ⟨by rfl, ?_⟩) (by assumption) ?_
  rotate_left
  · (intro w hSw; (try dsimp only at hSw); go_simp; try with_reducible rfl)
  try simp only [List.getElem_toArray, List.getElem_cons_zero, List.getElem_cons_succ, Act.put, List.setIfInBounds_toArray, List.set_cons_zero, List.set_cons_succ]
  refine wpAnyH_done (by kernel_rfl) ?_ _
  clear hHeld
  try simp only [List.getElem_toArray, List.getElem_cons_zero, List.getElem_cons_succ, Act.put, List.setIfInBounds_toArray, List.set_cons_zero, List.set_cons_succ]
  obtain ⟨x0, x1, x2, x3, x4, x5, x6, x7, x8, x9, x10, x11, x12, x13⟩ := AtB.cells14 A6.out
  go_wp2_with fail
  refine (proto_any _ _).mono ?_
  rintro e w' ⟨rfl, hw'⟩
  rw [hw', show protoV 1 = .tuple #[.int .i64 1, .bool true] from rfl]
  clear hw'
  go_wp2_with fail
  clear x0 x1 x2 x3 x4 x5 x6 x7 x8 x9 x10 x11 x12 x13
  refine (HD.out _ g P6.out).mono ?_
  clear HD
  rintro e W7 ⟨rfl, b7⟩
  have A7 := AtB.below (AtB.below A6.out b7) (below1 W7 (.cells #[.int .i64 1, .int .i64 ty, .int .i64 co, .int .u32 re, .int .i64 sp, .int .i64 dp, .bool ns, .int .u32 sq, .int .u32 ak, .int .i64 fl, .int .i64 wi, .int .i64 ur, .string (strOfNums os), .string (strOfNums ds)] 25))
  have A8 := atB_new W7 #[.int .i64 1, .int .i64 ty, .int .i64 co, .int .u32 re, .int .i64 sp, .int .i64 dp, .bool ns, .int .u32 sq, .int .u32 ak, .int .i64 fl, .int .i64 wi, .int .i64 ur, .string (strOfNums os), .string (strOfNums ds)] 25 _ rfl
  have B7 : Hid (Below w.heap.size w W7) := B6.out.trans (b7.mono B6.out.size)
  have B8 : Hid (Below w.heap.size w (W7.alloc (.cells #[.int .i64 1, .int .i64 ty, .int .i64 co, .int .u32 re, .int .i64 sp, .int .i64 dp, .bool ns, .int .u32 sq, .int .u32 ak, .int .i64 fl, .int .i64 wi, .int .i64 ur, .string (strOfNums os), .string (strOfNums ds)] 25))) := B7.out.alloc B7.out.size _
  clear b7 A6 P6 Q6 B6 B7
  obtain ⟨x0, x1, x2, x3, x4, x5, x6, x7, x8, x9, x10, x11, x12, x13⟩ := AtB.cells14 A7
  obtain ⟨y0, y1, y2, y3, y4, y5, y6, y7, y8, y9, y10, y11, y12, y13⟩ := AtB.cells14 A8
  clear A7 A8
  have hq := HQ.out
  go_wp2
  go_ret
  exact ⟨rfl, B8.out⟩
set_option maxRecDepth 20000 in
set_option maxHeartbeats 8000000 in
theorem encodes_2 (src dst : Int) (hs : 0 ≤ src ∧ src ≤ 4294967295) (ht : 0 ≤ dst ∧ dst ≤ 4294967295) (ty co re sp dp : Int) (ns : Bool) (sq ak fl wi ur : Int) (os ds : List Int) (hf : (L4R.mk 2 ty co re sp dp ns sq ak fl wi ur os ds).Fine) (hos : os.length ≤ 140737488355328) (hok : (L4R.mk 2 ty co re sp dp ns sq ak fl wi ur os ds).ok = true) (w : World) :
    Calls Try.prog 4 #[.int .u32 src, .int .u32 dst, (L4R.mk 2 ty co re sp dp ns sq ak fl wi ur os ds).v] w fun e w' => e = .returned (.bool true) ∧ Below w.heap.size w w' := by
  have HE : Hid (∀ W, Calls Try.prog 10 #[.int .u32 src, .int .u32 dst, .agg #[.int .i64 2, .int .i64 ty, .int .i64 co, .int .u32 re, .int .i64 sp, .int .i64 dp, .bool ns, .int .u32 sq, .int .u32 ak, .int .i64 fl, .int .i64 wi, .int .i64 ur, .string (strOfNums os), .string (strOfNums ds)]] W fun e w' => ∃ g, e = .returned (.tuple #[.slice (some ⟨g, 0, none⟩) (L4R.mk 2 ty co re sp dp ns sq ak fl wi ur os ds).body.length (L4R.mk 2 ty co re sp dp ns sq ak fl wi ur os ds).body.length, .int .i64 0]) ∧ EncS W w' g (L4R.mk 2 ty co re sp dp ns sq ak fl wi ur os ds).body.length (L4R.mk 2 ty co re sp dp ns sq ak fl wi ur os ds).body.length ((L4R.mk 2 ty co re sp dp ns sq ak fl wi ur os ds).enc src dst)) := fun W => encode_ok (L4R.mk 2 ty co re sp dp ns sq ak fl wi ur os ds) hf hok src dst hs ht W
  have HF : Hid (∀ W, Calls Try.prog 11 #[.int .u32 src, .int .u32 dst, .agg #[.int .i64 2, .int .i64 ty, .int .i64 co, .int .u32 re, .int .i64 sp, .int .i64 dp, .bool ns, .int .u32 sq, .int .u32 ak, .int .i64 fl, .int .i64 wi, .int .i64 ur, .string (strOfNums os), .string (strOfNums ds)]] W fun e w' => ∃ a cap, e = .returned (.tuple #[.slice a (L4R.mk 2 ty co re sp dp ns sq ak fl wi ur os ds).body.length cap, .int .i64 0]) ∧ BS w' a (L4R.mk 2 ty co re sp dp ns sq ak fl wi ur os ds).body.length ((L4R.mk 2 ty co re sp dp ns sq ak fl wi ur os ds).enc src dst) ∧ Below W.heap.size W w') := fun W => renc_any (L4R.mk 2 ty co re sp dp ns sq ak fl wi ur os ds) hf hos hok src dst hs ht W
  have HD : Hid (∀ W g, BS W (some ⟨g, 0, none⟩) (L4R.mk 2 ty co re sp dp ns sq ak fl wi ur os ds).body.length ((L4R.mk 2 ty co re sp dp ns sq ak fl wi ur os ds).enc src dst) → Calls Try.prog 7 #[.int .u32 src, .int .u32 dst, .int .i64 17, .slice (some ⟨g, 0, none⟩) (L4R.mk 2 ty co re sp dp ns sq ak fl wi ur os ds).body.length (L4R.mk 2 ty co re sp dp ns sq ak fl wi ur os ds).body.length] W fun e w' => e = .returned (.tuple #[.agg #[.int .i64 2, .int .i64 ty, .int .i64 co, .int .u32 re, .int .i64 sp, .int .i64 dp, .bool ns, .int .u32 sq, .int .u32 ak, .int .i64 fl, .int .i64 wi, .int .i64 ur, .string (strOfNums os), .string (strOfNums ds)], .int .i64 0]) ∧ Below W.heap.size W w') := fun W g hB => by
    have := decode_any src dst 17 hs ht (some ⟨g, 0, none⟩) _ _ _ (Nat.le_refl _) (fun x e => ⟨g, 0, by cases e; rfl⟩) (fun e => by cases e) W hB
    have hd : decE src dst 2 ((L4R.mk 2 ty co re sp dp ns sq ak fl wi ur os ds).enc src dst) = 0 ∧ decR src dst 2 ((L4R.mk 2 ty co re sp dp ns sq ak fl wi ur os ds).enc src dst) = (L4R.mk 2 ty co re sp dp ns sq ak fl wi ur os ds) := dec_own hf hok src dst hs.1 ht.1
    rw [show kindV 17 = 2 from rfl, hd.1, hd.2] at this
    exact this
  have hq := fun W => eq14 2 ty co re sp dp ns sq ak fl wi ur (strOfNums os) (strOfNums ds) W
  have HQ : Hid _ := hq
  have HC : Hid (∀ W, Calls Try.prog 12 #[.agg #[.int .i64 2, .int .i64 ty, .int .i64 co, .int .u32 re, .int .i64 sp, .int .i64 dp, .bool ns, .int .u32 sq, .int .u32 ak, .int .i64 fl, .int .i64 wi, .int .i64 ur, .string (strOfNums os), .string (strOfNums ds)]] W fun e w' => e = .returned (.int .i64 0) ∧ Below W.heap.size W w') := fun W => by
    have := l4check_any 2 ty co re sp dp ns sq ak fl wi ur os ds W hf.room
    rw [show l4Ok 2 ty co re sp dp ns sq ak fl wi ur (strOfNums os) (strOfNums ds) = true from hok] at this
    exact this
  have HR : Hid (∀ W, Calls Try.prog 13 #[.agg #[.int .i64 2, .int .i64 ty, .int .i64 co, .int .u32 re, .int .i64 sp, .int .i64 dp, .bool ns, .int .u32 sq, .int .u32 ak, .int .i64 fl, .int .i64 wi, .int .i64 ur, .string (strOfNums os), .string (strOfNums ds)]] W fun e w' => e = .returned (.int .i64 0) ∧ Below W.heap.size W w') := fun W => by
    have := rl4check_any (L4R.mk 2 ty co re sp dp ns sq ak fl wi ur os ds) hf hos W
    rw [hok] at this
    exact this
  clear hs ht hf hok hos hq
  generalize (L4R.mk 2 ty co re sp dp ns sq ak fl wi ur os ds).body.length = N at *
  generalize (L4R.mk 2 ty co re sp dp ns sq ak fl wi ur os ds).enc src dst = E at *
  show Calls Try.prog 4 #[.int .u32 src, .int .u32 dst, .agg #[.int .i64 2, .int .i64 ty, .int .i64 co, .int .u32 re, .int .i64 sp, .int .i64 dp, .bool ns, .int .u32 sq, .int .u32 ak, .int .i64 fl, .int .i64 wi, .int .i64 ur, .string (strOfNums os), .string (strOfNums ds)]] w _
  go_enter Try.func4, Try.ntmps4
  go_wp2_with fail
  refine (HE.out _).mono ?_
  clear HE
  rintro e W1 ⟨g, rfl, e1⟩
  have b1 := e1.bel
  have A1 : Hid (AtB W1 w.heap.size #[.int .i64 2, .int .i64 ty, .int .i64 co, .int .u32 re, .int .i64 sp, .int .i64 dp, .bool ns, .int .u32 sq, .int .u32 ak, .int .i64 fl, .int .i64 wi, .int .i64 ur, .string (strOfNums os), .string (strOfNums ds)]) := AtB.below (atB_new w #[.int .i64 2, .int .i64 ty, .int .i64 co, .int .u32 re, .int .i64 sp, .int .i64 dp, .bool ns, .int .u32 sq, .int .u32 ak, .int .i64 fl, .int .i64 wi, .int .i64 ur, .string (strOfNums os), .string (strOfNums ds)] 25 _ rfl) b1
  have B1 : Hid (Below w.heap.size w W1) := (below1 w _).trans (b1.mono (by simp))
  have P1 : Hid (BS W1 (some ⟨g, 0, none⟩) N E) := e1.bs
  clear b1 e1
  obtain ⟨x0, x1, x2, x3, x4, x5, x6, x7, x8, x9, x10, x11, x12, x13⟩ := AtB.cells14 A1.out
  go_wp2_with fail
  clear x0 x1 x2 x3 x4 x5 x6 x7 x8 x9 x10 x11 x12 x13
  refine (HF.out _).mono ?_
  clear HF
  rintro e W2 ⟨a, cap, rfl, q2, b2⟩
  have A2 : Hid (AtB W2 w.heap.size #[.int .i64 2, .int .i64 ty, .int .i64 co, .int .u32 re, .int .i64 sp, .int .i64 dp, .bool ns, .int .u32 sq, .int .u32 ak, .int .i64 fl, .int .i64 wi, .int .i64 ur, .string (strOfNums os), .string (strOfNums ds)]) := AtB.below A1.out b2
  have B2 : Hid (Below w.heap.size w W2) := B1.out.trans (b2.mono B1.out.size)
  have P2 : Hid (BS W2 (some ⟨g, 0, none⟩) N E) := P1.out.below b2
  have Q2 : Hid (BS W2 a N E) := q2
  clear b2 A1 B1 P1 q2
  go_wp2_with fail
  refine wp_region_held_drew (S := (fun W => AtB W w.heap.size #[.int .i64 2, .int .i64 ty, .int .i64 co, .int .u32 re, .int .i64 sp, .int .i64 dp, .bool ns, .int .u32 sq, .int .u32 ak, .int .i64 fl, .int .i64 wi, .int .i64 ur, .string (strOfNums os), .string (strOfNums ds)] ∧ BS W (some ⟨g, 0, none⟩) N E ∧ BS W a N E)) (by kernel_rfl) ⟨A2.out, P2.out.drew, Q2.out.drew⟩ (fun hHeld => ?_)
  have A3 : Hid (AtB W2.drew w.heap.size #[.int .i64 2, .int .i64 ty, .int .i64 co, .int .u32 re, .int .i64 sp, .int .i64 dp, .bool ns, .int .u32 sq, .int .u32 ak, .int .i64 fl, .int .i64 wi, .int .i64 ur, .string (strOfNums os), .string (strOfNums ds)]) := A2.out
  have P3 : Hid (BS W2.drew (some ⟨g, 0, none⟩) N E) := P2.out.drew
  have Q3 : Hid (BS W2.drew a N E) := Q2.out.drew
  have B3 : Hid (Below w.heap.size w W2.drew) := B2.out.drew
  obtain ⟨W3, hW3⟩ : ∃ V, W2.drew = V := ⟨_, rfl⟩
  rw [hW3] at A3 P3 Q3 B3 hHeld ⊢
  clear hW3 A2 P2 Q2 B2
  refine wpAnyH_ready (rs := [0]) (by kernel_rfl) (by simp) ?_
  refine AllReadyH.cons (o := _) rfl (fun K hK => ?_) AllReadyH.nil
  go_simp
  refine (lives_any _).mono ?_
  rintro e W4 ⟨rfl, b4⟩
  have A4 : Hid (AtB W4 w.heap.size #[.int .i64 2, .int .i64 ty, .int .i64 co, .int .u32 re, .int .i64 sp, .int .i64 dp, .bool ns, .int .u32 sq, .int .u32 ak, .int .i64 fl, .int .i64 wi, .int .i64 ur, .string (strOfNums os), .string (strOfNums ds)]) := AtB.below A3.out b4
  have P4 : Hid (BS W4 (some ⟨g, 0, none⟩) N E) := P3.out.below b4
  have Q4 : Hid (BS W4 a N E) := Q3.out.below b4
  have B4 : Hid (Below w.heap.size w W4) := B3.out.trans (b4.mono B3.out.size)
  clear b4 A3 P3 Q3 B3 hHeld
  refine hK _ _ ⟨A4.out, P4.out, Q4.out⟩ (fun hHeld => ?_)
  try simp only [List.getElem_toArray, List.getElem_cons_zero, List.getElem_cons_succ, Act.put, List.setIfInBounds_toArray, List.set_cons_zero, List.set_cons_succ]
  refine wpAnyH_take (i := 1) (v := ?_) rfl (by kernel_rfl) (by kernel_rfl) (by kernel_rfl) (fun _ _ _ h => h) (Or.inl ⟨by rfl, ?_⟩) (by assumption) ?_
  rotate_left
  · (intro w hSw; (try dsimp only at hSw); go_simp; try with_reducible rfl)
  try simp only [List.getElem_toArray, List.getElem_cons_zero, List.getElem_cons_succ, Act.put, List.setIfInBounds_toArray, List.set_cons_zero, List.set_cons_succ]
  refine wpAnyH_take (i := 2) (v := ?_) rfl (by kernel_rfl) (by kernel_rfl) (by kernel_rfl) (fun _ _ _ h => h) (Or.inl ⟨by rfl, ?_⟩) (by assumption) ?_
  rotate_left
  · (intro w hSw; (try dsimp only at hSw); go_simp; try with_reducible rfl)
  try simp only [List.getElem_toArray, List.getElem_cons_zero, List.getElem_cons_succ, Act.put, List.setIfInBounds_toArray, List.set_cons_zero, List.set_cons_succ]
  refine wpAnyH_take (i := 3) (v := ?_) rfl (by kernel_rfl) (by kernel_rfl) (by kernel_rfl) (fun _ _ _ h => h) (Or.inl ⟨by rfl, ?_⟩) (by assumption) ?_
  rotate_left
  · (intro w hSw; (try dsimp only at hSw); go_simp; try with_reducible rfl)
  try simp only [List.getElem_toArray, List.getElem_cons_zero, List.getElem_cons_succ, Act.put, List.setIfInBounds_toArray, List.set_cons_zero, List.set_cons_succ]
  refine wpAnyH_take (i := 4) (v := .string (strOfNums E)) rfl (by kernel_rfl) (by kernel_rfl) (by kernel_rfl) (fun _ _ _ h => h) (Or.inl ⟨by rfl, fun W hW => by have cv := run_conv_bs (P := Try.prog) N hW.2.1 23 9 5 Try.underlying23 Try.underlying5 Try.underlying9; go_simp⟩) (by assumption) ?_
  try simp only [List.getElem_toArray, List.getElem_cons_zero, List.getElem_cons_succ, Act.put, List.setIfInBounds_toArray, List.set_cons_zero, List.set_cons_succ]
  refine wpAnyH_take (i := 5) (v := ?_) rfl (by kernel_rfl) (by kernel_rfl) (by kernel_rfl) (fun _ _ _ h => h) (Or.inl ⟨by rfl, ?_⟩) (by assumption) ?_
  rotate_left
  · (intro w hSw; (try dsimp only at hSw); go_simp; try with_reducible rfl)
  try simp only [List.getElem_toArray, List.getElem_cons_zero, List.getElem_cons_succ, Act.put, List.setIfInBounds_toArray, List.set_cons_zero, List.set_cons_succ]
  refine wpAnyH_take (i := 6) (v := .string (strOfNums E)) rfl (by kernel_rfl) (by kernel_rfl) (by kernel_rfl) (fun _ _ _ h => h) (Or.inl ⟨by rfl, fun W hW => by have cv := run_conv_bs (P := Try.prog) cap hW.2.2 23 9 5 Try.underlying23 Try.underlying5 Try.underlying9; go_simp⟩) (by assumption) ?_
  try simp only [List.getElem_toArray, List.getElem_cons_zero, List.getElem_cons_succ, Act.put, List.setIfInBounds_toArray, List.set_cons_zero, List.set_cons_succ]
  refine wpAnyH_take (i := 7) (v := ?_) rfl (by kernel_rfl) (by kernel_rfl) (by kernel_rfl) (fun _ _ _ h => h) (Or.inl ⟨by rfl, ?_⟩) (by assumption) ?_
  rotate_left
  · (intro w hSw; (try dsimp only at hSw); go_simp; try with_reducible rfl)
  try simp only [List.getElem_toArray, List.getElem_cons_zero, List.getElem_cons_succ, Act.put, List.setIfInBounds_toArray, List.set_cons_zero, List.set_cons_succ]
  refine wpAnyH_take (i := 8) (v := ?_) rfl (by kernel_rfl) (by kernel_rfl) (by kernel_rfl) (fun _ _ _ h => h) (Or.inl ⟨by rfl, ?_⟩) (by assumption) ?_
  rotate_left
  · (intro w hSw; (try dsimp only at hSw); go_simp; try with_reducible rfl)
  try simp only [List.getElem_toArray, List.getElem_cons_zero, List.getElem_cons_succ, Act.put, List.setIfInBounds_toArray, List.set_cons_zero, List.set_cons_succ]
  refine wpAnyH_take (i := 9) (v := ?_) rfl (by kernel_rfl) (by kernel_rfl) (by kernel_rfl) (fun _ _ _ h => h) (Or.inl ⟨by rfl, ?_⟩) (by assumption) ?_
  rotate_left
  · (intro w hSw; (try dsimp only at hSw); go_simp; try with_reducible rfl)
  try simp only [List.getElem_toArray, List.getElem_cons_zero, List.getElem_cons_succ, Act.put, List.setIfInBounds_toArray, List.set_cons_zero, List.set_cons_succ]
  refine wpAnyH_take (i := 10) (v := ?_) rfl (by kernel_rfl) (by kernel_rfl) (by kernel_rfl) (fun _ _ _ h => h) (Or.inl ⟨by rfl, ?_⟩) (by assumption) ?_
  rotate_left
  · (intro w hSw; (try dsimp only at hSw); go_simp; try with_reducible rfl)
  try simp only [List.getElem_toArray, List.getElem_cons_zero, List.getElem_cons_succ, Act.put, List.setIfInBounds_toArray, List.set_cons_zero, List.set_cons_succ]
  refine wpAnyH_take (i := 11) (v := ?_) rfl (by kernel_rfl) (by kernel_rfl) (by kernel_rfl) (fun _ _ _ h => h) (Or.inl ⟨by rfl, ?_⟩) (by assumption) ?_
  rotate_left
  · (intro w hSw; (try dsimp only at hSw); go_simp; try with_reducible rfl)
  try simp only [List.getElem_toArray, List.getElem_cons_zero, List.getElem_cons_succ, Act.put, List.setIfInBounds_toArray, List.set_cons_zero, List.set_cons_succ]
  refine wpAnyH_take (i := 12) (v := ?_) rfl (by kernel_rfl) (by kernel_rfl) (by kernel_rfl) (fun _ _ _ h => h) (Or.inl ⟨by rfl, ?_⟩) (by assumption) ?_
  rotate_left
  · (intro w hSw; (try dsimp only at hSw); go_simp; try with_reducible rfl)
  try simp only [List.getElem_toArray, List.getElem_cons_zero, List.getElem_cons_succ, Act.put, List.setIfInBounds_toArray, List.set_cons_zero, List.set_cons_succ]
  refine wpAnyH_take (i := 13) (v := ?_) rfl (by kernel_rfl) (by kernel_rfl) (by kernel_rfl) (fun _ _ _ h => h) (Or.inl ⟨by rfl, ?_⟩) (by assumption) ?_
  rotate_left
  · (intro w hSw; (try dsimp only at hSw); go_simp; try with_reducible rfl)
  try simp only [List.getElem_toArray, List.getElem_cons_zero, List.getElem_cons_succ, Act.put, List.setIfInBounds_toArray, List.set_cons_zero, List.set_cons_succ]
  refine wpAnyH_take (i := 14) (v := ?_) rfl (by kernel_rfl) (by kernel_rfl) (by kernel_rfl) (fun _ _ _ h => h) (Or.inl ⟨by rfl, ?_⟩) (by assumption) ?_
  rotate_left
  · (intro w hSw; (try dsimp only at hSw); go_simp; try with_reducible rfl)
  try simp only [List.getElem_toArray, List.getElem_cons_zero, List.getElem_cons_succ, Act.put, List.setIfInBounds_toArray, List.set_cons_zero, List.set_cons_succ]
  refine wpAnyH_take (i := 15) (v := .agg #[.int .i64 2, .int .i64 ty, .int .i64 co, .int .u32 re, .int .i64 sp, .int .i64 dp, .bool ns, .int .u32 sq, .int .u32 ak, .int .i64 fl, .int .i64 wi, .int .i64 ur, .string (strOfNums os), .string (strOfNums ds)]) rfl (by kernel_rfl) (by kernel_rfl) (by kernel_rfl) (fun _ _ _ h => h) (Or.inl ⟨by rfl, fun W hW => by obtain ⟨x0, x1, x2, x3, x4, x5, x6, x7, x8, x9, x10, x11, x12, x13⟩ := AtB.cells14 hW.1; go_simp⟩) (by assumption) ?_
  try simp only [List.getElem_toArray, List.getElem_cons_zero, List.getElem_cons_succ, Act.put, List.setIfInBounds_toArray, List.set_cons_zero, List.set_cons_succ]
  refine wpAnyH_take (i := 17) (v := .agg #[.int .i64 2, .int .i64 ty, .int .i64 co, .int .u32 re, .int .i64 sp, .int .i64 dp, .bool ns, .int .u32 sq, .int .u32 ak, .int .i64 fl, .int .i64 wi, .int .i64 ur, .string (strOfNums os), .string (strOfNums ds)]) rfl (by kernel_rfl) (by kernel_rfl) (by kernel_rfl) (fun _ _ _ h => h) (Or.inl ⟨by rfl, fun W hW => by obtain ⟨x0, x1, x2, x3, x4, x5, x6, x7, x8, x9, x10, x11, x12, x13⟩ := AtB.cells14 hW.1; go_simp⟩) (by assumption) ?_
  try simp only [List.getElem_toArray, List.getElem_cons_zero, List.getElem_cons_succ, Act.put, List.setIfInBounds_toArray, List.set_cons_zero, List.set_cons_succ]
  refine wpAnyH_ready (rs := [16]) (by kernel_rfl) (by simp) ?_
  refine AllReadyH.cons (o := _) rfl (fun K hK => ?_) AllReadyH.nil
  go_simp
  refine (HC.out _).mono ?_
  clear HC
  rintro e W5 ⟨rfl, b5⟩
  have A5 : Hid (AtB W5 w.heap.size #[.int .i64 2, .int .i64 ty, .int .i64 co, .int .u32 re, .int .i64 sp, .int .i64 dp, .bool ns, .int .u32 sq, .int .u32 ak, .int .i64 fl, .int .i64 wi, .int .i64 ur, .string (strOfNums os), .string (strOfNums ds)]) := AtB.below A4.out b5
  have P5 : Hid (BS W5 (some ⟨g, 0, none⟩) N E) := P4.out.below b5
  have Q5 : Hid (BS W5 a N E) := Q4.out.below b5
  have B5 : Hid (Below w.heap.size w W5) := B4.out.trans (b5.mono B4.out.size)
  clear b5 A4 P4 Q4 B4 hHeld
  refine hK _ _ ⟨A5.out, P5.out, Q5.out⟩ (fun hHeld => ?_)
  try simp only [List.getElem_toArray, List.getElem_cons_zero, List.getElem_cons_succ, Act.put, List.setIfInBounds_toArray, List.set_cons_zero, List.set_cons_succ]
  refine wpAnyH_ready (rs := [18]) (by kernel_rfl) (by simp) ?_
  refine AllReadyH.cons (o := _) rfl (fun K hK => ?_) AllReadyH.nil
  go_simp
  refine (HR.out _).mono ?_
  clear HR
  rintro e W6 ⟨rfl, b6⟩
  have A6 : Hid (AtB W6 w.heap.size #[.int .i64 2, .int .i64 ty, .int .i64 co, .int .u32 re, .int .i64 sp, .int .i64 dp, .bool ns, .int .u32 sq, .int .u32 ak, .int .i64 fl, .int .i64 wi, .int .i64 ur, .string (strOfNums os), .string (strOfNums ds)]) := AtB.below A5.out b6
  have P6 : Hid (BS W6 (some ⟨g, 0, none⟩) N E) := P5.out.below b6
  have Q6 : Hid (BS W6 a N E) := Q5.out.below b6
  have B6 : Hid (Below w.heap.size w W6) := B5.out.trans (b6.mono B5.out.size)
  clear b6 A5 P5 Q5 B5 hHeld
  refine hK _ _ ⟨A6.out, P6.out, Q6.out⟩ (fun hHeld => ?_)
  try simp only [List.getElem_toArray, List.getElem_cons_zero, List.getElem_cons_succ, Act.put, List.setIfInBounds_toArray, List.set_cons_zero, List.set_cons_succ]
  refine wpAnyH_take (i := 19) (v := ?_) rfl (by kernel_rfl) (by kernel_rfl) (by kernel_rfl) (fun _ _ _ h => h) (Or.inl ⟨by rfl, ?_⟩) (by assumption) ?_
  rotate_left
  · (intro w hSw; (try dsimp only at hSw); go_simp; try with_reducible rfl)
  try simp only [List.getElem_toArray, List.getElem_cons_zero, List.getElem_cons_succ, Act.put, List.setIfInBounds_toArray, List.set_cons_zero, List.set_cons_succ]
  refine wpAnyH_take (i := 20) (v := ?_) rfl (by kernel_rfl) (by kernel_rfl) (by kernel_rfl) (fun _ _ _ h => h) (Or.inl ⟨by rfl, ?_⟩) (by assumption) ?_
  rotate_left
  · (intro w hSw; (try dsimp only at hSw); go_simp; try with_reducible rfl)
  try simp only [List.getElem_toArray, List.getElem_cons_zero, List.getElem_cons_succ, Act.put, List.setIfInBounds_toArray, List.set_cons_zero, List.set_cons_succ]
  refine wpAnyH_done (by kernel_rfl) ?_ _
  clear hHeld
  try simp only [List.getElem_toArray, List.getElem_cons_zero, List.getElem_cons_succ, Act.put, List.setIfInBounds_toArray, List.set_cons_zero, List.set_cons_succ]
  obtain ⟨x0, x1, x2, x3, x4, x5, x6, x7, x8, x9, x10, x11, x12, x13⟩ := AtB.cells14 A6.out
  go_wp2_with fail
  refine (proto_any _ _).mono ?_
  rintro e w' ⟨rfl, hw'⟩
  rw [hw', show protoV 2 = .tuple #[.int .i64 17, .bool true] from rfl]
  clear hw'
  go_wp2_with fail
  clear x0 x1 x2 x3 x4 x5 x6 x7 x8 x9 x10 x11 x12 x13
  refine (HD.out _ g P6.out).mono ?_
  clear HD
  rintro e W7 ⟨rfl, b7⟩
  have A7 := AtB.below (AtB.below A6.out b7) (below1 W7 (.cells #[.int .i64 2, .int .i64 ty, .int .i64 co, .int .u32 re, .int .i64 sp, .int .i64 dp, .bool ns, .int .u32 sq, .int .u32 ak, .int .i64 fl, .int .i64 wi, .int .i64 ur, .string (strOfNums os), .string (strOfNums ds)] 25))
  have A8 := atB_new W7 #[.int .i64 2, .int .i64 ty, .int .i64 co, .int .u32 re, .int .i64 sp, .int .i64 dp, .bool ns, .int .u32 sq, .int .u32 ak, .int .i64 fl, .int .i64 wi, .int .i64 ur, .string (strOfNums os), .string (strOfNums ds)] 25 _ rfl
  have B7 : Hid (Below w.heap.size w W7) := B6.out.trans (b7.mono B6.out.size)
  have B8 : Hid (Below w.heap.size w (W7.alloc (.cells #[.int .i64 2, .int .i64 ty, .int .i64 co, .int .u32 re, .int .i64 sp, .int .i64 dp, .bool ns, .int .u32 sq, .int .u32 ak, .int .i64 fl, .int .i64 wi, .int .i64 ur, .string (strOfNums os), .string (strOfNums ds)] 25))) := B7.out.alloc B7.out.size _
  clear b7 A6 P6 Q6 B6 B7
  obtain ⟨x0, x1, x2, x3, x4, x5, x6, x7, x8, x9, x10, x11, x12, x13⟩ := AtB.cells14 A7
  obtain ⟨y0, y1, y2, y3, y4, y5, y6, y7, y8, y9, y10, y11, y12, y13⟩ := AtB.cells14 A8
  clear A7 A8
  have hq := HQ.out
  go_wp2
  go_ret
  exact ⟨rfl, B8.out⟩
set_option maxRecDepth 20000 in
set_option maxHeartbeats 8000000 in
theorem encodes_3 (src dst : Int) (hs : 0 ≤ src ∧ src ≤ 4294967295) (ht : 0 ≤ dst ∧ dst ≤ 4294967295) (ty co re sp dp : Int) (ns : Bool) (sq ak fl wi ur : Int) (os ds : List Int) (hf : (L4R.mk 3 ty co re sp dp ns sq ak fl wi ur os ds).Fine) (hos : os.length ≤ 140737488355328) (hok : (L4R.mk 3 ty co re sp dp ns sq ak fl wi ur os ds).ok = true) (w : World) :
    Calls Try.prog 4 #[.int .u32 src, .int .u32 dst, (L4R.mk 3 ty co re sp dp ns sq ak fl wi ur os ds).v] w fun e w' => e = .returned (.bool true) ∧ Below w.heap.size w w' := by
  have HE : Hid (∀ W, Calls Try.prog 10 #[.int .u32 src, .int .u32 dst, .agg #[.int .i64 3, .int .i64 ty, .int .i64 co, .int .u32 re, .int .i64 sp, .int .i64 dp, .bool ns, .int .u32 sq, .int .u32 ak, .int .i64 fl, .int .i64 wi, .int .i64 ur, .string (strOfNums os), .string (strOfNums ds)]] W fun e w' => ∃ g, e = .returned (.tuple #[.slice (some ⟨g, 0, none⟩) (L4R.mk 3 ty co re sp dp ns sq ak fl wi ur os ds).body.length (L4R.mk 3 ty co re sp dp ns sq ak fl wi ur os ds).body.length, .int .i64 0]) ∧ EncS W w' g (L4R.mk 3 ty co re sp dp ns sq ak fl wi ur os ds).body.length (L4R.mk 3 ty co re sp dp ns sq ak fl wi ur os ds).body.length ((L4R.mk 3 ty co re sp dp ns sq ak fl wi ur os ds).enc src dst)) := fun W => encode_ok (L4R.mk 3 ty co re sp dp ns sq ak fl wi ur os ds) hf hok src dst hs ht W
  have HF : Hid (∀ W, Calls Try.prog 11 #[.int .u32 src, .int .u32 dst, .agg #[.int .i64 3, .int .i64 ty, .int .i64 co, .int .u32 re, .int .i64 sp, .int .i64 dp, .bool ns, .int .u32 sq, .int .u32 ak, .int .i64 fl, .int .i64 wi, .int .i64 ur, .string (strOfNums os), .string (strOfNums ds)]] W fun e w' => ∃ a cap, e = .returned (.tuple #[.slice a (L4R.mk 3 ty co re sp dp ns sq ak fl wi ur os ds).body.length cap, .int .i64 0]) ∧ BS w' a (L4R.mk 3 ty co re sp dp ns sq ak fl wi ur os ds).body.length ((L4R.mk 3 ty co re sp dp ns sq ak fl wi ur os ds).enc src dst) ∧ Below W.heap.size W w') := fun W => renc_any (L4R.mk 3 ty co re sp dp ns sq ak fl wi ur os ds) hf hos hok src dst hs ht W
  have HD : Hid (∀ W g, BS W (some ⟨g, 0, none⟩) (L4R.mk 3 ty co re sp dp ns sq ak fl wi ur os ds).body.length ((L4R.mk 3 ty co re sp dp ns sq ak fl wi ur os ds).enc src dst) → Calls Try.prog 7 #[.int .u32 src, .int .u32 dst, .int .i64 6, .slice (some ⟨g, 0, none⟩) (L4R.mk 3 ty co re sp dp ns sq ak fl wi ur os ds).body.length (L4R.mk 3 ty co re sp dp ns sq ak fl wi ur os ds).body.length] W fun e w' => e = .returned (.tuple #[.agg #[.int .i64 3, .int .i64 ty, .int .i64 co, .int .u32 re, .int .i64 sp, .int .i64 dp, .bool ns, .int .u32 sq, .int .u32 ak, .int .i64 fl, .int .i64 wi, .int .i64 ur, .string (strOfNums os), .string (strOfNums ds)], .int .i64 0]) ∧ Below W.heap.size W w') := fun W g hB => by
    have := decode_any src dst 6 hs ht (some ⟨g, 0, none⟩) _ _ _ (Nat.le_refl _) (fun x e => ⟨g, 0, by cases e; rfl⟩) (fun e => by cases e) W hB
    have hd : decE src dst 3 ((L4R.mk 3 ty co re sp dp ns sq ak fl wi ur os ds).enc src dst) = 0 ∧ decR src dst 3 ((L4R.mk 3 ty co re sp dp ns sq ak fl wi ur os ds).enc src dst) = (L4R.mk 3 ty co re sp dp ns sq ak fl wi ur os ds) := dec_own hf hok src dst hs.1 ht.1
    rw [show kindV 6 = 3 from rfl, hd.1, hd.2] at this
    exact this
  have hq := fun W => eq14 3 ty co re sp dp ns sq ak fl wi ur (strOfNums os) (strOfNums ds) W
  have HQ : Hid _ := hq
  have HC : Hid (∀ W, Calls Try.prog 12 #[.agg #[.int .i64 3, .int .i64 ty, .int .i64 co, .int .u32 re, .int .i64 sp, .int .i64 dp, .bool ns, .int .u32 sq, .int .u32 ak, .int .i64 fl, .int .i64 wi, .int .i64 ur, .string (strOfNums os), .string (strOfNums ds)]] W fun e w' => e = .returned (.int .i64 0) ∧ Below W.heap.size W w') := fun W => by
    have := l4check_any 3 ty co re sp dp ns sq ak fl wi ur os ds W hf.room
    rw [show l4Ok 3 ty co re sp dp ns sq ak fl wi ur (strOfNums os) (strOfNums ds) = true from hok] at this
    exact this
  have HR : Hid (∀ W, Calls Try.prog 13 #[.agg #[.int .i64 3, .int .i64 ty, .int .i64 co, .int .u32 re, .int .i64 sp, .int .i64 dp, .bool ns, .int .u32 sq, .int .u32 ak, .int .i64 fl, .int .i64 wi, .int .i64 ur, .string (strOfNums os), .string (strOfNums ds)]] W fun e w' => e = .returned (.int .i64 0) ∧ Below W.heap.size W w') := fun W => by
    have := rl4check_any (L4R.mk 3 ty co re sp dp ns sq ak fl wi ur os ds) hf hos W
    rw [hok] at this
    exact this
  clear hs ht hf hok hos hq
  generalize (L4R.mk 3 ty co re sp dp ns sq ak fl wi ur os ds).body.length = N at *
  generalize (L4R.mk 3 ty co re sp dp ns sq ak fl wi ur os ds).enc src dst = E at *
  show Calls Try.prog 4 #[.int .u32 src, .int .u32 dst, .agg #[.int .i64 3, .int .i64 ty, .int .i64 co, .int .u32 re, .int .i64 sp, .int .i64 dp, .bool ns, .int .u32 sq, .int .u32 ak, .int .i64 fl, .int .i64 wi, .int .i64 ur, .string (strOfNums os), .string (strOfNums ds)]] w _
  go_enter Try.func4, Try.ntmps4
  go_wp2_with fail
  refine (HE.out _).mono ?_
  clear HE
  rintro e W1 ⟨g, rfl, e1⟩
  have b1 := e1.bel
  have A1 : Hid (AtB W1 w.heap.size #[.int .i64 3, .int .i64 ty, .int .i64 co, .int .u32 re, .int .i64 sp, .int .i64 dp, .bool ns, .int .u32 sq, .int .u32 ak, .int .i64 fl, .int .i64 wi, .int .i64 ur, .string (strOfNums os), .string (strOfNums ds)]) := AtB.below (atB_new w #[.int .i64 3, .int .i64 ty, .int .i64 co, .int .u32 re, .int .i64 sp, .int .i64 dp, .bool ns, .int .u32 sq, .int .u32 ak, .int .i64 fl, .int .i64 wi, .int .i64 ur, .string (strOfNums os), .string (strOfNums ds)] 25 _ rfl) b1
  have B1 : Hid (Below w.heap.size w W1) := (below1 w _).trans (b1.mono (by simp))
  have P1 : Hid (BS W1 (some ⟨g, 0, none⟩) N E) := e1.bs
  clear b1 e1
  obtain ⟨x0, x1, x2, x3, x4, x5, x6, x7, x8, x9, x10, x11, x12, x13⟩ := AtB.cells14 A1.out
  go_wp2_with fail
  clear x0 x1 x2 x3 x4 x5 x6 x7 x8 x9 x10 x11 x12 x13
  refine (HF.out _).mono ?_
  clear HF
  rintro e W2 ⟨a, cap, rfl, q2, b2⟩
  have A2 : Hid (AtB W2 w.heap.size #[.int .i64 3, .int .i64 ty, .int .i64 co, .int .u32 re, .int .i64 sp, .int .i64 dp, .bool ns, .int .u32 sq, .int .u32 ak, .int .i64 fl, .int .i64 wi, .int .i64 ur, .string (strOfNums os), .string (strOfNums ds)]) := AtB.below A1.out b2
  have B2 : Hid (Below w.heap.size w W2) := B1.out.trans (b2.mono B1.out.size)
  have P2 : Hid (BS W2 (some ⟨g, 0, none⟩) N E) := P1.out.below b2
  have Q2 : Hid (BS W2 a N E) := q2
  clear b2 A1 B1 P1 q2
  go_wp2_with fail
  refine wp_region_held_drew (S := (fun W => AtB W w.heap.size #[.int .i64 3, .int .i64 ty, .int .i64 co, .int .u32 re, .int .i64 sp, .int .i64 dp, .bool ns, .int .u32 sq, .int .u32 ak, .int .i64 fl, .int .i64 wi, .int .i64 ur, .string (strOfNums os), .string (strOfNums ds)] ∧ BS W (some ⟨g, 0, none⟩) N E ∧ BS W a N E)) (by kernel_rfl) ⟨A2.out, P2.out.drew, Q2.out.drew⟩ (fun hHeld => ?_)
  have A3 : Hid (AtB W2.drew w.heap.size #[.int .i64 3, .int .i64 ty, .int .i64 co, .int .u32 re, .int .i64 sp, .int .i64 dp, .bool ns, .int .u32 sq, .int .u32 ak, .int .i64 fl, .int .i64 wi, .int .i64 ur, .string (strOfNums os), .string (strOfNums ds)]) := A2.out
  have P3 : Hid (BS W2.drew (some ⟨g, 0, none⟩) N E) := P2.out.drew
  have Q3 : Hid (BS W2.drew a N E) := Q2.out.drew
  have B3 : Hid (Below w.heap.size w W2.drew) := B2.out.drew
  obtain ⟨W3, hW3⟩ : ∃ V, W2.drew = V := ⟨_, rfl⟩
  rw [hW3] at A3 P3 Q3 B3 hHeld ⊢
  clear hW3 A2 P2 Q2 B2
  refine wpAnyH_ready (rs := [0]) (by kernel_rfl) (by simp) ?_
  refine AllReadyH.cons (o := _) rfl (fun K hK => ?_) AllReadyH.nil
  go_simp
  refine (lives_any _).mono ?_
  rintro e W4 ⟨rfl, b4⟩
  have A4 : Hid (AtB W4 w.heap.size #[.int .i64 3, .int .i64 ty, .int .i64 co, .int .u32 re, .int .i64 sp, .int .i64 dp, .bool ns, .int .u32 sq, .int .u32 ak, .int .i64 fl, .int .i64 wi, .int .i64 ur, .string (strOfNums os), .string (strOfNums ds)]) := AtB.below A3.out b4
  have P4 : Hid (BS W4 (some ⟨g, 0, none⟩) N E) := P3.out.below b4
  have Q4 : Hid (BS W4 a N E) := Q3.out.below b4
  have B4 : Hid (Below w.heap.size w W4) := B3.out.trans (b4.mono B3.out.size)
  clear b4 A3 P3 Q3 B3 hHeld
  refine hK _ _ ⟨A4.out, P4.out, Q4.out⟩ (fun hHeld => ?_)
  try simp only [List.getElem_toArray, List.getElem_cons_zero, List.getElem_cons_succ, Act.put, List.setIfInBounds_toArray, List.set_cons_zero, List.set_cons_succ]
  refine wpAnyH_take (i := 1) (v := ?_) rfl (by kernel_rfl) (by kernel_rfl) (by kernel_rfl) (fun _ _ _ h => h) (Or.inl ⟨by rfl, ?_⟩) (by assumption) ?_
  rotate_left
  · (intro w hSw; (try dsimp only at hSw); go_simp; try with_reducible rfl)
  try simp only [List.getElem_toArray, List.getElem_cons_zero, List.getElem_cons_succ, Act.put, List.setIfInBounds_toArray, List.set_cons_zero, List.set_cons_succ]
  refine wpAnyH_take (i := 2) (v := ?_) rfl (by kernel_rfl) (by kernel_rfl) (by kernel_rfl) (fun _ _ _ h => h) (Or.inl ⟨by rfl, ?_⟩) (by assumption) ?_
  rotate_left
  · (intro w hSw; (try dsimp only at hSw); go_simp; try with_reducible rfl)
  try simp only [List.getElem_toArray, List.getElem_cons_zero, List.getElem_cons_succ, Act.put, List.setIfInBounds_toArray, List.set_cons_zero, List.set_cons_succ]
  refine wpAnyH_take (i := 3) (v := ?_) rfl (by kernel_rfl) (by kernel_rfl) (by kernel_rfl) (fun _ _ _ h => h) (Or.inl ⟨by rfl, ?_⟩) (by assumption) ?_
  rotate_left
  · (intro w hSw; (try dsimp only at hSw); go_simp; try with_reducible rfl)
  try simp only [List.getElem_toArray, List.getElem_cons_zero, List.getElem_cons_succ, Act.put, List.setIfInBounds_toArray, List.set_cons_zero, List.set_cons_succ]
  refine wpAnyH_take (i := 4) (v := .string (strOfNums E)) rfl (by kernel_rfl) (by kernel_rfl) (by kernel_rfl) (fun _ _ _ h => h) (Or.inl ⟨by rfl, fun W hW => by have cv := run_conv_bs (P := Try.prog) N hW.2.1 23 9 5 Try.underlying23 Try.underlying5 Try.underlying9; go_simp⟩) (by assumption) ?_
  try simp only [List.getElem_toArray, List.getElem_cons_zero, List.getElem_cons_succ, Act.put, List.setIfInBounds_toArray, List.set_cons_zero, List.set_cons_succ]
  refine wpAnyH_take (i := 5) (v := ?_) rfl (by kernel_rfl) (by kernel_rfl) (by kernel_rfl) (fun _ _ _ h => h) (Or.inl ⟨by rfl, ?_⟩) (by assumption) ?_
  rotate_left
  · (intro w hSw; (try dsimp only at hSw); go_simp; try with_reducible rfl)
  try simp only [List.getElem_toArray, List.getElem_cons_zero, List.getElem_cons_succ, Act.put, List.setIfInBounds_toArray, List.set_cons_zero, List.set_cons_succ]
  refine wpAnyH_take (i := 6) (v := .string (strOfNums E)) rfl (by kernel_rfl) (by kernel_rfl) (by kernel_rfl) (fun _ _ _ h => h) (Or.inl ⟨by rfl, fun W hW => by have cv := run_conv_bs (P := Try.prog) cap hW.2.2 23 9 5 Try.underlying23 Try.underlying5 Try.underlying9; go_simp⟩) (by assumption) ?_
  try simp only [List.getElem_toArray, List.getElem_cons_zero, List.getElem_cons_succ, Act.put, List.setIfInBounds_toArray, List.set_cons_zero, List.set_cons_succ]
  refine wpAnyH_take (i := 7) (v := ?_) rfl (by kernel_rfl) (by kernel_rfl) (by kernel_rfl) (fun _ _ _ h => h) (Or.inl ⟨by rfl, ?_⟩) (by assumption) ?_
  rotate_left
  · (intro w hSw; (try dsimp only at hSw); go_simp; try with_reducible rfl)
  try simp only [List.getElem_toArray, List.getElem_cons_zero, List.getElem_cons_succ, Act.put, List.setIfInBounds_toArray, List.set_cons_zero, List.set_cons_succ]
  refine wpAnyH_take (i := 8) (v := ?_) rfl (by kernel_rfl) (by kernel_rfl) (by kernel_rfl) (fun _ _ _ h => h) (Or.inl ⟨by rfl, ?_⟩) (by assumption) ?_
  rotate_left
  · (intro w hSw; (try dsimp only at hSw); go_simp; try with_reducible rfl)
  try simp only [List.getElem_toArray, List.getElem_cons_zero, List.getElem_cons_succ, Act.put, List.setIfInBounds_toArray, List.set_cons_zero, List.set_cons_succ]
  refine wpAnyH_take (i := 9) (v := ?_) rfl (by kernel_rfl) (by kernel_rfl) (by kernel_rfl) (fun _ _ _ h => h) (Or.inl ⟨by rfl, ?_⟩) (by assumption) ?_
  rotate_left
  · (intro w hSw; (try dsimp only at hSw); go_simp; try with_reducible rfl)
  try simp only [List.getElem_toArray, List.getElem_cons_zero, List.getElem_cons_succ, Act.put, List.setIfInBounds_toArray, List.set_cons_zero, List.set_cons_succ]
  refine wpAnyH_take (i := 10) (v := ?_) rfl (by kernel_rfl) (by kernel_rfl) (by kernel_rfl) (fun _ _ _ h => h) (Or.inl ⟨by rfl, ?_⟩) (by assumption) ?_
  rotate_left
  · (intro w hSw; (try dsimp only at hSw); go_simp; try with_reducible rfl)
  try simp only [List.getElem_toArray, List.getElem_cons_zero, List.getElem_cons_succ, Act.put, List.setIfInBounds_toArray, List.set_cons_zero, List.set_cons_succ]
  refine wpAnyH_take (i := 11) (v := ?_) rfl (by kernel_rfl) (by kernel_rfl) (by kernel_rfl) (fun _ _ _ h => h) (Or.inl ⟨by rfl, ?_⟩) (by assumption) ?_
  rotate_left
  · (intro w hSw; (try dsimp only at hSw); go_simp; try with_reducible rfl)
  try simp only [List.getElem_toArray, List.getElem_cons_zero, List.getElem_cons_succ, Act.put, List.setIfInBounds_toArray, List.set_cons_zero, List.set_cons_succ]
  refine wpAnyH_take (i := 12) (v := ?_) rfl (by kernel_rfl) (by kernel_rfl) (by kernel_rfl) (fun _ _ _ h => h) (Or.inl ⟨by rfl, ?_⟩) (by assumption) ?_
  rotate_left
  · (intro w hSw; (try dsimp only at hSw); go_simp; try with_reducible rfl)
  try simp only [List.getElem_toArray, List.getElem_cons_zero, List.getElem_cons_succ, Act.put, List.setIfInBounds_toArray, List.set_cons_zero, List.set_cons_succ]
  refine wpAnyH_take (i := 13) (v := ?_) rfl (by kernel_rfl) (by kernel_rfl) (by kernel_rfl) (fun _ _ _ h => h) (Or.inl ⟨by rfl, ?_⟩) (by assumption) ?_
  rotate_left
  · (intro w hSw; (try dsimp only at hSw); go_simp; try with_reducible rfl)
  try simp only [List.getElem_toArray, List.getElem_cons_zero, List.getElem_cons_succ, Act.put, List.setIfInBounds_toArray, List.set_cons_zero, List.set_cons_succ]
  refine wpAnyH_take (i := 14) (v := ?_) rfl (by kernel_rfl) (by kernel_rfl) (by kernel_rfl) (fun _ _ _ h => h) (Or.inl ⟨by rfl, ?_⟩) (by assumption) ?_
  rotate_left
  · (intro w hSw; (try dsimp only at hSw); go_simp; try with_reducible rfl)
  try simp only [List.getElem_toArray, List.getElem_cons_zero, List.getElem_cons_succ, Act.put, List.setIfInBounds_toArray, List.set_cons_zero, List.set_cons_succ]
  refine wpAnyH_take (i := 15) (v := .agg #[.int .i64 3, .int .i64 ty, .int .i64 co, .int .u32 re, .int .i64 sp, .int .i64 dp, .bool ns, .int .u32 sq, .int .u32 ak, .int .i64 fl, .int .i64 wi, .int .i64 ur, .string (strOfNums os), .string (strOfNums ds)]) rfl (by kernel_rfl) (by kernel_rfl) (by kernel_rfl) (fun _ _ _ h => h) (Or.inl ⟨by rfl, fun W hW => by obtain ⟨x0, x1, x2, x3, x4, x5, x6, x7, x8, x9, x10, x11, x12, x13⟩ := AtB.cells14 hW.1; go_simp⟩) (by assumption) ?_
  try simp only [List.getElem_toArray, List.getElem_cons_zero, List.getElem_cons_succ, Act.put, List.setIfInBounds_toArray, List.set_cons_zero, List.set_cons_succ]
  refine wpAnyH_take (i := 17) (v := .agg #[.int .i64 3, .int .i64 ty, .int .i64 co, .int .u32 re, .int .i64 sp, .int .i64 dp, .bool ns, .int .u32 sq, .int .u32 ak, .int .i64 fl, .int .i64 wi, .int .i64 ur, .string (strOfNums os), .string (strOfNums ds)]) rfl (by kernel_rfl) (by kernel_rfl) (by kernel_rfl) (fun _ _ _ h => h) (Or.inl ⟨by rfl, fun W hW => by obtain ⟨x0, x1, x2, x3, x4, x5, x6, x7, x8, x9, x10, x11, x12, x13⟩ := AtB.cells14 hW.1; go_simp⟩) (by assumption) ?_
  try simp only [List.getElem_toArray, List.getElem_cons_zero, List.getElem_cons_succ, Act.put, List.setIfInBounds_toArray, List.set_cons_zero, List.set_cons_succ]
  refine wpAnyH_ready (rs := [16]) (by kernel_rfl) (by simp) ?_
  refine AllReadyH.cons (o := _) rfl (fun K hK => ?_) AllReadyH.nil
  go_simp
  refine (HC.out _).mono ?_
  clear HC
  rintro e W5 ⟨rfl, b5⟩
  have A5 : Hid (AtB W5 w.heap.size #[.int .i64 3, .int .i64 ty, .int .i64 co, .int .u32 re, .int .i64 sp, .int .i64 dp, .bool ns, .int .u32 sq, .int .u32 ak, .int .i64 fl, .int .i64 wi, .int .i64 ur, .string (strOfNums os), .string (strOfNums ds)]) := AtB.below A4.out b5
  have P5 : Hid (BS W5 (some ⟨g, 0, none⟩) N E) := P4.out.below b5
  have Q5 : Hid (BS W5 a N E) := Q4.out.below b5
  have B5 : Hid (Below w.heap.size w W5) := B4.out.trans (b5.mono B4.out.size)
  clear b5 A4 P4 Q4 B4 hHeld
  refine hK _ _ ⟨A5.out, P5.out, Q5.out⟩ (fun hHeld => ?_)
  try simp only [List.getElem_toArray, List.getElem_cons_zero, List.getElem_cons_succ, Act.put, List.setIfInBounds_toArray, List.set_cons_zero, List.set_cons_succ]
  refine wpAnyH_ready (rs := [18]) (by kernel_rfl) (by simp) ?_
  refine AllReadyH.cons (o := _) rfl (fun K hK => ?_) AllReadyH.nil
  go_simp
  refine (HR.out _).mono ?_
  clear HR
  rintro e W6 ⟨rfl, b6⟩
  have A6 : Hid (AtB W6 w.heap.size #[.int .i64 3, .int .i64 ty, .int .i64 co, .int .u32 re, .int .i64 sp, .int .i64 dp, .bool ns, .int .u32 sq, .int .u32 ak, .int .i64 fl, .int .i64 wi, .int .i64 ur, .string (strOfNums os), .string (strOfNums ds)]) := AtB.below A5.out b6
  have P6 : Hid (BS W6 (some ⟨g, 0, none⟩) N E) := P5.out.below b6
  have Q6 : Hid (BS W6 a N E) := Q5.out.below b6
  have B6 : Hid (Below w.heap.size w W6) := B5.out.trans (b6.mono B5.out.size)
  clear b6 A5 P5 Q5 B5 hHeld
  refine hK _ _ ⟨A6.out, P6.out, Q6.out⟩ (fun hHeld => ?_)
  try simp only [List.getElem_toArray, List.getElem_cons_zero, List.getElem_cons_succ, Act.put, List.setIfInBounds_toArray, List.set_cons_zero, List.set_cons_succ]
  refine wpAnyH_take (i := 19) (v := ?_) rfl (by kernel_rfl) (by kernel_rfl) (by kernel_rfl) (fun _ _ _ h => h) (Or.inl ⟨by rfl, ?_⟩) (by assumption) ?_
  rotate_left
  · (intro w hSw; (try dsimp only at hSw); go_simp; try with_reducible rfl)
  try simp only [List.getElem_toArray, List.getElem_cons_zero, List.getElem_cons_succ, Act.put, List.setIfInBounds_toArray, List.set_cons_zero, List.set_cons_succ]
  refine wpAnyH_take (i := 20) (v := ?_) rfl (by kernel_rfl) (by kernel_rfl) (by kernel_rfl) (fun _ _ _ h => h) (Or.inl ⟨by rfl, ?_⟩) (by assumption) ?_
  rotate_left
  · (intro w hSw; (try dsimp only at hSw); go_simp; try with_reducible rfl)
  try simp only [List.getElem_toArray, List.getElem_cons_zero, List.getElem_cons_succ, Act.put, List.setIfInBounds_toArray, List.set_cons_zero, List.set_cons_succ]
  refine wpAnyH_done (by kernel_rfl) ?_ _
  clear hHeld
  try simp only [List.getElem_toArray, List.getElem_cons_zero, List.getElem_cons_succ, Act.put, List.setIfInBounds_toArray, List.set_cons_zero, List.set_cons_succ]
  obtain ⟨x0, x1, x2, x3, x4, x5, x6, x7, x8, x9, x10, x11, x12, x13⟩ := AtB.cells14 A6.out
  go_wp2_with fail
  refine (proto_any _ _).mono ?_
  rintro e w' ⟨rfl, hw'⟩
  rw [hw', show protoV 3 = .tuple #[.int .i64 6, .bool true] from rfl]
  clear hw'
  go_wp2_with fail
  clear x0 x1 x2 x3 x4 x5 x6 x7 x8 x9 x10 x11 x12 x13
  refine (HD.out _ g P6.out).mono ?_
  clear HD
  rintro e W7 ⟨rfl, b7⟩
  have A7 := AtB.below (AtB.below A6.out b7) (below1 W7 (.cells #[.int .i64 3, .int .i64 ty, .int .i64 co, .int .u32 re, .int .i64 sp, .int .i64 dp, .bool ns, .int .u32 sq, .int .u32 ak, .int .i64 fl, .int .i64 wi, .int .i64 ur, .string (strOfNums os), .string (strOfNums ds)] 25))
  have A8 := atB_new W7 #[.int .i64 3, .int .i64 ty, .int .i64 co, .int .u32 re, .int .i64 sp, .int .i64 dp, .bool ns, .int .u32 sq, .int .u32 ak, .int .i64 fl, .int .i64 wi, .int .i64 ur, .string (strOfNums os), .string (strOfNums ds)] 25 _ rfl
  have B7 : Hid (Below w.heap.size w W7) := B6.out.trans (b7.mono B6.out.size)
  have B8 : Hid (Below w.heap.size w (W7.alloc (.cells #[.int .i64 3, .int .i64 ty, .int .i64 co, .int .u32 re, .int .i64 sp, .int .i64 dp, .bool ns, .int .u32 sq, .int .u32 ak, .int .i64 fl, .int .i64 wi, .int .i64 ur, .string (strOfNums os), .string (strOfNums ds)] 25))) := B7.out.alloc B7.out.size _
  clear b7 A6 P6 Q6 B6 B7
  obtain ⟨x0, x1, x2, x3, x4, x5, x6, x7, x8, x9, x10, x11, x12, x13⟩ := AtB.cells14 A7
  obtain ⟨y0, y1, y2, y3, y4, y5, y6, y7, y8, y9, y10, y11, y12, y13⟩ := AtB.cells14 A8
  clear A7 A8
  have hq := HQ.out
  go_wp2
  go_ret
  exact ⟨rfl, B8.out⟩
theorem encodes_any (src dst : Int) (hs : 0 ≤ src ∧ src ≤ 4294967295) (ht : 0 ≤ dst ∧ dst ≤ 4294967295) (x : L4R) (hf : x.Fine) (hos : x.os.length ≤ 140737488355328) (w : World) :
    Calls Try.prog 4 #[.int .u32 src, .int .u32 dst, x.v] w fun e w' => e = .returned (.bool true) ∧ Below w.heap.size w w' := by
  cases hok : x.ok
  · obtain ⟨k, ty, co, re, sp, dp, ns, sq, ak, fl, wi, ur, os, ds⟩ := x
    exact encodes_no src dst k ty co re sp dp ns sq ak fl wi ur os ds hf hos hok w
  · have o := (L4R.okOf hok).kind
    obtain ⟨k, ty, co, re, sp, dp, ns, sq, ak, fl, wi, ur, os, ds⟩ := x
    simp only at o
    have hk : k = 0 ∨ k = 1 ∨ k = 2 ∨ k = 3 := by
      rcases o with h | h | h | h
      · exact .inl h.1
      · exact .inr (.inl h.1)
      · exact .inr (.inr (.inl h.1))
      · exact .inr (.inr (.inr h.1))
    clear o
    rcases hk with rfl | rfl | rfl | rfl
    · exact encodes_0 src dst hs ht ty co re sp dp ns sq ak fl wi ur os ds hf hos hok w
    · exact encodes_1 src dst hs ht ty co re sp dp ns sq ak fl wi ur os ds hf hos hok w
    · exact encodes_2 src dst hs ht ty co re sp dp ns sq ak fl wi ur os ds hf hos hok w
    · exact encodes_3 src dst hs ht ty co re sp dp ns sq ak fl wi ur os ds hf hos hok w
end Go.Proofs.Ytanilaofhaelkaa
