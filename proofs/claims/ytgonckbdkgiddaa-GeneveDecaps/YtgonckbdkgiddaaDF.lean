/- Parts of the proof, in one text. -/
import Derived.Test.YtgonckbdkgiddaaDN
import Derived.Test.YtgonckbdkgiddaaDL
import Derived.Test.YtgonckbdkgiddaaQHE
import Derived.Deep.RegionHeld3
namespace Go.Proofs.Ytgonckbdkgiddaa
open Go.RowKit
set_option maxRecDepth 20000
set_option linter.unusedSimpArgs false
set_option maxHeartbeats 4000000 in
theorem read_short (b off n cap : Nat) (w : World) (h8 : n < 8) :
    Calls Try.prog 26 #[.slice (some ⟨b, off, none⟩) n cap] w fun e w' => e = .returned (.tuple #[.agg #[.int .u32 0, .int .u32 0, .int .i64 0, .int .i64 0, .bool false, .slice none 0 0, .string ⟨#[]⟩], .bool false]) ∧ Below w.heap.size w w' := by
  have hnI : (n : Int) < 8 := by omega
  have P0 : Hid (((w.alloc (.cells #[.int .u32 0, .int .u32 0, .int .i64 0, .int .i64 0, .bool false, .slice none 0 0, .string ⟨#[]⟩] 25)).alloc (.cells #[.int .u32 0, .int .u32 0, .int .i64 0, .int .i64 0, .bool false, .slice none 0 0, .string ⟨#[]⟩] 25)).heap[w.heap.size]? = some (.cells #[.int .u32 0, .int .u32 0, .int .i64 0, .int .i64 0, .bool false, .slice none 0 0, .string ⟨#[]⟩] 25 (0, 0))) := Ca.two_first w _ _
  have B0 : Hid (Below w.heap.size w ((w.alloc (.cells #[.int .u32 0, .int .u32 0, .int .i64 0, .int .i64 0, .bool false, .slice none 0 0, .string ⟨#[]⟩] 25)).alloc (.cells #[.int .u32 0, .int .u32 0, .int .i64 0, .int .i64 0, .bool false, .slice none 0 0, .string ⟨#[]⟩] 25))) := below2 w _ _
  go_enter Try.func26, Try.ntmps26
  go_wp2_with fail
  refine scope_from ?_
  go_wp2_with fail
  go_step3
  show FromLabel _ _ _ _ _ _
  refine from_label rfl ?_
  go_wp2_with (first
    | refine Ca.wpList_store_row rfl 25 _ _ rfl w.heap.size #[.int .u32 0, .int .u32 0, .int .i64 0, .int .i64 0, .bool false, .slice none 0 0, .string ⟨#[]⟩] #[.int .u32 0, .int .u32 0, .int .i64 0, .int .i64 0, .bool false, .slice none 0 0, .string ⟨#[]⟩] 25 rfl rfl P0.out (by kernel_rfl) rfl (by kernel_rfl) ?_
    | fail)
  intro W11 y1 y2 y3 y4
  go_wp2
  simp only [Exit.jumpTo]
  exact bodyPost_ret (results_tb (p := 2) (u := 3) rfl _ _ w.heap.size _ rfl y1 rfl) rfl ⟨rfl, (B0.out).trans (y4.mono (Nat.le_refl _))⟩
set_option maxHeartbeats 4000000 in
theorem read_beh (b off n cap : Nat) (zs : List Int) (w : World) (h : BS w (some ⟨b, off, none⟩) n zs) (h8 : 8 ≤ n) (hbe : n < behD zs) :
    Calls Try.prog 26 #[.slice (some ⟨b, off, none⟩) n cap] w fun e w' => e = .returned (.tuple #[.agg #[.int .u32 0, .int .u32 0, .int .i64 0, .int .i64 0, .bool false, .slice none 0 0, .string ⟨#[]⟩], .bool false]) ∧ Below w.heap.size w w' := by
  have hl := h.len
  have hr := h.room
  have hcell : ∀ j, j < n → w.cell? ⟨b, off + j, none⟩ = some (.int .u8 (zs.getD j 0)) ∧ b < w.heap.size := fun j hj => by
    rcases h.cells with h0 | ⟨b', off', e, hc⟩
    · omega
    · cases e; exact ⟨hc j (by omega), cell_lt (hc j (by omega))⟩
  obtain ⟨c0, hbl⟩ := hcell 0 (by omega)
  have hz0 := h.fits 0
  have e63 := u8_and63 _ hz0
  have hbd := behD_bd zs
  have hB : (8 : Int) + zs.getD 0 0 % 64 * 4 = (behD zs : Int) := by unfold behD; omega
  rw [Nat.add_zero] at c0
  obtain ⟨s, hs⟩ : ∃ s, behD zs = s := ⟨_, rfl⟩
  rw [hs] at hB hbd hbe
  generalize hq0 : zs.getD 0 0 = z0 at *
  have w1 : IntKind.i64.wrap (z0 % 64) = z0 % 64 := by simp [IntKind.wrap, IntKind.bits, IntKind.signed]; omega
  have w2 : IntKind.i64.wrap (z0 % 64 * 4) = z0 % 64 * 4 := by simp [IntKind.wrap, IntKind.bits, IntKind.signed]; omega
  have w3 : IntKind.i64.wrap (8 + z0 % 64 * 4) = (s : Int) := by rw [← hB]; simp [IntKind.wrap, IntKind.bits, IntKind.signed]; omega
  have hnI : ¬ (n : Int) < 8 := by omega
  have hn0 : (0 : Int) < (n : Int) := by omega
  have hsn : (n : Int) < (s : Int) := by omega
  have P0 : Hid (((w.alloc (.cells #[.int .u32 0, .int .u32 0, .int .i64 0, .int .i64 0, .bool false, .slice none 0 0, .string ⟨#[]⟩] 25)).alloc (.cells #[.int .u32 0, .int .u32 0, .int .i64 0, .int .i64 0, .bool false, .slice none 0 0, .string ⟨#[]⟩] 25)).heap[w.heap.size]? = some (.cells #[.int .u32 0, .int .u32 0, .int .i64 0, .int .i64 0, .bool false, .slice none 0 0, .string ⟨#[]⟩] 25 (0, 0))) := Ca.two_first w _ _
  have B0 : Hid (Below w.heap.size w ((w.alloc (.cells #[.int .u32 0, .int .u32 0, .int .i64 0, .int .i64 0, .bool false, .slice none 0 0, .string ⟨#[]⟩] 25)).alloc (.cells #[.int .u32 0, .int .u32 0, .int .i64 0, .int .i64 0, .bool false, .slice none 0 0, .string ⟨#[]⟩] 25))) := below2 w _ _
  clear h hcell hs hq0
  go_enter Try.func26, Try.ntmps26
  go_wp2_with fail
  refine scope_from ?_
  go_wp2_with fail
  go_step3
  show FromLabel _ _ _ _ _ _
  refine from_label rfl ?_
  go_wp2_with (first
    | refine Ca.wpList_store_row rfl 25 _ _ rfl w.heap.size #[.int .u32 0, .int .u32 0, .int .i64 0, .int .i64 0, .bool false, .slice none 0 0, .string ⟨#[]⟩] #[.int .u32 0, .int .u32 0, .int .i64 0, .int .i64 0, .bool false, .slice none 0 0, .string ⟨#[]⟩] 25 rfl rfl P0.out (by kernel_rfl) rfl (by kernel_rfl) ?_
    | fail)
  intro W11 y1 y2 y3 y4
  go_wp2
  simp only [Exit.jumpTo]
  exact bodyPost_ret (results_tb (p := 2) (u := 3) rfl _ _ w.heap.size _ rfl y1 rfl) rfl ⟨rfl, (B0.out).trans (y4.mono (Nat.le_refl _))⟩
set_option maxHeartbeats 4000000 in
theorem read_none (b off n cap : Nat) (zs : List Int) (w : World) (h : BS w (some ⟨b, off, none⟩) n zs) (hcap : n ≤ cap) (hm : cap ≤ 9223372036854775807) (h8 : 8 ≤ n) (hbe : behD zs ≤ n) (hc8 : ¬ cap = 8) (hos : rdO (optsD zs) = none) :
    Calls Try.prog 26 #[.slice (some ⟨b, off, none⟩) n cap] w fun e w' => e = .returned (.tuple #[.agg #[.int .u32 0, .int .u32 0, .int .i64 0, .int .i64 0, .bool false, .slice none 0 0, .string ⟨#[]⟩], .bool false]) ∧ Below w.heap.size w w' := by
  have hl := h.len
  have hr := h.room
  have H : Hid _ := h
  have hcell : ∀ j, j < n → w.cell? ⟨b, off + j, none⟩ = some (.int .u8 (zs.getD j 0)) ∧ b < w.heap.size := fun j hj => by
    rcases h.cells with h0 | ⟨b', off', e, hc⟩
    · omega
    · cases e; exact ⟨hc j (by omega), cell_lt (hc j (by omega))⟩
  obtain ⟨c0, hbl⟩ := hcell 0 (by omega)
  have c1 := (hcell 1 (by omega)).1
  have hz0 := h.fits 0
  have e63 := u8_and63 _ hz0
  have hbd := behD_bd zs
  have hB : (8 : Int) + zs.getD 0 0 % 64 * 4 = (behD zs : Int) := by unfold behD; omega
  rw [Nat.add_zero] at c0
  have HOS : Hid _ := hos
  obtain ⟨s, hs⟩ : ∃ s, behD zs = s := ⟨_, rfl⟩
  have HOD : Hid ((zs.drop 8).take (s - 8) = optsD zs) := by show _ = _; unfold optsD; rw [hs]
  rw [hs] at hB hbd hbe
  generalize hq0 : zs.getD 0 0 = z0 at *
  generalize hq1 : zs.getD 1 0 = z1 at *
  have w1 : IntKind.i64.wrap (z0 % 64) = z0 % 64 := by simp [IntKind.wrap, IntKind.bits, IntKind.signed]; omega
  have w2 : IntKind.i64.wrap (z0 % 64 * 4) = z0 % 64 * 4 := by simp [IntKind.wrap, IntKind.bits, IntKind.signed]; omega
  have w3 : IntKind.i64.wrap (8 + z0 % 64 * 4) = (s : Int) := by rw [← hB]; simp [IntKind.wrap, IntKind.bits, IntKind.signed]; omega
  have hnI : (8 : Int) ≤ (n : Int) := by omega
  have hn0 : (0 : Int) < (n : Int) := by omega
  have hn1 : (1 : Int) < (n : Int) := by omega
  have hnc : (n : Int) ≤ (cap : Int) := by omega
  have hsn : (s : Int) ≤ (n : Int) := by omega
  have hscI : (s : Int) ≤ (cap : Int) := by omega
  have h8s : (8 : Int) ≤ (s : Int) := by omega
  have h7 : (7 : Int) ≤ (cap : Int) := by omega
  have h4 : ¬ cap = 4 := by omega
  have HRO : Hid (∀ W, BS W (some ⟨b, off, none⟩) n zs → b < W.heap.size → Calls Try.prog 61 #[.slice (some ⟨b, off + 8, none⟩) (s - 8) (cap - 8)] W fun e w' => e = .returned (.tuple #[.slice none 0 0, .bool false]) ∧ Below W.heap.size W w') := fun W hBS hb => by
    have hq := greadOpts_any W (some ⟨b, off + 8, none⟩) (s - 8) (cap - 8) (optsD zs) (by rw [← HOD.out]; exact (hBS.drop (by omega) 8 (by omega)).take (s - 8) (by omega)) (by omega) (by omega) (by omega) (by omega) (fun x e => by cases e; exact hb)
    rw [HOS.out] at hq
    exact hq
  clear h hcell hos hs hq0
  go_enter Try.func26, Try.ntmps26
  go_wp2_with fail
  refine scope_from ?_
  go_wp2_with fail
  refine (HRO.out _ (H.out.below (below2 w _ _)) (by simp; omega)).mono ?_
  rintro e W1 ⟨rfl, hb⟩
  have B1 : Hid (Below w.heap.size w W1) := (below2 w _ _).trans (hb.mono (by simp; omega))
  have P1 : Hid (W1.heap[w.heap.size]? = some (.cells #[.int .u32 0, .int .u32 0, .int .i64 0, .int .i64 0, .bool false, .slice none 0 0, .string ⟨#[]⟩] 25 (0, 0))) := (hb.block _ (Ca.lt_of_heap (Ca.two_first w _ _))).trans (Ca.two_first w _ _)
  have Q1 : Hid (W1.heap[w.heap.size + 1]? = some (.cells #[.int .u32 0, .int .u32 0, .int .i64 0, .int .i64 0, .bool false, .slice none 0 0, .string ⟨#[]⟩] 25 (0, 0))) := (hb.block _ (Ca.lt_of_heap (Ca.two_last w _ _))).trans (Ca.two_last w _ _)
  clear hb HRO e63 w1 w2 w3 hB
  have q5 := cells14g' Q1.out 5
  simp only [List.getElem?_toArray, List.getElem?_cons_succ, List.getElem?_cons_zero] at q5
  have f5 := frozen_of_row W1 _ 5 _ _ Q1.out
  have B2 : Hid (Below w.heap.size w (W1.setCell ⟨w.heap.size + 1, 5, none⟩ (.slice none 0 0))) := B1.out.setCell (show w.heap.size ≤ w.heap.size + 1 by omega) _
  have P2 : Hid ((W1.setCell ⟨w.heap.size + 1, 5, none⟩ (.slice none 0 0)).heap[w.heap.size]? = some (.cells #[.int .u32 0, .int .u32 0, .int .i64 0, .int .i64 0, .bool false, .slice none 0 0, .string ⟨#[]⟩] 25 (0, 0))) := (Below.heap_setCell _ _ _ _ (show w.heap.size ≠ w.heap.size + 1 by omega)).trans P1.out
  clear c0 c1
  go_wp2_with fail
  go_step3
  show FromLabel _ _ _ _ _ _
  refine from_label rfl ?_
  go_wp2_with (first
    | refine Ca.wpList_store_row rfl 25 _ _ rfl w.heap.size #[.int .u32 0, .int .u32 0, .int .i64 0, .int .i64 0, .bool false, .slice none 0 0, .string ⟨#[]⟩] #[.int .u32 0, .int .u32 0, .int .i64 0, .int .i64 0, .bool false, .slice none 0 0, .string ⟨#[]⟩] 25 rfl rfl P2.out (by kernel_rfl) rfl (by kernel_rfl) ?_
    | fail)
  intro W11 y1 y2 y3 y4
  go_wp2
  simp only [Exit.jumpTo]
  exact bodyPost_ret (results_tb (p := 2) (u := 3) rfl _ _ w.heap.size _ rfl y1 rfl) rfl ⟨rfl, (B2.out).trans (y4.mono (Nat.le_refl _))⟩
theorem read_no (b off n cap : Nat) (zs : List Int) (w : World) (h : BS w (some ⟨b, off, none⟩) n zs) (hcap : n ≤ cap) (hm : cap ≤ 9223372036854775807) (hno : n < 8 ∨ n < behD zs ∨ rdO (optsD zs) = none) :
    Calls Try.prog 26 #[.slice (some ⟨b, off, none⟩) n cap] w fun e w' => e = .returned (.tuple #[.agg #[.int .u32 0, .int .u32 0, .int .i64 0, .int .i64 0, .bool false, .slice none 0 0, .string ⟨#[]⟩], .bool false]) ∧ Below w.heap.size w w' := by
  have hl := h.len
  by_cases h8 : n < 8
  · exact read_short b off n cap w h8
  by_cases hb : n < behD zs
  · exact read_beh b off n cap zs w h (by omega) hb
  have hos : rdO (optsD zs) = none := by
    rcases hno with q | q | q
    · exact absurd q h8
    · exact absurd q hb
    · exact q
  by_cases hc : cap = 8
  · have hb8 := behD_bd zs
    have : optsD zs = [] := by unfold optsD; rw [show behD zs - 8 = 0 by omega]; rfl
    rw [this, rdO_nil rfl] at hos
    cases hos
  · exact read_none b off n cap zs w h hcap hm (by omega) (by omega) hc hos
/-- Decap refuses: by what the datagram says, or what it holds. -/
def Ref (f : Int) (w : World) (e : Ending) (w' : World) : Prop :=
  e = .returned (.tuple #[.agg #[.int .u32 0, .int .u32 0, .int .i64 0, .int .i64 0, .bool false, .slice none 0 0, .string ⟨#[]⟩], .int .i64 (if f = 0 then 70 else f)]) ∧ Below w.heap.size w w'
set_option maxHeartbeats 8000000 in
theorem decap_bad (w : World) (b off n cap : Nat) (zs : List Int) (h : BS w (some ⟨b, off, none⟩) n zs) (hcap : n ≤ cap) (m T : Nat) (_hm : 0 < m) (hmT : m ≤ T) (hTn : T ≤ n) (hcm : ¬ cap = m)
    (tos id fr ttl pr src dst : Int) (io : List Int)
    (HI : Hid (∀ W, BS W (some ⟨b, off, none⟩) n zs → Calls Try.prog 24 #[.slice (some ⟨b, off, none⟩) n cap] W fun e w' => e = .returned (.tuple #[.agg #[.int .i64 tos, .int .i64 id, .int .i64 fr, .int .i64 ttl, .int .i64 pr, .int .u32 src, .int .u32 dst, .string (strOfNums io)], .int .i64 m, .int .i64 T, .int .i64 0]) ∧ Below W.heap.size W w'))
    (k ty co re sp dp : Int) (ns : Bool) (sq ak fl wi ur : Int) (lo ds : List Int) (f : Int) (hdf : Fit ds) (hdl : ds.length ≤ 100000)
    (HL : Hid (∀ W, BS W (some ⟨b, off, none⟩) n zs → Calls Try.prog 25 #[.int .u32 src, .int .u32 dst, .int .i64 pr, .slice (some ⟨b, off + m, none⟩) (T - m) (cap - m)] W fun e w' => e = .returned (.tuple #[.agg #[.int .i64 k, .int .i64 ty, .int .i64 co, .int .u32 re, .int .i64 sp, .int .i64 dp, .bool ns, .int .u32 sq, .int .u32 ak, .int .i64 fl, .int .i64 wi, .int .i64 ur, .string (strOfNums lo), .string (strOfNums ds)], .int .i64 f]) ∧ Below W.heap.size W w'))
    (HR : Hid (f = 0 → ∀ W g c, BS W (some ⟨g, 0, none⟩) ds.length ds → ds.length ≤ c → c ≤ 9223372036854775807 → Calls Try.prog 26 #[.slice (some ⟨g, 0, none⟩) ds.length c] W fun e w' => e = .returned (.tuple #[.agg #[.int .u32 0, .int .u32 0, .int .i64 0, .int .i64 0, .bool false, .slice none 0 0, .string ⟨#[]⟩], .bool false]) ∧ Below W.heap.size W w')) :
    Calls Try.prog 10 #[.slice (some ⟨b, off, none⟩) n cap] w fun e w' => Ref f w e w' := by
  have H : Hid (BS w (some ⟨b, off, none⟩) n zs) := h
  have i1 : (m : Int) ≤ (T : Int) := by omega
  have i2 : (T : Int) ≤ (n : Int) := by omega
  have i3 : (n : Int) ≤ (cap : Int) := by omega
  have i4 : (T : Int) ≤ (cap : Int) := by omega
  have i5 : (m : Int) ≤ (cap : Int) := by omega
  have B0 : Hid (Below w.heap.size w (((w.alloc (.cells #[.int .u32 0, .int .u32 0, .int .i64 0, .int .i64 0, .bool false, .slice none 0 0, .string ⟨#[]⟩] 25)).alloc (.cells #[.int .u32 0, .int .u32 0, .int .i64 0, .int .i64 0, .bool false, .slice none 0 0, .string ⟨#[]⟩] 25)).alloc (.cells #[.int .i64 0, .int .i64 0, .int .i64 0, .int .u32 0, .int .i64 0, .int .i64 0, .bool false, .int .u32 0, .int .u32 0, .int .i64 0, .int .i64 0, .int .i64 0, .string ⟨#[]⟩, .string ⟨#[]⟩] 48))) := Ca.below3 w _ _ _
  have P0 : Hid ((((w.alloc (.cells #[.int .u32 0, .int .u32 0, .int .i64 0, .int .i64 0, .bool false, .slice none 0 0, .string ⟨#[]⟩] 25)).alloc (.cells #[.int .u32 0, .int .u32 0, .int .i64 0, .int .i64 0, .bool false, .slice none 0 0, .string ⟨#[]⟩] 25)).alloc (.cells #[.int .i64 0, .int .i64 0, .int .i64 0, .int .u32 0, .int .i64 0, .int .i64 0, .bool false, .int .u32 0, .int .u32 0, .int .i64 0, .int .i64 0, .int .i64 0, .string ⟨#[]⟩, .string ⟨#[]⟩] 48)).heap[w.heap.size]? = some (.cells #[.int .u32 0, .int .u32 0, .int .i64 0, .int .i64 0, .bool false, .slice none 0 0, .string ⟨#[]⟩] 25 (0, 0))) := Ca.three_first w _ _ _
  have Q0 : Hid ((((w.alloc (.cells #[.int .u32 0, .int .u32 0, .int .i64 0, .int .i64 0, .bool false, .slice none 0 0, .string ⟨#[]⟩] 25)).alloc (.cells #[.int .u32 0, .int .u32 0, .int .i64 0, .int .i64 0, .bool false, .slice none 0 0, .string ⟨#[]⟩] 25)).alloc (.cells #[.int .i64 0, .int .i64 0, .int .i64 0, .int .u32 0, .int .i64 0, .int .i64 0, .bool false, .int .u32 0, .int .u32 0, .int .i64 0, .int .i64 0, .int .i64 0, .string ⟨#[]⟩, .string ⟨#[]⟩] 48)).heap[w.heap.size + 1]? = some (.cells #[.int .u32 0, .int .u32 0, .int .i64 0, .int .i64 0, .bool false, .slice none 0 0, .string ⟨#[]⟩] 25 (0, 0))) := three_mid w _ _ _
  have R0 : Hid ((((w.alloc (.cells #[.int .u32 0, .int .u32 0, .int .i64 0, .int .i64 0, .bool false, .slice none 0 0, .string ⟨#[]⟩] 25)).alloc (.cells #[.int .u32 0, .int .u32 0, .int .i64 0, .int .i64 0, .bool false, .slice none 0 0, .string ⟨#[]⟩] 25)).alloc (.cells #[.int .i64 0, .int .i64 0, .int .i64 0, .int .u32 0, .int .i64 0, .int .i64 0, .bool false, .int .u32 0, .int .u32 0, .int .i64 0, .int .i64 0, .int .i64 0, .string ⟨#[]⟩, .string ⟨#[]⟩] 48)).heap[w.heap.size + 2]? = some (.cells #[.int .i64 0, .int .i64 0, .int .i64 0, .int .u32 0, .int .i64 0, .int .i64 0, .bool false, .int .u32 0, .int .u32 0, .int .i64 0, .int .i64 0, .int .i64 0, .string ⟨#[]⟩, .string ⟨#[]⟩] 48 (0, 0))) := three_lastg w _ _ _
  clear h
  go_enter Try.func10, Try.ntmps10
  go_wp2_with fail
  refine scope_from ?_
  go_wp2_with fail
  refine (HI.out _ (H.out.below B0.out)).mono ?_
  rintro e W1 ⟨rfl, hb⟩
  have B1 : Hid (Below w.heap.size w W1) := B0.out.trans (hb.mono B0.out.size)
  have P1 : Hid (W1.heap[w.heap.size]? = some (.cells #[.int .u32 0, .int .u32 0, .int .i64 0, .int .i64 0, .bool false, .slice none 0 0, .string ⟨#[]⟩] 25 (0, 0))) := (hb.block _ (Ca.lt_of_heap P0.out)).trans P0.out
  have Q1 : Hid (W1.heap[w.heap.size + 1]? = some (.cells #[.int .u32 0, .int .u32 0, .int .i64 0, .int .i64 0, .bool false, .slice none 0 0, .string ⟨#[]⟩] 25 (0, 0))) := (hb.block _ (Ca.lt_of_heap Q0.out)).trans Q0.out
  have R1 : Hid (W1.heap[w.heap.size + 2]? = some (.cells #[.int .i64 0, .int .i64 0, .int .i64 0, .int .u32 0, .int .i64 0, .int .i64 0, .bool false, .int .u32 0, .int .u32 0, .int .i64 0, .int .i64 0, .int .i64 0, .string ⟨#[]⟩, .string ⟨#[]⟩] 48 (0, 0))) := (hb.block _ (Ca.lt_of_heap R0.out)).trans R0.out
  clear hb HI B0 P0 Q0 R0
  go_wp2_with fail
  have hbA := below1 W1 (.cells #[.int .i64 tos, .int .i64 id, .int .i64 fr, .int .i64 ttl, .int .i64 pr, .int .u32 src, .int .u32 dst, .string (strOfNums io)] 51)
  have B2 : Hid (Below w.heap.size w (W1.alloc (.cells #[.int .i64 tos, .int .i64 id, .int .i64 fr, .int .i64 ttl, .int .i64 pr, .int .u32 src, .int .u32 dst, .string (strOfNums io)] 51))) := B1.out.trans (hbA.mono B1.out.size)
  have P2 : Hid ((W1.alloc (.cells #[.int .i64 tos, .int .i64 id, .int .i64 fr, .int .i64 ttl, .int .i64 pr, .int .u32 src, .int .u32 dst, .string (strOfNums io)] 51)).heap[w.heap.size]? = some (.cells #[.int .u32 0, .int .u32 0, .int .i64 0, .int .i64 0, .bool false, .slice none 0 0, .string ⟨#[]⟩] 25 (0, 0))) := (hbA.block _ (Ca.lt_of_heap P1.out)).trans P1.out
  have Q2 : Hid ((W1.alloc (.cells #[.int .i64 tos, .int .i64 id, .int .i64 fr, .int .i64 ttl, .int .i64 pr, .int .u32 src, .int .u32 dst, .string (strOfNums io)] 51)).heap[w.heap.size + 1]? = some (.cells #[.int .u32 0, .int .u32 0, .int .i64 0, .int .i64 0, .bool false, .slice none 0 0, .string ⟨#[]⟩] 25 (0, 0))) := (hbA.block _ (Ca.lt_of_heap Q1.out)).trans Q1.out
  have R2 : Hid ((W1.alloc (.cells #[.int .i64 tos, .int .i64 id, .int .i64 fr, .int .i64 ttl, .int .i64 pr, .int .u32 src, .int .u32 dst, .string (strOfNums io)] 51)).heap[w.heap.size + 2]? = some (.cells #[.int .i64 0, .int .i64 0, .int .i64 0, .int .u32 0, .int .i64 0, .int .i64 0, .bool false, .int .u32 0, .int .u32 0, .int .i64 0, .int .i64 0, .int .i64 0, .string ⟨#[]⟩, .string ⟨#[]⟩] 48 (0, 0))) := (hbA.block _ (Ca.lt_of_heap R1.out)).trans R1.out
  have I2 : Hid ((W1.alloc (.cells #[.int .i64 tos, .int .i64 id, .int .i64 fr, .int .i64 ttl, .int .i64 pr, .int .u32 src, .int .u32 dst, .string (strOfNums io)] 51)).heap[W1.heap.size]? = some (.cells #[.int .i64 tos, .int .i64 id, .int .i64 fr, .int .i64 ttl, .int .i64 pr, .int .u32 src, .int .u32 dst, .string (strOfNums io)] 51 (0, 0))) := heap_alloc_new W1 _
  have N2 : Hid (w.heap.size + 2 < W1.heap.size) := Ca.lt_of_heap R1.out
  obtain ⟨W2, hW⟩ : ∃ V, W1.alloc (.cells #[.int .i64 tos, .int .i64 id, .int .i64 fr, .int .i64 ttl, .int .i64 pr, .int .u32 src, .int .u32 dst, .string (strOfNums io)] 51) = V := ⟨_, rfl⟩
  obtain ⟨g8, hg⟩ : ∃ V, W1.heap.size = V := ⟨_, rfl⟩
  rw [hW] at B2 P2 Q2 R2 I2 ⊢
  rw [hg] at I2 N2 ⊢
  clear hW hg hbA B1 P1 Q1 R1
  have KC : Hid (∀ W, Below W2.heap.size W2 W → W.cell? ⟨g8, 5, none⟩ = some (.int .u32 src) ∧ W.cell? ⟨g8, 6, none⟩ = some (.int .u32 dst) ∧ W.cell? ⟨g8, 4, none⟩ = some (.int .i64 pr)) := fun W hb => by
    have e := (hb.block _ (Ca.lt_of_heap I2.out)).trans I2.out
    exact ⟨cells14g e 5, cells14g e 6, cells14g e 4⟩
  refine wp_region_held_drew (S := (fun W => W.cell? ⟨g8, 5, none⟩ = some (.int .u32 src) ∧ W.cell? ⟨g8, 6, none⟩ = some (.int .u32 dst) ∧ W.cell? ⟨g8, 4, none⟩ = some (.int .i64 pr))) (by kernel_rfl) ?_ (fun hHeld => ?_)
  · exact KC.out _ (Below.refl _ _).drew
  refine wpAnyH_take (i := 0) (v := ?_) rfl (by kernel_rfl) (by kernel_rfl) (by kernel_rfl) (fun _ _ _ h => h) (Or.inl ⟨by rfl, ?_⟩) (by assumption) ?_
  rotate_left
  · (intro w hSw; (try dsimp only at hSw); go_simp; try with_reducible rfl)
  try simp only [List.getElem_toArray, List.getElem_cons_zero, List.getElem_cons_succ, Act.put, List.setIfInBounds_toArray, List.set_cons_zero, List.set_cons_succ]
  refine wpAnyH_take (i := 1) (v := ?_) rfl (by kernel_rfl) (by kernel_rfl) (by kernel_rfl) (fun _ _ _ h => h) (Or.inl ⟨by rfl, ?_⟩) (by assumption) ?_
  rotate_left
  · (intro w hSw; (try dsimp only at hSw); go_simp; try with_reducible rfl)
  try simp only [List.getElem_toArray, List.getElem_cons_zero, List.getElem_cons_succ, Act.put, List.setIfInBounds_toArray, List.set_cons_zero, List.set_cons_succ]
  refine wpAnyH_take (i := 2) (v := ?_) rfl (by kernel_rfl) (by kernel_rfl) (by kernel_rfl) (fun _ _ _ h => h) (Or.inl ⟨by rfl, ?_⟩) (by assumption) ?_
  rotate_left
  · (intro w hSw; (try dsimp only at hSw); go_simp; try with_reducible rfl)
  try simp only [List.getElem_toArray, List.getElem_cons_zero, List.getElem_cons_succ, Act.put, List.setIfInBounds_toArray, List.set_cons_zero, List.set_cons_succ]
  refine wpAnyH_take (i := 3) (v := ?_) rfl (by kernel_rfl) (by kernel_rfl) (by kernel_rfl) (fun _ _ _ h => h) (Or.inl ⟨by rfl, ?_⟩) (by assumption) ?_
  rotate_left
  · (intro w hSw; (try dsimp only at hSw); go_simp; try with_reducible rfl)
  try simp only [List.getElem_toArray, List.getElem_cons_zero, List.getElem_cons_succ, Act.put, List.setIfInBounds_toArray, List.set_cons_zero, List.set_cons_succ]
  refine wpAnyH_take (i := 4) (v := ?_) rfl (by kernel_rfl) (by kernel_rfl) (by kernel_rfl) (fun _ _ _ h => h) (Or.inl ⟨by rfl, ?_⟩) (by assumption) ?_
  rotate_left
  · (intro w hSw; (try dsimp only at hSw); go_simp; try with_reducible rfl)
  try simp only [List.getElem_toArray, List.getElem_cons_zero, List.getElem_cons_succ, Act.put, List.setIfInBounds_toArray, List.set_cons_zero, List.set_cons_succ]
  refine wpAnyH_take (i := 5) (v := ?_) rfl (by kernel_rfl) (by kernel_rfl) (by kernel_rfl) (fun _ _ _ h => h) (Or.inl ⟨by rfl, ?_⟩) (by assumption) ?_
  rotate_left
  · (intro w hSw; (try dsimp only at hSw); go_simp; try with_reducible rfl)
  try simp only [List.getElem_toArray, List.getElem_cons_zero, List.getElem_cons_succ, Act.put, List.setIfInBounds_toArray, List.set_cons_zero, List.set_cons_succ]
  refine wpAnyH_take (i := 6) (v := ?_) rfl (by kernel_rfl) (by kernel_rfl) (by kernel_rfl) (fun _ _ _ h => h) (Or.inl ⟨by rfl, ?_⟩) (by assumption) ?_
  rotate_left
  · (intro w hSw; (try dsimp only at hSw); go_simp; try with_reducible rfl)
  try simp only [List.getElem_toArray, List.getElem_cons_zero, List.getElem_cons_succ, Act.put, List.setIfInBounds_toArray, List.set_cons_zero, List.set_cons_succ]
  refine wpAnyH_take (i := 7) (v := ?_) rfl (by kernel_rfl) (by kernel_rfl) (by kernel_rfl) (fun _ _ _ h => h) (Or.inl ⟨by rfl, ?_⟩) (by assumption) ?_
  rotate_left
  · (intro w hSw; (try dsimp only at hSw); go_simp; try with_reducible rfl)
  try simp only [List.getElem_toArray, List.getElem_cons_zero, List.getElem_cons_succ, Act.put, List.setIfInBounds_toArray, List.set_cons_zero, List.set_cons_succ]
  refine wpAnyH_take (i := 8) (v := ?_) rfl (by kernel_rfl) (by kernel_rfl) (by kernel_rfl) (fun _ _ _ h => h) (Or.inl ⟨by rfl, ?_⟩) (by assumption) ?_
  rotate_left
  · (intro w hSw; (try dsimp only at hSw); go_simp; try with_reducible rfl)
  try simp only [List.getElem_toArray, List.getElem_cons_zero, List.getElem_cons_succ, Act.put, List.setIfInBounds_toArray, List.set_cons_zero, List.set_cons_succ]
  refine wpAnyH_take (i := 9) (v := ?_) rfl (by kernel_rfl) (by kernel_rfl) (by kernel_rfl) (fun _ _ _ h => h) (Or.inl ⟨by rfl, ?_⟩) (by assumption) ?_
  rotate_left
  · (intro w hSw; (try dsimp only at hSw); go_simp; try with_reducible rfl)
  try simp only [List.getElem_toArray, List.getElem_cons_zero, List.getElem_cons_succ, Act.put, List.setIfInBounds_toArray, List.set_cons_zero, List.set_cons_succ]
  refine wpAnyH_ready (rs := [10]) (by kernel_rfl) (by simp) ?_
  refine AllReadyH.cons (o := _) rfl (fun K hK => ?_) AllReadyH.nil
  go_simp
  refine (HL.out _ (H.out.below B2.out.drew)).mono ?_
  rintro e W3 ⟨rfl, hb⟩
  have hb' : Below W2.heap.size W2 W3 := (Below.refl _ _).drew.trans hb
  go_wp2_with fail
  refine hK.out _ _ (KC.out _ hb') (fun hHeld2 => ?_)
  clear hK K hHeld hb
  try simp only [List.getElem_toArray, List.getElem_cons_zero, List.getElem_cons_succ, Act.put, List.setIfInBounds_toArray, List.set_cons_zero, List.set_cons_succ]
  refine wpAnyH_take (i := 11) (v := ?_) rfl (by kernel_rfl) (by kernel_rfl) (by kernel_rfl) (fun _ _ _ h => h) (Or.inl ⟨by rfl, ?_⟩) (by assumption) ?_
  rotate_left
  · (intro w hSw; (try dsimp only at hSw); go_simp; try with_reducible rfl)
  try simp only [List.getElem_toArray, List.getElem_cons_zero, List.getElem_cons_succ, Act.put, List.setIfInBounds_toArray, List.set_cons_zero, List.set_cons_succ]
  refine wpAnyH_take (i := 12) (v := ?_) rfl (by kernel_rfl) (by kernel_rfl) (by kernel_rfl) (fun _ _ _ h => h) (Or.inl ⟨by rfl, ?_⟩) (by assumption) ?_
  rotate_left
  · (intro w hSw; (try dsimp only at hSw); go_simp; try with_reducible rfl)
  try simp only [List.getElem_toArray, List.getElem_cons_zero, List.getElem_cons_succ, Act.put, List.setIfInBounds_toArray, List.set_cons_zero, List.set_cons_succ]
  refine wpAnyH_take (i := 13) (v := ?_) rfl (by kernel_rfl) (by kernel_rfl) (by kernel_rfl) (fun _ _ _ h => h) (Or.inl ⟨by rfl, ?_⟩) (by assumption) ?_
  rotate_left
  · (intro w hSw; (try dsimp only at hSw); go_simp; try with_reducible rfl)
  try simp only [List.getElem_toArray, List.getElem_cons_zero, List.getElem_cons_succ, Act.put, List.setIfInBounds_toArray, List.set_cons_zero, List.set_cons_succ]
  refine wpAnyH_ready (rs := [14]) (by kernel_rfl) (by simp) ?_
  refine AllReadyH.cons (o := _) rfl (fun K hK => ?_) AllReadyH.nil
  have hr5 : W3.heap[w.heap.size + 2]? = some (.cells #[.int .i64 0, .int .i64 0, .int .i64 0, .int .u32 0, .int .i64 0, .int .i64 0, .bool false, .int .u32 0, .int .u32 0, .int .i64 0, .int .i64 0, .int .i64 0, .string ⟨#[]⟩, .string ⟨#[]⟩] 48 (0, 0)) := (hb'.block _ (Ca.lt_of_heap R2.out)).trans R2.out
  refine Ca.step_store_at rfl 48 _ _ rfl (w.heap.size + 2) 0 #[.int .i64 0, .int .i64 0, .int .i64 0, .int .u32 0, .int .i64 0, .int .i64 0, .bool false, .int .u32 0, .int .u32 0, .int .i64 0, .int .i64 0, .int .i64 0, .string ⟨#[]⟩, .string ⟨#[]⟩] #[.int .i64 k, .int .i64 ty, .int .i64 co, .int .u32 re, .int .i64 sp, .int .i64 dp, .bool ns, .int .u32 sq, .int .u32 ak, .int .i64 fl, .int .i64 wi, .int .i64 ur, .string (strOfNums lo), .string (strOfNums ds)] 48 rfl rfl hr5 (by kernel_rfl) (Nat.le_of_ble_eq_true (by kernel_rfl)) (by kernel_rfl) ?_
  intro W4 y1 y2 y3 y4
  have R4 : Hid (W4.heap[w.heap.size + 2]? = some (.cells #[.int .i64 k, .int .i64 ty, .int .i64 co, .int .u32 re, .int .i64 sp, .int .i64 dp, .bool ns, .int .u32 sq, .int .u32 ak, .int .i64 fl, .int .i64 wi, .int .i64 ur, .string (strOfNums lo), .string (strOfNums ds)] 48 (0, 0))) := by show _ = _; rw [← put_l4c k ty co re sp dp ns sq ak fl wi ur lo ds]; exact y1
  have P4 : Hid (W4.heap[w.heap.size]? = some (.cells #[.int .u32 0, .int .u32 0, .int .i64 0, .int .i64 0, .bool false, .slice none 0 0, .string ⟨#[]⟩] 25 (0, 0))) := (y2 _ (by omega)).trans ((hb'.block _ (Ca.lt_of_heap P2.out)).trans P2.out)
  have Q4 : Hid (W4.heap[w.heap.size + 1]? = some (.cells #[.int .u32 0, .int .u32 0, .int .i64 0, .int .i64 0, .bool false, .slice none 0 0, .string ⟨#[]⟩] 25 (0, 0))) := (y2 _ (by omega)).trans ((hb'.block _ (Ca.lt_of_heap Q2.out)).trans Q2.out)
  have I4 : Hid (W4.heap[g8]? = some (.cells #[.int .i64 tos, .int .i64 id, .int .i64 fr, .int .i64 ttl, .int .i64 pr, .int .u32 src, .int .u32 dst, .string (strOfNums io)] 51 (0, 0))) := (y2 _ (by have := N2.out; omega)).trans ((hb'.block _ (Ca.lt_of_heap I2.out)).trans I2.out)
  have B4 : Hid (Below w.heap.size w W4) := (B2.out.trans (hb'.mono B2.out.size)).trans (y4.mono (by omega))
  refine hK.out _ _ ⟨cells14g I4.out 5, cells14g I4.out 6, cells14g I4.out 4⟩ (fun hHeld3 => ?_)
  clear hK K hHeld2 hb' hr5 y1 y2 y3 y4 B2 P2 Q2 R2 I2 KC
  try simp only [List.getElem_toArray, List.getElem_cons_zero, List.getElem_cons_succ, Act.put, List.setIfInBounds_toArray, List.set_cons_zero, List.set_cons_succ]
  refine wpAnyH_take (i := 15) (v := ?_) rfl (by kernel_rfl) (by kernel_rfl) (by kernel_rfl) (fun _ _ _ h => h) (Or.inl ⟨by rfl, ?_⟩) (by assumption) ?_
  rotate_left
  · (intro w hSw; (try dsimp only at hSw); go_simp; try with_reducible rfl)
  try simp only [List.getElem_toArray, List.getElem_cons_zero, List.getElem_cons_succ, Act.put, List.setIfInBounds_toArray, List.set_cons_zero, List.set_cons_succ]
  clear hHeld3
  refine wpAnyH_done (by kernel_rfl) ?_ _
  by_cases hf0 : f = 0
  · subst hf0
    have c13 := cells14g R4.out 13
    simp only [List.getElem?_toArray, List.getElem?_cons_succ, List.getElem?_cons_zero] at c13
    obtain ⟨cp, W5, hrun, hB5, hbel, hcp, hcpm⟩ := conv_text W4 ds hdf (by omega)
    have B5 : Hid (Below w.heap.size w W5) := B4.out.trans (hbel.mono B4.out.size)
    have R5 : Hid (W5.heap[w.heap.size + 2]? = some (.cells #[.int .i64 k, .int .i64 ty, .int .i64 co, .int .u32 re, .int .i64 sp, .int .i64 dp, .bool ns, .int .u32 sq, .int .u32 ak, .int .i64 fl, .int .i64 wi, .int .i64 ur, .string (strOfNums lo), .string (strOfNums ds)] 48 (0, 0))) := (hbel.block _ (Ca.lt_of_heap R4.out)).trans R4.out
    have P5 : Hid (W5.heap[w.heap.size]? = some (.cells #[.int .u32 0, .int .u32 0, .int .i64 0, .int .i64 0, .bool false, .slice none 0 0, .string ⟨#[]⟩] 25 (0, 0))) := (hbel.block _ (Ca.lt_of_heap P4.out)).trans P4.out
    have Q5 : Hid (W5.heap[w.heap.size + 1]? = some (.cells #[.int .u32 0, .int .u32 0, .int .i64 0, .int .i64 0, .bool false, .slice none 0 0, .string ⟨#[]⟩] 25 (0, 0))) := (hbel.block _ (Ca.lt_of_heap Q4.out)).trans Q4.out
    have I5 : Hid (W5.heap[g8]? = some (.cells #[.int .i64 tos, .int .i64 id, .int .i64 fr, .int .i64 ttl, .int .i64 pr, .int .u32 src, .int .u32 dst, .string (strOfNums io)] 51 (0, 0))) := (hbel.block _ (Ca.lt_of_heap I4.out)).trans I4.out
    have S5 : Hid _ := hB5
    have HCP : Hid _ := hcp
    have HCM : Hid _ := hcpm
    clear hB5 hbel hcp hcpm
    go_wp2_with fail
    refine (HR.out (by first | rfl | trivial) _ _ _ S5.out HCP.out HCM.out).mono ?_
    rintro e W6 ⟨rfl, hb⟩
    have B6 : Hid (Below w.heap.size w W6) := B5.out.trans (hb.mono B5.out.size)
    have P6 : Hid (W6.heap[w.heap.size]? = some (.cells #[.int .u32 0, .int .u32 0, .int .i64 0, .int .i64 0, .bool false, .slice none 0 0, .string ⟨#[]⟩] 25 (0, 0))) := (hb.block _ (Ca.lt_of_heap P5.out)).trans P5.out
    have Q6 : Hid (W6.heap[w.heap.size + 1]? = some (.cells #[.int .u32 0, .int .u32 0, .int .i64 0, .int .i64 0, .bool false, .slice none 0 0, .string ⟨#[]⟩] 25 (0, 0))) := (hb.block _ (Ca.lt_of_heap Q5.out)).trans Q5.out
    clear hb hrun c13 B4 R4 P4 Q4 I4 B5 R5 P5 Q5 I5 S5 HCP HR
    go_wp2_with (first
      | refine Ca.wpList_store_row rfl 25 _ _ rfl (w.heap.size + 1) #[.int .u32 0, .int .u32 0, .int .i64 0, .int .i64 0, .bool false, .slice none 0 0, .string ⟨#[]⟩] #[.int .u32 0, .int .u32 0, .int .i64 0, .int .i64 0, .bool false, .slice none 0 0, .string ⟨#[]⟩] 25 rfl rfl Q6.out (by kernel_rfl) rfl (by kernel_rfl) ?_
      | fail)
    intro W7 y1 y2 y3 y4
    have B7 : Hid (Below w.heap.size w W7) := B6.out.trans (y4.mono (by omega))
    have P7 : Hid (W7.heap[w.heap.size]? = some (.cells #[.int .u32 0, .int .u32 0, .int .i64 0, .int .i64 0, .bool false, .slice none 0 0, .string ⟨#[]⟩] 25 (0, 0))) := (y2 _ (by omega)).trans P6.out
    clear y1 y2 y3 y4 B6 P6 Q6
    go_wp2_with fail
    go_step3
    show FromLabel _ _ _ _ _ _
    refine from_label rfl ?_
    go_wp2_with (first
      | refine Ca.wpList_store_row rfl 25 _ _ rfl w.heap.size #[.int .u32 0, .int .u32 0, .int .i64 0, .int .i64 0, .bool false, .slice none 0 0, .string ⟨#[]⟩] #[.int .u32 0, .int .u32 0, .int .i64 0, .int .i64 0, .bool false, .slice none 0 0, .string ⟨#[]⟩] 25 rfl rfl P7.out (by kernel_rfl) rfl (by kernel_rfl) ?_
      | fail)
    intro W11 y1 y2 y3 y4
    go_wp2
    simp only [Exit.jumpTo]
    exact bodyPost_ret (results_tb (p := 2) (u := 3) rfl _ _ w.heap.size _ rfl y1 rfl) rfl ⟨rfl, (B7.out).trans (y4.mono (Nat.le_refl _))⟩
  · have hf : (f != 0) = true := by simpa using hf0
    clear hf0
    go_wp2_with fail
    go_step3
    show FromLabel _ _ _ _ _ _
    refine from_label rfl ?_
    go_wp2_with (first
      | refine Ca.wpList_store_row rfl 25 _ _ rfl w.heap.size #[.int .u32 0, .int .u32 0, .int .i64 0, .int .i64 0, .bool false, .slice none 0 0, .string ⟨#[]⟩] #[.int .u32 0, .int .u32 0, .int .i64 0, .int .i64 0, .bool false, .slice none 0 0, .string ⟨#[]⟩] 25 rfl rfl P4.out (by kernel_rfl) rfl (by kernel_rfl) ?_
      | fail)
    intro W11 y1 y2 y3 y4
    go_wp2
    simp only [Exit.jumpTo]
    exact bodyPost_ret (results_tb (p := 2) (u := 3) rfl _ _ w.heap.size _ rfl y1 rfl) rfl ⟨by rw [if_neg (show ¬ f = 0 by simpa using hf)]; rfl, (B4.out).trans (y4.mono (Nat.le_refl _))⟩
set_option maxHeartbeats 8000000 in
theorem decap_bad_t (w : World) (b off m : Nat) (zs : List Int) (h : BS w (some ⟨b, off, none⟩) m zs)   (_hm : 0 < m)
    (tos id fr ttl pr src dst : Int) (io : List Int)
    (HI : Hid (∀ W, BS W (some ⟨b, off, none⟩) m zs → Calls Try.prog 24 #[.slice (some ⟨b, off, none⟩) m m] W fun e w' => e = .returned (.tuple #[.agg #[.int .i64 tos, .int .i64 id, .int .i64 fr, .int .i64 ttl, .int .i64 pr, .int .u32 src, .int .u32 dst, .string (strOfNums io)], .int .i64 m, .int .i64 m, .int .i64 0]) ∧ Below W.heap.size W w'))
    (k ty co re sp dp : Int) (ns : Bool) (sq ak fl wi ur : Int) (lo ds : List Int) (f : Int) (hdf : Fit ds) (hdl : ds.length ≤ 100000)
    (HL : Hid (∀ W, BS W (some ⟨b, off, none⟩) m zs → Calls Try.prog 25 #[.int .u32 src, .int .u32 dst, .int .i64 pr, .slice (some ⟨b, off, none⟩) 0 0] W fun e w' => e = .returned (.tuple #[.agg #[.int .i64 k, .int .i64 ty, .int .i64 co, .int .u32 re, .int .i64 sp, .int .i64 dp, .bool ns, .int .u32 sq, .int .u32 ak, .int .i64 fl, .int .i64 wi, .int .i64 ur, .string (strOfNums lo), .string (strOfNums ds)], .int .i64 f]) ∧ Below W.heap.size W w'))
    (HR : Hid (f = 0 → ∀ W g c, BS W (some ⟨g, 0, none⟩) ds.length ds → ds.length ≤ c → c ≤ 9223372036854775807 → Calls Try.prog 26 #[.slice (some ⟨g, 0, none⟩) ds.length c] W fun e w' => e = .returned (.tuple #[.agg #[.int .u32 0, .int .u32 0, .int .i64 0, .int .i64 0, .bool false, .slice none 0 0, .string ⟨#[]⟩], .bool false]) ∧ Below W.heap.size W w')) :
    Calls Try.prog 10 #[.slice (some ⟨b, off, none⟩) m m] w fun e w' => Ref f w e w' := by
  have H : Hid (BS w (some ⟨b, off, none⟩) m zs) := h
  have B0 : Hid (Below w.heap.size w (((w.alloc (.cells #[.int .u32 0, .int .u32 0, .int .i64 0, .int .i64 0, .bool false, .slice none 0 0, .string ⟨#[]⟩] 25)).alloc (.cells #[.int .u32 0, .int .u32 0, .int .i64 0, .int .i64 0, .bool false, .slice none 0 0, .string ⟨#[]⟩] 25)).alloc (.cells #[.int .i64 0, .int .i64 0, .int .i64 0, .int .u32 0, .int .i64 0, .int .i64 0, .bool false, .int .u32 0, .int .u32 0, .int .i64 0, .int .i64 0, .int .i64 0, .string ⟨#[]⟩, .string ⟨#[]⟩] 48))) := Ca.below3 w _ _ _
  have P0 : Hid ((((w.alloc (.cells #[.int .u32 0, .int .u32 0, .int .i64 0, .int .i64 0, .bool false, .slice none 0 0, .string ⟨#[]⟩] 25)).alloc (.cells #[.int .u32 0, .int .u32 0, .int .i64 0, .int .i64 0, .bool false, .slice none 0 0, .string ⟨#[]⟩] 25)).alloc (.cells #[.int .i64 0, .int .i64 0, .int .i64 0, .int .u32 0, .int .i64 0, .int .i64 0, .bool false, .int .u32 0, .int .u32 0, .int .i64 0, .int .i64 0, .int .i64 0, .string ⟨#[]⟩, .string ⟨#[]⟩] 48)).heap[w.heap.size]? = some (.cells #[.int .u32 0, .int .u32 0, .int .i64 0, .int .i64 0, .bool false, .slice none 0 0, .string ⟨#[]⟩] 25 (0, 0))) := Ca.three_first w _ _ _
  have Q0 : Hid ((((w.alloc (.cells #[.int .u32 0, .int .u32 0, .int .i64 0, .int .i64 0, .bool false, .slice none 0 0, .string ⟨#[]⟩] 25)).alloc (.cells #[.int .u32 0, .int .u32 0, .int .i64 0, .int .i64 0, .bool false, .slice none 0 0, .string ⟨#[]⟩] 25)).alloc (.cells #[.int .i64 0, .int .i64 0, .int .i64 0, .int .u32 0, .int .i64 0, .int .i64 0, .bool false, .int .u32 0, .int .u32 0, .int .i64 0, .int .i64 0, .int .i64 0, .string ⟨#[]⟩, .string ⟨#[]⟩] 48)).heap[w.heap.size + 1]? = some (.cells #[.int .u32 0, .int .u32 0, .int .i64 0, .int .i64 0, .bool false, .slice none 0 0, .string ⟨#[]⟩] 25 (0, 0))) := three_mid w _ _ _
  have R0 : Hid ((((w.alloc (.cells #[.int .u32 0, .int .u32 0, .int .i64 0, .int .i64 0, .bool false, .slice none 0 0, .string ⟨#[]⟩] 25)).alloc (.cells #[.int .u32 0, .int .u32 0, .int .i64 0, .int .i64 0, .bool false, .slice none 0 0, .string ⟨#[]⟩] 25)).alloc (.cells #[.int .i64 0, .int .i64 0, .int .i64 0, .int .u32 0, .int .i64 0, .int .i64 0, .bool false, .int .u32 0, .int .u32 0, .int .i64 0, .int .i64 0, .int .i64 0, .string ⟨#[]⟩, .string ⟨#[]⟩] 48)).heap[w.heap.size + 2]? = some (.cells #[.int .i64 0, .int .i64 0, .int .i64 0, .int .u32 0, .int .i64 0, .int .i64 0, .bool false, .int .u32 0, .int .u32 0, .int .i64 0, .int .i64 0, .int .i64 0, .string ⟨#[]⟩, .string ⟨#[]⟩] 48 (0, 0))) := three_lastg w _ _ _
  have i1 : (m : Int) ≤ (m : Int) := by omega
  have i2 : (0 : Int) ≤ (m : Int) := by omega
  clear h
  go_enter Try.func10, Try.ntmps10
  go_wp2_with fail
  refine scope_from ?_
  go_wp2_with fail
  refine (HI.out _ (H.out.below B0.out)).mono ?_
  rintro e W1 ⟨rfl, hb⟩
  have B1 : Hid (Below w.heap.size w W1) := B0.out.trans (hb.mono B0.out.size)
  have P1 : Hid (W1.heap[w.heap.size]? = some (.cells #[.int .u32 0, .int .u32 0, .int .i64 0, .int .i64 0, .bool false, .slice none 0 0, .string ⟨#[]⟩] 25 (0, 0))) := (hb.block _ (Ca.lt_of_heap P0.out)).trans P0.out
  have Q1 : Hid (W1.heap[w.heap.size + 1]? = some (.cells #[.int .u32 0, .int .u32 0, .int .i64 0, .int .i64 0, .bool false, .slice none 0 0, .string ⟨#[]⟩] 25 (0, 0))) := (hb.block _ (Ca.lt_of_heap Q0.out)).trans Q0.out
  have R1 : Hid (W1.heap[w.heap.size + 2]? = some (.cells #[.int .i64 0, .int .i64 0, .int .i64 0, .int .u32 0, .int .i64 0, .int .i64 0, .bool false, .int .u32 0, .int .u32 0, .int .i64 0, .int .i64 0, .int .i64 0, .string ⟨#[]⟩, .string ⟨#[]⟩] 48 (0, 0))) := (hb.block _ (Ca.lt_of_heap R0.out)).trans R0.out
  clear hb HI B0 P0 Q0 R0
  go_wp2_with fail
  have hbA := below1 W1 (.cells #[.int .i64 tos, .int .i64 id, .int .i64 fr, .int .i64 ttl, .int .i64 pr, .int .u32 src, .int .u32 dst, .string (strOfNums io)] 51)
  have B2 : Hid (Below w.heap.size w (W1.alloc (.cells #[.int .i64 tos, .int .i64 id, .int .i64 fr, .int .i64 ttl, .int .i64 pr, .int .u32 src, .int .u32 dst, .string (strOfNums io)] 51))) := B1.out.trans (hbA.mono B1.out.size)
  have P2 : Hid ((W1.alloc (.cells #[.int .i64 tos, .int .i64 id, .int .i64 fr, .int .i64 ttl, .int .i64 pr, .int .u32 src, .int .u32 dst, .string (strOfNums io)] 51)).heap[w.heap.size]? = some (.cells #[.int .u32 0, .int .u32 0, .int .i64 0, .int .i64 0, .bool false, .slice none 0 0, .string ⟨#[]⟩] 25 (0, 0))) := (hbA.block _ (Ca.lt_of_heap P1.out)).trans P1.out
  have Q2 : Hid ((W1.alloc (.cells #[.int .i64 tos, .int .i64 id, .int .i64 fr, .int .i64 ttl, .int .i64 pr, .int .u32 src, .int .u32 dst, .string (strOfNums io)] 51)).heap[w.heap.size + 1]? = some (.cells #[.int .u32 0, .int .u32 0, .int .i64 0, .int .i64 0, .bool false, .slice none 0 0, .string ⟨#[]⟩] 25 (0, 0))) := (hbA.block _ (Ca.lt_of_heap Q1.out)).trans Q1.out
  have R2 : Hid ((W1.alloc (.cells #[.int .i64 tos, .int .i64 id, .int .i64 fr, .int .i64 ttl, .int .i64 pr, .int .u32 src, .int .u32 dst, .string (strOfNums io)] 51)).heap[w.heap.size + 2]? = some (.cells #[.int .i64 0, .int .i64 0, .int .i64 0, .int .u32 0, .int .i64 0, .int .i64 0, .bool false, .int .u32 0, .int .u32 0, .int .i64 0, .int .i64 0, .int .i64 0, .string ⟨#[]⟩, .string ⟨#[]⟩] 48 (0, 0))) := (hbA.block _ (Ca.lt_of_heap R1.out)).trans R1.out
  have I2 : Hid ((W1.alloc (.cells #[.int .i64 tos, .int .i64 id, .int .i64 fr, .int .i64 ttl, .int .i64 pr, .int .u32 src, .int .u32 dst, .string (strOfNums io)] 51)).heap[W1.heap.size]? = some (.cells #[.int .i64 tos, .int .i64 id, .int .i64 fr, .int .i64 ttl, .int .i64 pr, .int .u32 src, .int .u32 dst, .string (strOfNums io)] 51 (0, 0))) := heap_alloc_new W1 _
  have N2 : Hid (w.heap.size + 2 < W1.heap.size) := Ca.lt_of_heap R1.out
  obtain ⟨W2, hW⟩ : ∃ V, W1.alloc (.cells #[.int .i64 tos, .int .i64 id, .int .i64 fr, .int .i64 ttl, .int .i64 pr, .int .u32 src, .int .u32 dst, .string (strOfNums io)] 51) = V := ⟨_, rfl⟩
  obtain ⟨g8, hg⟩ : ∃ V, W1.heap.size = V := ⟨_, rfl⟩
  rw [hW] at B2 P2 Q2 R2 I2 ⊢
  rw [hg] at I2 N2 ⊢
  clear hW hg hbA B1 P1 Q1 R1
  have KC : Hid (∀ W, Below W2.heap.size W2 W → W.cell? ⟨g8, 5, none⟩ = some (.int .u32 src) ∧ W.cell? ⟨g8, 6, none⟩ = some (.int .u32 dst) ∧ W.cell? ⟨g8, 4, none⟩ = some (.int .i64 pr)) := fun W hb => by
    have e := (hb.block _ (Ca.lt_of_heap I2.out)).trans I2.out
    exact ⟨cells14g e 5, cells14g e 6, cells14g e 4⟩
  refine wp_region_held_drew (S := (fun W => W.cell? ⟨g8, 5, none⟩ = some (.int .u32 src) ∧ W.cell? ⟨g8, 6, none⟩ = some (.int .u32 dst) ∧ W.cell? ⟨g8, 4, none⟩ = some (.int .i64 pr))) (by kernel_rfl) ?_ (fun hHeld => ?_)
  · exact KC.out _ (Below.refl _ _).drew
  refine wpAnyH_take (i := 0) (v := ?_) rfl (by kernel_rfl) (by kernel_rfl) (by kernel_rfl) (fun _ _ _ h => h) (Or.inl ⟨by rfl, ?_⟩) (by assumption) ?_
  rotate_left
  · (intro w hSw; (try dsimp only at hSw); go_simp; try with_reducible rfl)
  try simp only [List.getElem_toArray, List.getElem_cons_zero, List.getElem_cons_succ, Act.put, List.setIfInBounds_toArray, List.set_cons_zero, List.set_cons_succ]
  refine wpAnyH_take (i := 1) (v := ?_) rfl (by kernel_rfl) (by kernel_rfl) (by kernel_rfl) (fun _ _ _ h => h) (Or.inl ⟨by rfl, ?_⟩) (by assumption) ?_
  rotate_left
  · (intro w hSw; (try dsimp only at hSw); go_simp; try with_reducible rfl)
  try simp only [List.getElem_toArray, List.getElem_cons_zero, List.getElem_cons_succ, Act.put, List.setIfInBounds_toArray, List.set_cons_zero, List.set_cons_succ]
  refine wpAnyH_take (i := 2) (v := ?_) rfl (by kernel_rfl) (by kernel_rfl) (by kernel_rfl) (fun _ _ _ h => h) (Or.inl ⟨by rfl, ?_⟩) (by assumption) ?_
  rotate_left
  · (intro w hSw; (try dsimp only at hSw); go_simp; try with_reducible rfl)
  try simp only [List.getElem_toArray, List.getElem_cons_zero, List.getElem_cons_succ, Act.put, List.setIfInBounds_toArray, List.set_cons_zero, List.set_cons_succ]
  refine wpAnyH_take (i := 3) (v := ?_) rfl (by kernel_rfl) (by kernel_rfl) (by kernel_rfl) (fun _ _ _ h => h) (Or.inl ⟨by rfl, ?_⟩) (by assumption) ?_
  rotate_left
  · (intro w hSw; (try dsimp only at hSw); go_simp; try with_reducible rfl)
  try simp only [List.getElem_toArray, List.getElem_cons_zero, List.getElem_cons_succ, Act.put, List.setIfInBounds_toArray, List.set_cons_zero, List.set_cons_succ]
  refine wpAnyH_take (i := 4) (v := ?_) rfl (by kernel_rfl) (by kernel_rfl) (by kernel_rfl) (fun _ _ _ h => h) (Or.inl ⟨by rfl, ?_⟩) (by assumption) ?_
  rotate_left
  · (intro w hSw; (try dsimp only at hSw); go_simp; try with_reducible rfl)
  try simp only [List.getElem_toArray, List.getElem_cons_zero, List.getElem_cons_succ, Act.put, List.setIfInBounds_toArray, List.set_cons_zero, List.set_cons_succ]
  refine wpAnyH_take (i := 5) (v := ?_) rfl (by kernel_rfl) (by kernel_rfl) (by kernel_rfl) (fun _ _ _ h => h) (Or.inl ⟨by rfl, ?_⟩) (by assumption) ?_
  rotate_left
  · (intro w hSw; (try dsimp only at hSw); go_simp; try with_reducible rfl)
  try simp only [List.getElem_toArray, List.getElem_cons_zero, List.getElem_cons_succ, Act.put, List.setIfInBounds_toArray, List.set_cons_zero, List.set_cons_succ]
  refine wpAnyH_take (i := 6) (v := ?_) rfl (by kernel_rfl) (by kernel_rfl) (by kernel_rfl) (fun _ _ _ h => h) (Or.inl ⟨by rfl, ?_⟩) (by assumption) ?_
  rotate_left
  · (intro w hSw; (try dsimp only at hSw); go_simp; try with_reducible rfl)
  try simp only [List.getElem_toArray, List.getElem_cons_zero, List.getElem_cons_succ, Act.put, List.setIfInBounds_toArray, List.set_cons_zero, List.set_cons_succ]
  refine wpAnyH_take (i := 7) (v := ?_) rfl (by kernel_rfl) (by kernel_rfl) (by kernel_rfl) (fun _ _ _ h => h) (Or.inl ⟨by rfl, ?_⟩) (by assumption) ?_
  rotate_left
  · (intro w hSw; (try dsimp only at hSw); go_simp; try with_reducible rfl)
  try simp only [List.getElem_toArray, List.getElem_cons_zero, List.getElem_cons_succ, Act.put, List.setIfInBounds_toArray, List.set_cons_zero, List.set_cons_succ]
  refine wpAnyH_take (i := 8) (v := ?_) rfl (by kernel_rfl) (by kernel_rfl) (by kernel_rfl) (fun _ _ _ h => h) (Or.inl ⟨by rfl, ?_⟩) (by assumption) ?_
  rotate_left
  · (intro w hSw; (try dsimp only at hSw); go_simp; try with_reducible rfl)
  try simp only [List.getElem_toArray, List.getElem_cons_zero, List.getElem_cons_succ, Act.put, List.setIfInBounds_toArray, List.set_cons_zero, List.set_cons_succ]
  refine wpAnyH_take (i := 9) (v := ?_) rfl (by kernel_rfl) (by kernel_rfl) (by kernel_rfl) (fun _ _ _ h => h) (Or.inl ⟨by rfl, ?_⟩) (by assumption) ?_
  rotate_left
  · (intro w hSw; (try dsimp only at hSw); go_simp; try with_reducible rfl)
  try simp only [List.getElem_toArray, List.getElem_cons_zero, List.getElem_cons_succ, Act.put, List.setIfInBounds_toArray, List.set_cons_zero, List.set_cons_succ]
  refine wpAnyH_ready (rs := [10]) (by kernel_rfl) (by simp) ?_
  refine AllReadyH.cons (o := _) rfl (fun K hK => ?_) AllReadyH.nil
  go_simp
  refine (HL.out _ (H.out.below B2.out.drew)).mono ?_
  rintro e W3 ⟨rfl, hb⟩
  have hb' : Below W2.heap.size W2 W3 := (Below.refl _ _).drew.trans hb
  go_wp2_with fail
  refine hK.out _ _ (KC.out _ hb') (fun hHeld2 => ?_)
  clear hK K hHeld hb
  try simp only [List.getElem_toArray, List.getElem_cons_zero, List.getElem_cons_succ, Act.put, List.setIfInBounds_toArray, List.set_cons_zero, List.set_cons_succ]
  refine wpAnyH_take (i := 11) (v := ?_) rfl (by kernel_rfl) (by kernel_rfl) (by kernel_rfl) (fun _ _ _ h => h) (Or.inl ⟨by rfl, ?_⟩) (by assumption) ?_
  rotate_left
  · (intro w hSw; (try dsimp only at hSw); go_simp; try with_reducible rfl)
  try simp only [List.getElem_toArray, List.getElem_cons_zero, List.getElem_cons_succ, Act.put, List.setIfInBounds_toArray, List.set_cons_zero, List.set_cons_succ]
  refine wpAnyH_take (i := 12) (v := ?_) rfl (by kernel_rfl) (by kernel_rfl) (by kernel_rfl) (fun _ _ _ h => h) (Or.inl ⟨by rfl, ?_⟩) (by assumption) ?_
  rotate_left
  · (intro w hSw; (try dsimp only at hSw); go_simp; try with_reducible rfl)
  try simp only [List.getElem_toArray, List.getElem_cons_zero, List.getElem_cons_succ, Act.put, List.setIfInBounds_toArray, List.set_cons_zero, List.set_cons_succ]
  refine wpAnyH_take (i := 13) (v := ?_) rfl (by kernel_rfl) (by kernel_rfl) (by kernel_rfl) (fun _ _ _ h => h) (Or.inl ⟨by rfl, ?_⟩) (by assumption) ?_
  rotate_left
  · (intro w hSw; (try dsimp only at hSw); go_simp; try with_reducible rfl)
  try simp only [List.getElem_toArray, List.getElem_cons_zero, List.getElem_cons_succ, Act.put, List.setIfInBounds_toArray, List.set_cons_zero, List.set_cons_succ]
  refine wpAnyH_ready (rs := [14]) (by kernel_rfl) (by simp) ?_
  refine AllReadyH.cons (o := _) rfl (fun K hK => ?_) AllReadyH.nil
  have hr5 : W3.heap[w.heap.size + 2]? = some (.cells #[.int .i64 0, .int .i64 0, .int .i64 0, .int .u32 0, .int .i64 0, .int .i64 0, .bool false, .int .u32 0, .int .u32 0, .int .i64 0, .int .i64 0, .int .i64 0, .string ⟨#[]⟩, .string ⟨#[]⟩] 48 (0, 0)) := (hb'.block _ (Ca.lt_of_heap R2.out)).trans R2.out
  refine Ca.step_store_at rfl 48 _ _ rfl (w.heap.size + 2) 0 #[.int .i64 0, .int .i64 0, .int .i64 0, .int .u32 0, .int .i64 0, .int .i64 0, .bool false, .int .u32 0, .int .u32 0, .int .i64 0, .int .i64 0, .int .i64 0, .string ⟨#[]⟩, .string ⟨#[]⟩] #[.int .i64 k, .int .i64 ty, .int .i64 co, .int .u32 re, .int .i64 sp, .int .i64 dp, .bool ns, .int .u32 sq, .int .u32 ak, .int .i64 fl, .int .i64 wi, .int .i64 ur, .string (strOfNums lo), .string (strOfNums ds)] 48 rfl rfl hr5 (by kernel_rfl) (Nat.le_of_ble_eq_true (by kernel_rfl)) (by kernel_rfl) ?_
  intro W4 y1 y2 y3 y4
  have R4 : Hid (W4.heap[w.heap.size + 2]? = some (.cells #[.int .i64 k, .int .i64 ty, .int .i64 co, .int .u32 re, .int .i64 sp, .int .i64 dp, .bool ns, .int .u32 sq, .int .u32 ak, .int .i64 fl, .int .i64 wi, .int .i64 ur, .string (strOfNums lo), .string (strOfNums ds)] 48 (0, 0))) := by show _ = _; rw [← put_l4c k ty co re sp dp ns sq ak fl wi ur lo ds]; exact y1
  have P4 : Hid (W4.heap[w.heap.size]? = some (.cells #[.int .u32 0, .int .u32 0, .int .i64 0, .int .i64 0, .bool false, .slice none 0 0, .string ⟨#[]⟩] 25 (0, 0))) := (y2 _ (by omega)).trans ((hb'.block _ (Ca.lt_of_heap P2.out)).trans P2.out)
  have Q4 : Hid (W4.heap[w.heap.size + 1]? = some (.cells #[.int .u32 0, .int .u32 0, .int .i64 0, .int .i64 0, .bool false, .slice none 0 0, .string ⟨#[]⟩] 25 (0, 0))) := (y2 _ (by omega)).trans ((hb'.block _ (Ca.lt_of_heap Q2.out)).trans Q2.out)
  have I4 : Hid (W4.heap[g8]? = some (.cells #[.int .i64 tos, .int .i64 id, .int .i64 fr, .int .i64 ttl, .int .i64 pr, .int .u32 src, .int .u32 dst, .string (strOfNums io)] 51 (0, 0))) := (y2 _ (by have := N2.out; omega)).trans ((hb'.block _ (Ca.lt_of_heap I2.out)).trans I2.out)
  have B4 : Hid (Below w.heap.size w W4) := (B2.out.trans (hb'.mono B2.out.size)).trans (y4.mono (by omega))
  refine hK.out _ _ ⟨cells14g I4.out 5, cells14g I4.out 6, cells14g I4.out 4⟩ (fun hHeld3 => ?_)
  clear hK K hHeld2 hb' hr5 y1 y2 y3 y4 B2 P2 Q2 R2 I2 KC
  try simp only [List.getElem_toArray, List.getElem_cons_zero, List.getElem_cons_succ, Act.put, List.setIfInBounds_toArray, List.set_cons_zero, List.set_cons_succ]
  refine wpAnyH_take (i := 15) (v := ?_) rfl (by kernel_rfl) (by kernel_rfl) (by kernel_rfl) (fun _ _ _ h => h) (Or.inl ⟨by rfl, ?_⟩) (by assumption) ?_
  rotate_left
  · (intro w hSw; (try dsimp only at hSw); go_simp; try with_reducible rfl)
  try simp only [List.getElem_toArray, List.getElem_cons_zero, List.getElem_cons_succ, Act.put, List.setIfInBounds_toArray, List.set_cons_zero, List.set_cons_succ]
  clear hHeld3
  refine wpAnyH_done (by kernel_rfl) ?_ _
  by_cases hf0 : f = 0
  · subst hf0
    have c13 := cells14g R4.out 13
    simp only [List.getElem?_toArray, List.getElem?_cons_succ, List.getElem?_cons_zero] at c13
    obtain ⟨cp, W5, hrun, hB5, hbel, hcp, hcpm⟩ := conv_text W4 ds hdf (by omega)
    have B5 : Hid (Below w.heap.size w W5) := B4.out.trans (hbel.mono B4.out.size)
    have R5 : Hid (W5.heap[w.heap.size + 2]? = some (.cells #[.int .i64 k, .int .i64 ty, .int .i64 co, .int .u32 re, .int .i64 sp, .int .i64 dp, .bool ns, .int .u32 sq, .int .u32 ak, .int .i64 fl, .int .i64 wi, .int .i64 ur, .string (strOfNums lo), .string (strOfNums ds)] 48 (0, 0))) := (hbel.block _ (Ca.lt_of_heap R4.out)).trans R4.out
    have P5 : Hid (W5.heap[w.heap.size]? = some (.cells #[.int .u32 0, .int .u32 0, .int .i64 0, .int .i64 0, .bool false, .slice none 0 0, .string ⟨#[]⟩] 25 (0, 0))) := (hbel.block _ (Ca.lt_of_heap P4.out)).trans P4.out
    have Q5 : Hid (W5.heap[w.heap.size + 1]? = some (.cells #[.int .u32 0, .int .u32 0, .int .i64 0, .int .i64 0, .bool false, .slice none 0 0, .string ⟨#[]⟩] 25 (0, 0))) := (hbel.block _ (Ca.lt_of_heap Q4.out)).trans Q4.out
    have I5 : Hid (W5.heap[g8]? = some (.cells #[.int .i64 tos, .int .i64 id, .int .i64 fr, .int .i64 ttl, .int .i64 pr, .int .u32 src, .int .u32 dst, .string (strOfNums io)] 51 (0, 0))) := (hbel.block _ (Ca.lt_of_heap I4.out)).trans I4.out
    have S5 : Hid _ := hB5
    have HCP : Hid _ := hcp
    have HCM : Hid _ := hcpm
    clear hB5 hbel hcp hcpm
    go_wp2_with fail
    refine (HR.out (by first | rfl | trivial) _ _ _ S5.out HCP.out HCM.out).mono ?_
    rintro e W6 ⟨rfl, hb⟩
    have B6 : Hid (Below w.heap.size w W6) := B5.out.trans (hb.mono B5.out.size)
    have P6 : Hid (W6.heap[w.heap.size]? = some (.cells #[.int .u32 0, .int .u32 0, .int .i64 0, .int .i64 0, .bool false, .slice none 0 0, .string ⟨#[]⟩] 25 (0, 0))) := (hb.block _ (Ca.lt_of_heap P5.out)).trans P5.out
    have Q6 : Hid (W6.heap[w.heap.size + 1]? = some (.cells #[.int .u32 0, .int .u32 0, .int .i64 0, .int .i64 0, .bool false, .slice none 0 0, .string ⟨#[]⟩] 25 (0, 0))) := (hb.block _ (Ca.lt_of_heap Q5.out)).trans Q5.out
    clear hb hrun c13 B4 R4 P4 Q4 I4 B5 R5 P5 Q5 I5 S5 HCP HR
    go_wp2_with (first
      | refine Ca.wpList_store_row rfl 25 _ _ rfl (w.heap.size + 1) #[.int .u32 0, .int .u32 0, .int .i64 0, .int .i64 0, .bool false, .slice none 0 0, .string ⟨#[]⟩] #[.int .u32 0, .int .u32 0, .int .i64 0, .int .i64 0, .bool false, .slice none 0 0, .string ⟨#[]⟩] 25 rfl rfl Q6.out (by kernel_rfl) rfl (by kernel_rfl) ?_
      | fail)
    intro W7 y1 y2 y3 y4
    have B7 : Hid (Below w.heap.size w W7) := B6.out.trans (y4.mono (by omega))
    have P7 : Hid (W7.heap[w.heap.size]? = some (.cells #[.int .u32 0, .int .u32 0, .int .i64 0, .int .i64 0, .bool false, .slice none 0 0, .string ⟨#[]⟩] 25 (0, 0))) := (y2 _ (by omega)).trans P6.out
    clear y1 y2 y3 y4 B6 P6 Q6
    go_wp2_with fail
    go_step3
    show FromLabel _ _ _ _ _ _
    refine from_label rfl ?_
    go_wp2_with (first
      | refine Ca.wpList_store_row rfl 25 _ _ rfl w.heap.size #[.int .u32 0, .int .u32 0, .int .i64 0, .int .i64 0, .bool false, .slice none 0 0, .string ⟨#[]⟩] #[.int .u32 0, .int .u32 0, .int .i64 0, .int .i64 0, .bool false, .slice none 0 0, .string ⟨#[]⟩] 25 rfl rfl P7.out (by kernel_rfl) rfl (by kernel_rfl) ?_
      | fail)
    intro W11 y1 y2 y3 y4
    go_wp2
    simp only [Exit.jumpTo]
    exact bodyPost_ret (results_tb (p := 2) (u := 3) rfl _ _ w.heap.size _ rfl y1 rfl) rfl ⟨rfl, (B7.out).trans (y4.mono (Nat.le_refl _))⟩
  · have hf : (f != 0) = true := by simpa using hf0
    clear hf0
    go_wp2_with fail
    go_step3
    show FromLabel _ _ _ _ _ _
    refine from_label rfl ?_
    go_wp2_with (first
      | refine Ca.wpList_store_row rfl 25 _ _ rfl w.heap.size #[.int .u32 0, .int .u32 0, .int .i64 0, .int .i64 0, .bool false, .slice none 0 0, .string ⟨#[]⟩] #[.int .u32 0, .int .u32 0, .int .i64 0, .int .i64 0, .bool false, .slice none 0 0, .string ⟨#[]⟩] 25 rfl rfl P4.out (by kernel_rfl) rfl (by kernel_rfl) ?_
      | fail)
    intro W11 y1 y2 y3 y4
    go_wp2
    simp only [Exit.jumpTo]
    exact bodyPost_ret (results_tb (p := 2) (u := 3) rfl _ _ w.heap.size _ rfl y1 rfl) rfl ⟨by rw [if_neg (show ¬ f = 0 by simpa using hf)]; rfl, (B4.out).trans (y4.mono (Nat.le_refl _))⟩
end Go.Proofs.Ytgonckbdkgiddaa

namespace Go.Proofs.Ytgonckbdkgiddaa
open Go.RowKit
set_option maxRecDepth 20000
theorem heap_lt9 {W : World} {b : Nat} {o : Obj} (h : W.heap[b]? = some o) : b < W.heap.size := by
  rcases Nat.lt_or_ge b W.heap.size with h1 | h1
  · exact h1
  · rw [Array.getElem?_eq_none h1] at h; cases h
theorem heap_keep9 {W : World} {b : Nat} {o : Obj} (o' : Obj) (h : W.heap[b]? = some o) : (W.alloc o').heap[b]? = some o := by
  rw [← h]
  exact (below1 W o').block b (heap_lt9 h)
/-- A row under way; where z says, the pair p q lies; at g a copy of an option. -/
structure Up (p q : Int) (z : Option Nat) (g : Nat) (C : Array Value) (w1 W : World) (v : Value) (n : Nat) (xs : List Int) : Prop where
  rb : RB w1 W v n xs
  at0 : ∀ b, z = some b → W.heap[b]? = some (.cells #[.int .u8 p, .int .u8 q] 5)
  ap : ∀ b, z = some b → v.ownBlock ≠ some b
  op : W.heap[g]? = some (.cells C 38 (0, 0))
theorem Up.alloc {p q : Int} {z : Option Nat} {g : Nat} {C : Array Value} {w1 W : World} {v : Value} {n : Nat} {xs : List Int} (h : Up p q z g C w1 W v n xs) (o : Obj) : Up p q z g C w1 (W.alloc o) v n xs :=
  ⟨⟨h.rb.own.alloc _, h.rb.bel.alloc h.rb.bel.size _⟩, fun b hb => heap_keep9 o (h.at0 b hb), h.ap, heap_keep9 o h.op⟩
theorem Up.build {p q : Int} {g : Nat} {C : Array Value} {w1 W : World} {v : Value} {n : Nat} {xs : List Int} (h : Up p q none g C w1 W v n xs) : Up p q (some W.heap.size) g C w1 (W.alloc (.cells #[.int .u8 p, .int .u8 q] 5)) v n xs := by
  refine ⟨⟨h.rb.own.alloc _, h.rb.bel.alloc h.rb.bel.size _⟩, fun b hb => ?_, fun b hb e => ?_, heap_keep9 _ h.op⟩
  · injection hb with hb; subst hb; exact heap_alloc_new W _
  · injection hb with hb
    have := (World.ownsRow.lt h.rb.own b e).2
    omega
theorem Up.bs {p q : Int} {b g : Nat} {C : Array Value} {w1 W : World} {v : Value} {n : Nat} {xs : List Int} (h : Up p q (some b) g C w1 W v n xs) (hp : 0 ≤ p ∧ p ≤ 255) (hq : 0 ≤ q ∧ q ≤ 255) : BS W (some ⟨b, 0, none⟩) 2 [p, q] := by
  have h1 := h.at0 b rfl
  refine ⟨rfl, fun i => ?_, by omega, .inr ⟨b, 0, rfl, fun i hi => ?_⟩⟩
  · rcases i with _ | _ | i
    · exact hp
    · exact hq
    · simp
  · have hi2 : i < 2 := by simpa using hi
    rcases i with _ | _ | i
    · simp [World.cell?, h1]
    · simp [World.cell?, h1]
    · omega
theorem up_step {p q : Int} {z : Option Nat} {g : Nat} {C : Array Value} {w1 W w' : World} {v v' : Value} {n m : Nat} {xs zs : List Int} (h : Up p q z g C w1 W v n xs) (h1 : w'.ownsRow w1.heap.size 5 1 v' (n + m) ((xs ++ zs).map (Value.int .u8))) (h2 : W.grownBy w' v.ownBlock) (h3 : v'.ownBlock = v.ownBlock ∨ v'.ownBlock = some W.heap.size) : Up p q z g C w1 w' v' (n + m) (xs ++ zs) := by
  refine ⟨rb_step h.rb h1 h2, fun b hb => ?_, fun b hb e => ?_, ?_⟩
  · rw [h2.block b (heap_lt9 (h.at0 b hb)) (fun e => h.ap b hb e.symm)]
    exact h.at0 b hb
  · rcases h3 with h3 | h3
    · exact h.ap b hb (h3.symm.trans e)
    · have := heap_lt9 (h.at0 b hb)
      rw [h3] at e
      injection e with e
      omega
  · rw [h2.block g (heap_lt9 h.op) (fun e => row_apartO h.rb.own h.op e.symm)]
    exact h.op
theorem step_append_up {P : Program} (hP : P.underlying 26 = some (.slice 5)) (hi5 : (P.info? 5).map (fun i => (i.zero, i.size, i.bytes)) = some (some (.int .u8 0), 1, 1)) {p q : Int} {z : Option Nat} {g : Nat} {C : Array Value} {w1 w : World} {ops : Array Oper} {o : Oper} {act : Act} {K : Act → World → Prop} {Q : Exit → Act → World → Prop} {E : Prop} (hgd : o.guard = none) (s x : Operand)
    (ho : o.op = .call { callee := .builtin .append, args := #[s, x], argTypes := #[26, 26] })
    (v : Value) (n : Nat) (xs : List Int) (hs : act.eval s = v) (hr : Up p q z g C w1 w v n xs)
    (a : Option Addr) (m c : Nat) (zs : List Int) (hx : act.eval x = .slice a m c) (hbs : BS w a m zs) (hsum : n + m ≤ 140737488355328)
    (h : ∀ a' cap' w', Up p q z g C w1 w' (.slice a' (n + m) cap') (n + m) (xs ++ zs) → K (act.put o.dst (.slice a' (n + m) cap')) w') :
    if Region.wanted o (yielded ops act.tmps) = true then Oper.wp P o act w K Q else E := by
  have hw : Region.wanted o (yielded ops act.tmps) = true := by simp [Region.wanted, hgd]
  rw [if_pos hw]
  obtain ⟨i0, hi, hz0, hz1, hz2⟩ := info_parts hi5
  obtain ⟨v', w', hrun, h2, h3, h4⟩ := run_append_bsa (P := P) w w1.heap.size 26 o.type 5 i0 hP hi hz0 hz1 hz2 v n xs hr.rb.own c hbs hsum hr.rb.bel.size
  obtain ⟨a', cap', rfl, _⟩ := own_form h2
  unfold Oper.wp execOp
  simp only [ho, resolve, invoke, builtin, Sem.run_bind, Sem.run_pure, Result.andThen_ok, List.map_toArray, List.map_cons, List.map_nil, hs, hx, hrun]
  exact h a' cap' w' (up_step hr h2 h3 h4)
theorem step_append_upstr {P : Program} (hP : P.underlying 26 = some (.slice 5)) (h9 : P.underlying 9 = some .string) (hi5 : (P.info? 5).map (fun i => (i.zero, i.size, i.bytes)) = some (some (.int .u8 0), 1, 1)) {w1 w : World} {ops : Array Oper} {o : Oper} {act : Act} {K : Act → World → Prop} {Q : Exit → Act → World → Prop} {E : Prop} (hgd : o.guard = none) (s x : Operand)
    (ho : o.op = .call { callee := .builtin .append, args := #[s, x], argTypes := #[26, 9] })
    (v : Value) (n : Nat) (xs : List Int) (hs : act.eval s = v) (hr : RB w1 w v n xs)
    (zs : List Int) (hf : Fit zs) (hx : act.eval x = .string (strOfNums zs)) (hsum : n + zs.length ≤ 140737488355328)
    (h : ∀ a' cap' w', RB w1 w' (.slice a' (n + zs.length) cap') (n + zs.length) (xs ++ zs) → K (act.put o.dst (.slice a' (n + zs.length) cap')) w') :
    if Region.wanted o (yielded ops act.tmps) = true then Oper.wp P o act w K Q else E := by
  have hw : Region.wanted o (yielded ops act.tmps) = true := by simp [Region.wanted, hgd]
  rw [if_pos hw]
  obtain ⟨i0, hi, hz0, hz1, hz2⟩ := info_parts hi5
  have hsz := strOfNums_size zs
  obtain ⟨v', w', hrun, h2, h3, _⟩ := Lib.run_append_own_string (P := P) w w1.heap.size 26 9 o.type 5 i0 hP h9 hi hz0 hz1 hz2 v n _ hr.own (strOfNums zs) (by rw [hsz]; unfold maxLen; omega) (by rw [hsz]; omega) hr.bel.size
  rw [hsz, strCells_nums hf, ← List.map_append] at h2
  obtain ⟨a', cap', rfl, _⟩ := own_form h2
  unfold Oper.wp execOp
  simp only [ho, resolve, invoke, builtin, Sem.run_bind, Sem.run_pure, Result.andThen_ok, List.map_toArray, List.map_cons, List.map_nil, hs, hx, hrun]
  exact h a' cap' w' (rb_step hr h2 h3)
set_option maxHeartbeats 1000000 in
theorem bytes3_any (x : Int) (hx : 0 ≤ x ∧ x ≤ 18446744073709551615) (w : World) :
    Calls Try.prog 21 #[.int .u64 x, .int .i64 3] w fun e w' => e = .returned (.slice (some ⟨w.heap.size, 0, none⟩) 3 3) ∧ w' = w.alloc (.cells ((be x 3).map (Value.int .u8)).toArray 5) := by
  have hmk : ∀ w, (Instr.makeSlice 26 (.int .i64 3) (.int .i64 3)).run Try.prog w = .ok (.slice (some ⟨w.heap.size, 0, none⟩) 3 3) (w.alloc (.cells #[.int .u8 0, .int .u8 0, .int .u8 0] 5)) := fun _ => by kernel_rfl
  go_enter Try.func21, Try.ntmps21
  go_wp2
  refine wp_loop_rounds 4 ?_
  rw [rounds_succ]
  go_wp2
  rw [rounds_succ]
  go_wp2
  rw [rounds_succ]
  go_wp2
  rw [rounds_succ]
  go_wp2
  go_ret
  refine ⟨rfl, ?_⟩
  have q0 : x / 2 ^ (8 * 0) = x := by rw [show (2 : Int) ^ (8 * 0) = 1 from by decide]; omega
  have q1 : x / 2 ^ (8 * 1) = x / 256 := by rw [show (2 : Int) ^ (8 * 1) = 256 from by decide]
  have q2 : x / 2 ^ (8 * 2) = x / 256 / 256 := by rw [show (2 : Int) ^ (8 * 2) = 65536 from by decide]; omega
  simp only [be, List.map_cons, List.map_nil, q0, q1, q2]
theorem made3 : MadeBy 21 3 := fun x hx w => bytes3_any x hx w
theorem crit_ge (o : Opt) (h : optG o = true) : critB o = decide (128 ≤ o.code) := by
  have h8 : 0 ≤ o.code ∧ o.code ≤ 255 := by
    unfold optG at h
    simp only [Bool.and_eq_true] at h
    exact fit8_bd h.2.1
  unfold critB
  obtain ⟨c, hc⟩ : ∃ c, o.code = c := ⟨_, rfl⟩
  rw [hc] at h8 ⊢
  obtain ⟨k, rfl⟩ := Int.eq_ofNat_of_zero_le h8.1
  have hk : k < 256 := by omega
  exact (show ∀ k : Fin 256, (bits .and .i64 ((k.val : Nat) : Int) 128 != 0) = decide (128 ≤ ((k.val : Nat) : Int)) from by decide +kernel) ⟨k, hk⟩
end Go.Proofs.Ytgonckbdkgiddaa
