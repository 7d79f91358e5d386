/- Parts of the proof, in one text. -/
import Derived.Test.YtgonckbdkgiddaaDR
namespace Go.Proofs.Ytgonckbdkgiddaa
open Go.RowKit
set_option linter.unusedSimpArgs false
theorem bs_cell {W : World} {b off n : Nat} {zs : List Int} (h : BS W (some ⟨b, off, none⟩) n zs) (i : Nat) (hi : i < n) : W.cell? ⟨b, off + i, none⟩ = some (.int .u8 (zs.getD i 0)) := by
  have hl := h.len
  rcases h.cells with h0 | ⟨b', off', e, hc⟩
  · omega
  · cases e; exact hc i (by omega)
set_option maxRecDepth 20000 in
set_option maxHeartbeats 8000000 in
theorem rdec_icmp (src dst : Int) (w : World) (b off : Nat) (n cap : Nat) (zs : List Int) (h : BS w (some ⟨b, off, none⟩) n zs) (hcap : n ≤ cap) (hn : 8 ≤ n) (hc8 : ¬ cap = 8) (z0 z1 R : Int) (hz0 : zs.getD 0 0 = z0) (hz1 : zs.getD 1 0 = z1) (hR : num ((zs.drop 4).take 4) = R) (hF : fld (wsum zs) = 65535) :
    Calls Try.prog 29 #[.int .u32 src, .int .u32 dst, .int .i64 1, .slice (some ⟨b, off, none⟩) n cap] w fun e w' => e = .returned (.tuple #[.agg #[.int .i64 1, .int .i64 z0, .int .i64 z1, .int .u32 R, .int .i64 0, .int .i64 0, .bool false, .int .u32 0, .int .u32 0, .int .i64 0, .int .i64 0, .int .i64 0, .string ⟨#[]⟩, .string (strOfNums (zs.drop 8))], .int .i64 0]) ∧ Below w.heap.size w w' := by
  have h1 : ¬ (n : Int) < 8 := by omega
  have h2 : 0 < n := by omega
  have h3 : (1 : Int) < n := by omega
  have h4 : (8 : Int) ≤ n := by omega
  have h5 : (n : Int) ≤ cap := by omega
  have H0 : Hid (BS w (some ⟨b, off, none⟩) n zs) := h
  have H : Hid (BS (w.alloc (.cells #[.int .i64 0, .int .i64 0, .int .i64 0, .int .u32 0, .int .i64 0, .int .i64 0, .bool false, .int .u32 0, .int .u32 0, .int .i64 0, .int .i64 0, .int .i64 0, .string ⟨#[]⟩, .string ⟨#[]⟩] 48)) (some ⟨b, off, none⟩) n zs) := h.below (below1 w _)
  have hr0 := num_bd4 ((h.drop (by omega) 4 (by omega)).take 4 (by omega)) (by omega)
  have f0 := h.fits 0
  have f1 := h.fits 1
  rw [hR] at hr0
  rw [hz0] at f0
  rw [hz1] at f1
  have hq0 : IntKind.i64.wrap z0 = z0 := by rw [IntKind.wrap_i64]; omega
  have hq1 : IntKind.i64.wrap z1 = z1 := by rw [IntKind.wrap_i64]; omega
  have hw0 : IntKind.u32.wrap R = R := by rw [IntKind.wrap_u32]; omega
  clear h
  go_enter Try.func29, Try.ntmps29
  go_wp2_with fail
  refine (rsum_any _ H.out).mono ?_
  rintro e w' ⟨rfl, hw'⟩
  rw [hw', hF]
  clear hw'
  go_wp2_with fail
  refine wp_region_held_drew (S := (fun W => BS W (some ⟨b, off, none⟩) n zs)) (by kernel_rfl) H.out.drew (fun hHeld => ?_)
  refine wpAnyH_take (i := 0) (v := ?_) rfl (by kernel_rfl) (by kernel_rfl) (by kernel_rfl) (fun _ _ _ h => h) (Or.inl ⟨by rfl, ?_⟩) (by assumption) ?_
  rotate_left
  · (intro w hSw; (try dsimp only at hSw); go_simp; try with_reducible rfl)
  try simp only [List.getElem_toArray, List.getElem_cons_zero, List.getElem_cons_succ, Act.put, List.setIfInBounds_toArray, List.set_cons_zero, List.set_cons_succ]
  refine wpAnyH_take (i := 1) (v := ?_) rfl (by kernel_rfl) (by kernel_rfl) (by kernel_rfl) (fun _ _ _ h => h) (Or.inl ⟨by rfl, ?_⟩) (by assumption) ?_
  rotate_left
  · (intro w hSw; (try dsimp only at hSw); go_simp; try with_reducible rfl)
  try simp only [List.getElem_toArray, List.getElem_cons_zero, List.getElem_cons_succ, Act.put, List.setIfInBounds_toArray, List.set_cons_zero, List.set_cons_succ]
  refine wpAnyH_take (i := 2) (v := .int .u8 z0) rfl (by kernel_rfl) (by kernel_rfl) (by kernel_rfl) (fun _ _ _ h => h) (Or.inl ⟨by rfl, fun W hW => by have hc := bs_cell hW 0 (by omega); rw [hz0, Nat.add_zero] at hc; go_simp⟩) (by assumption) ?_
  try simp only [List.getElem_toArray, List.getElem_cons_zero, List.getElem_cons_succ, Act.put, List.setIfInBounds_toArray, List.set_cons_zero, List.set_cons_succ]
  refine wpAnyH_take (i := 3) (v := ?_) rfl (by kernel_rfl) (by kernel_rfl) (by kernel_rfl) (fun _ _ _ h => h) (Or.inl ⟨by rfl, ?_⟩) (by assumption) ?_
  rotate_left
  · (intro w hSw; (try dsimp only at hSw); go_simp; try with_reducible rfl)
  try simp only [List.getElem_toArray, List.getElem_cons_zero, List.getElem_cons_succ, Act.put, List.setIfInBounds_toArray, List.set_cons_zero, List.set_cons_succ]
  refine wpAnyH_take (i := 4) (v := ?_) rfl (by kernel_rfl) (by kernel_rfl) (by kernel_rfl) (fun _ _ _ h => h) (Or.inl ⟨by rfl, ?_⟩) (by assumption) ?_
  rotate_left
  · (intro w hSw; (try dsimp only at hSw); go_simp; try with_reducible rfl)
  try simp only [List.getElem_toArray, List.getElem_cons_zero, List.getElem_cons_succ, Act.put, List.setIfInBounds_toArray, List.set_cons_zero, List.set_cons_succ]
  refine wpAnyH_take (i := 5) (v := ?_) rfl (by kernel_rfl) (by kernel_rfl) (by kernel_rfl) (fun _ _ _ h => h) (Or.inl ⟨by rfl, ?_⟩) (by assumption) ?_
  rotate_left
  · (intro w hSw; (try dsimp only at hSw); go_simp; try with_reducible rfl)
  try simp only [List.getElem_toArray, List.getElem_cons_zero, List.getElem_cons_succ, Act.put, List.setIfInBounds_toArray, List.set_cons_zero, List.set_cons_succ]
  refine wpAnyH_take (i := 6) (v := .int .u8 z1) rfl (by kernel_rfl) (by kernel_rfl) (by kernel_rfl) (fun _ _ _ h => h) (Or.inl ⟨by rfl, fun W hW => by have hc := bs_cell hW 1 (by omega); rw [hz1] at hc; go_simp⟩) (by assumption) ?_
  try simp only [List.getElem_toArray, List.getElem_cons_zero, List.getElem_cons_succ, Act.put, List.setIfInBounds_toArray, List.set_cons_zero, List.set_cons_succ]
  refine wpAnyH_take (i := 7) (v := ?_) rfl (by kernel_rfl) (by kernel_rfl) (by kernel_rfl) (fun _ _ _ h => h) (Or.inl ⟨by rfl, ?_⟩) (by assumption) ?_
  rotate_left
  · (intro w hSw; (try dsimp only at hSw); go_simp; try with_reducible rfl)
  try simp only [List.getElem_toArray, List.getElem_cons_zero, List.getElem_cons_succ, Act.put, List.setIfInBounds_toArray, List.set_cons_zero, List.set_cons_succ]
  refine wpAnyH_take (i := 8) (v := ?_) rfl (by kernel_rfl) (by kernel_rfl) (by kernel_rfl) (fun _ _ _ h => h) (Or.inl ⟨by rfl, ?_⟩) (by assumption) ?_
  rotate_left
  · (intro w hSw; (try dsimp only at hSw); go_simp; try with_reducible rfl)
  try simp only [List.getElem_toArray, List.getElem_cons_zero, List.getElem_cons_succ, Act.put, List.setIfInBounds_toArray, List.set_cons_zero, List.set_cons_succ]
  refine wpAnyH_take (i := 11) (v := ?_) rfl (by kernel_rfl) (by kernel_rfl) (by kernel_rfl) (fun _ _ _ h => h) (Or.inl ⟨by rfl, ?_⟩) (by assumption) ?_
  rotate_left
  · (intro w hSw; (try dsimp only at hSw); go_simp; try with_reducible rfl)
  try simp only [List.getElem_toArray, List.getElem_cons_zero, List.getElem_cons_succ, Act.put, List.setIfInBounds_toArray, List.set_cons_zero, List.set_cons_succ]
  refine wpAnyH_take (i := 12) (v := ?_) rfl (by kernel_rfl) (by kernel_rfl) (by kernel_rfl) (fun _ _ _ h => h) (Or.inl ⟨by rfl, ?_⟩) (by assumption) ?_
  rotate_left
  · (intro w hSw; (try dsimp only at hSw); go_simp; try with_reducible rfl)
  try simp only [List.getElem_toArray, List.getElem_cons_zero, List.getElem_cons_succ, Act.put, List.setIfInBounds_toArray, List.set_cons_zero, List.set_cons_succ]
  refine wpAnyH_take (i := 13) (v := .string (strOfNums (zs.drop 8))) rfl (by kernel_rfl) (by kernel_rfl) (by kernel_rfl) (fun _ _ _ h => h) (Or.inl ⟨by rfl, fun W hW => by have hcv := run_conv_bs (P := Try.prog) (w := W) (cap - 8) (hW.drop (by omega) 8 (by omega)) 26 9 5 Try.underlying26 Try.underlying5 Try.underlying9; go_simp⟩) (by assumption) ?_
  try simp only [List.getElem_toArray, List.getElem_cons_zero, List.getElem_cons_succ, Act.put, List.setIfInBounds_toArray, List.set_cons_zero, List.set_cons_succ]
  refine wpAnyH_ready (rs := [9]) (by kernel_rfl) (by simp) ?_
  refine AllReadyH.cons (o := _) rfl (fun K hK => ?_) AllReadyH.nil
  go_simp
  refine (rnumc _ b off n cap zs H.out.drew hcap 4 4 4 4 rfl rfl (by omega) (by omega) (by omega)).mono ?_
  rintro e w' ⟨rfl, hw'⟩
  rw [hw', hR]
  clear hw'
  refine hK _ _ H.out.drew (fun hHeld => ?_)
  try simp only [List.getElem_toArray, List.getElem_cons_zero, List.getElem_cons_succ, Act.put, List.setIfInBounds_toArray, List.set_cons_zero, List.set_cons_succ]
  refine wpAnyH_take (i := 10) (v := ?_) rfl (by kernel_rfl) (by kernel_rfl) (by kernel_rfl) (fun _ _ _ h => h) (Or.inl ⟨by rfl, ?_⟩) (by assumption) ?_
  rotate_left
  · (intro w hSw; (try dsimp only at hSw); go_simp; try with_reducible rfl)
  try simp only [List.getElem_toArray, List.getElem_cons_zero, List.getElem_cons_succ, Act.put, List.setIfInBounds_toArray, List.set_cons_zero, List.set_cons_succ]
  refine wpAnyH_take (i := 14) (v := ?_) rfl (by kernel_rfl) (by kernel_rfl) (by kernel_rfl) (fun _ _ _ h => h) (Or.inl ⟨by rfl, ?_⟩) (by assumption) ?_
  rotate_left
  · (intro w hSw; (try dsimp only at hSw); go_simp; try with_reducible rfl)
  try simp only [List.getElem_toArray, List.getElem_cons_zero, List.getElem_cons_succ, Act.put, List.setIfInBounds_toArray, List.set_cons_zero, List.set_cons_succ]
  refine wpAnyH_ready (rs := [15]) (by kernel_rfl) (by simp) ?_
  refine AllReadyH.cons (o := _) rfl (fun K hK => ?_) AllReadyH.nil
  go_simp
  refine hK _ _ (H0.out.below (below1 w _)).drew (fun hHeld => ?_)
  try simp only [List.getElem_toArray, List.getElem_cons_zero, List.getElem_cons_succ, Act.put, List.setIfInBounds_toArray, List.set_cons_zero, List.set_cons_succ]
  refine wpAnyH_ready (rs := [16]) (by kernel_rfl) (by simp) ?_
  refine AllReadyH.cons (o := _) rfl (fun K hK => ?_) AllReadyH.nil
  go_simp
  refine hK _ _ (H0.out.below (below1 w _)).drew (fun hHeld => ?_)
  refine wpAnyH_done (by kernel_rfl) ?_ _
  try simp only [List.getElem_toArray, List.getElem_cons_zero, List.getElem_cons_succ, Act.put, List.setIfInBounds_toArray, List.set_cons_zero, List.set_cons_succ]
  go_wp2
  refine bodyPost_ret (v := .tuple #[.agg #[.int .i64 1, .int .i64 z0, .int .i64 z1, .int .u32 R, .int .i64 0, .int .i64 0, .bool false, .int .u32 0, .int .u32 0, .int .i64 0, .int .i64 0, .int .i64 0, .string ⟨#[]⟩, .string (strOfNums (zs.drop 8))], .int .i64 0]) ?_ rfl ⟨rfl, ?_⟩
  · simp [results, Try.results29, go_sem]
  · exact (below1 w _).drew
set_option maxRecDepth 20000 in
set_option maxHeartbeats 8000000 in
theorem rdec_icmp8 (src dst : Int) (w : World) (b off : Nat) (zs : List Int) (h : BS w (some ⟨b, off, none⟩) 8 zs) (z0 z1 R : Int) (hz0 : zs.getD 0 0 = z0) (hz1 : zs.getD 1 0 = z1) (hR : num ((zs.drop 4).take 4) = R) (hF : fld (wsum zs) = 65535) :
    Calls Try.prog 29 #[.int .u32 src, .int .u32 dst, .int .i64 1, .slice (some ⟨b, off, none⟩) 8 8] w fun e w' => e = .returned (.tuple #[.agg #[.int .i64 1, .int .i64 z0, .int .i64 z1, .int .u32 R, .int .i64 0, .int .i64 0, .bool false, .int .u32 0, .int .u32 0, .int .i64 0, .int .i64 0, .int .i64 0, .string ⟨#[]⟩, .string (strOfNums [])], .int .i64 0]) ∧ Below w.heap.size w w' := by
  have H0 : Hid (BS w (some ⟨b, off, none⟩) 8 zs) := h
  have H : Hid (BS (w.alloc (.cells #[.int .i64 0, .int .i64 0, .int .i64 0, .int .u32 0, .int .i64 0, .int .i64 0, .bool false, .int .u32 0, .int .u32 0, .int .i64 0, .int .i64 0, .int .i64 0, .string ⟨#[]⟩, .string ⟨#[]⟩] 48)) (some ⟨b, off, none⟩) 8 zs) := h.below (below1 w _)
  have hr0 := num_bd4 ((h.drop (by omega) 4 (by omega)).take 4 (by omega)) (by omega)
  have f0 := h.fits 0
  have f1 := h.fits 1
  rw [hR] at hr0
  rw [hz0] at f0
  rw [hz1] at f1
  have hq0 : IntKind.i64.wrap z0 = z0 := by rw [IntKind.wrap_i64]; omega
  have hq1 : IntKind.i64.wrap z1 = z1 := by rw [IntKind.wrap_i64]; omega
  have hw0 : IntKind.u32.wrap R = R := by rw [IntKind.wrap_u32]; omega
  clear h
  go_enter Try.func29, Try.ntmps29
  go_wp2_with fail
  refine (rsum_any _ H.out).mono ?_
  rintro e w' ⟨rfl, hw'⟩
  rw [hw', hF]
  clear hw'
  go_wp2_with fail
  refine wp_region_held_drew (S := (fun W => BS W (some ⟨b, off, none⟩) 8 zs)) (by kernel_rfl) H.out.drew (fun hHeld => ?_)
  refine wpAnyH_take (i := 0) (v := ?_) rfl (by kernel_rfl) (by kernel_rfl) (by kernel_rfl) (fun _ _ _ h => h) (Or.inl ⟨by rfl, ?_⟩) (by assumption) ?_
  rotate_left
  · (intro w hSw; (try dsimp only at hSw); go_simp; try with_reducible rfl)
  try simp only [List.getElem_toArray, List.getElem_cons_zero, List.getElem_cons_succ, Act.put, List.setIfInBounds_toArray, List.set_cons_zero, List.set_cons_succ]
  refine wpAnyH_take (i := 1) (v := ?_) rfl (by kernel_rfl) (by kernel_rfl) (by kernel_rfl) (fun _ _ _ h => h) (Or.inl ⟨by rfl, ?_⟩) (by assumption) ?_
  rotate_left
  · (intro w hSw; (try dsimp only at hSw); go_simp; try with_reducible rfl)
  try simp only [List.getElem_toArray, List.getElem_cons_zero, List.getElem_cons_succ, Act.put, List.setIfInBounds_toArray, List.set_cons_zero, List.set_cons_succ]
  refine wpAnyH_take (i := 2) (v := .int .u8 z0) rfl (by kernel_rfl) (by kernel_rfl) (by kernel_rfl) (fun _ _ _ h => h) (Or.inl ⟨by rfl, fun W hW => by have hc := bs_cell hW 0 (by omega); rw [hz0, Nat.add_zero] at hc; go_simp⟩) (by assumption) ?_
  try simp only [List.getElem_toArray, List.getElem_cons_zero, List.getElem_cons_succ, Act.put, List.setIfInBounds_toArray, List.set_cons_zero, List.set_cons_succ]
  refine wpAnyH_take (i := 3) (v := ?_) rfl (by kernel_rfl) (by kernel_rfl) (by kernel_rfl) (fun _ _ _ h => h) (Or.inl ⟨by rfl, ?_⟩) (by assumption) ?_
  rotate_left
  · (intro w hSw; (try dsimp only at hSw); go_simp; try with_reducible rfl)
  try simp only [List.getElem_toArray, List.getElem_cons_zero, List.getElem_cons_succ, Act.put, List.setIfInBounds_toArray, List.set_cons_zero, List.set_cons_succ]
  refine wpAnyH_take (i := 4) (v := ?_) rfl (by kernel_rfl) (by kernel_rfl) (by kernel_rfl) (fun _ _ _ h => h) (Or.inl ⟨by rfl, ?_⟩) (by assumption) ?_
  rotate_left
  · (intro w hSw; (try dsimp only at hSw); go_simp; try with_reducible rfl)
  try simp only [List.getElem_toArray, List.getElem_cons_zero, List.getElem_cons_succ, Act.put, List.setIfInBounds_toArray, List.set_cons_zero, List.set_cons_succ]
  refine wpAnyH_take (i := 5) (v := ?_) rfl (by kernel_rfl) (by kernel_rfl) (by kernel_rfl) (fun _ _ _ h => h) (Or.inl ⟨by rfl, ?_⟩) (by assumption) ?_
  rotate_left
  · (intro w hSw; (try dsimp only at hSw); go_simp; try with_reducible rfl)
  try simp only [List.getElem_toArray, List.getElem_cons_zero, List.getElem_cons_succ, Act.put, List.setIfInBounds_toArray, List.set_cons_zero, List.set_cons_succ]
  refine wpAnyH_take (i := 6) (v := .int .u8 z1) rfl (by kernel_rfl) (by kernel_rfl) (by kernel_rfl) (fun _ _ _ h => h) (Or.inl ⟨by rfl, fun W hW => by have hc := bs_cell hW 1 (by omega); rw [hz1] at hc; go_simp⟩) (by assumption) ?_
  try simp only [List.getElem_toArray, List.getElem_cons_zero, List.getElem_cons_succ, Act.put, List.setIfInBounds_toArray, List.set_cons_zero, List.set_cons_succ]
  refine wpAnyH_take (i := 7) (v := ?_) rfl (by kernel_rfl) (by kernel_rfl) (by kernel_rfl) (fun _ _ _ h => h) (Or.inl ⟨by rfl, ?_⟩) (by assumption) ?_
  rotate_left
  · (intro w hSw; (try dsimp only at hSw); go_simp; try with_reducible rfl)
  try simp only [List.getElem_toArray, List.getElem_cons_zero, List.getElem_cons_succ, Act.put, List.setIfInBounds_toArray, List.set_cons_zero, List.set_cons_succ]
  refine wpAnyH_take (i := 8) (v := ?_) rfl (by kernel_rfl) (by kernel_rfl) (by kernel_rfl) (fun _ _ _ h => h) (Or.inl ⟨by rfl, ?_⟩) (by assumption) ?_
  rotate_left
  · (intro w hSw; (try dsimp only at hSw); go_simp; try with_reducible rfl)
  try simp only [List.getElem_toArray, List.getElem_cons_zero, List.getElem_cons_succ, Act.put, List.setIfInBounds_toArray, List.set_cons_zero, List.set_cons_succ]
  refine wpAnyH_take (i := 11) (v := ?_) rfl (by kernel_rfl) (by kernel_rfl) (by kernel_rfl) (fun _ _ _ h => h) (Or.inl ⟨by rfl, ?_⟩) (by assumption) ?_
  rotate_left
  · (intro w hSw; (try dsimp only at hSw); go_simp; try with_reducible rfl)
  try simp only [List.getElem_toArray, List.getElem_cons_zero, List.getElem_cons_succ, Act.put, List.setIfInBounds_toArray, List.set_cons_zero, List.set_cons_succ]
  refine wpAnyH_take (i := 12) (v := ?_) rfl (by kernel_rfl) (by kernel_rfl) (by kernel_rfl) (fun _ _ _ h => h) (Or.inl ⟨by rfl, ?_⟩) (by assumption) ?_
  rotate_left
  · (intro w hSw; (try dsimp only at hSw); go_simp; try with_reducible rfl)
  try simp only [List.getElem_toArray, List.getElem_cons_zero, List.getElem_cons_succ, Act.put, List.setIfInBounds_toArray, List.set_cons_zero, List.set_cons_succ]
  refine wpAnyH_take (i := 13) (v := .string (strOfNums [])) rfl (by kernel_rfl) (by kernel_rfl) (by kernel_rfl) (fun _ _ _ h => h) (Or.inl ⟨by rfl, fun W hW => by have hcv := run_conv_bs (P := Try.prog) (w := W) (0) (BS.empty (some ⟨b, off, none⟩)) 26 9 5 Try.underlying26 Try.underlying5 Try.underlying9; go_simp⟩) (by assumption) ?_
  try simp only [List.getElem_toArray, List.getElem_cons_zero, List.getElem_cons_succ, Act.put, List.setIfInBounds_toArray, List.set_cons_zero, List.set_cons_succ]
  refine wpAnyH_ready (rs := [9]) (by kernel_rfl) (by simp) ?_
  refine AllReadyH.cons (o := _) rfl (fun K hK => ?_) AllReadyH.nil
  go_simp
  refine (rnumc _ b off 8 8 zs H.out.drew (Nat.le_refl _) 4 4 4 4 rfl rfl (by omega) (by omega) (by omega)).mono ?_
  rintro e w' ⟨rfl, hw'⟩
  rw [hw', hR]
  clear hw'
  refine hK _ _ H.out.drew (fun hHeld => ?_)
  try simp only [List.getElem_toArray, List.getElem_cons_zero, List.getElem_cons_succ, Act.put, List.setIfInBounds_toArray, List.set_cons_zero, List.set_cons_succ]
  refine wpAnyH_take (i := 10) (v := ?_) rfl (by kernel_rfl) (by kernel_rfl) (by kernel_rfl) (fun _ _ _ h => h) (Or.inl ⟨by rfl, ?_⟩) (by assumption) ?_
  rotate_left
  · (intro w hSw; (try dsimp only at hSw); go_simp; try with_reducible rfl)
  try simp only [List.getElem_toArray, List.getElem_cons_zero, List.getElem_cons_succ, Act.put, List.setIfInBounds_toArray, List.set_cons_zero, List.set_cons_succ]
  refine wpAnyH_take (i := 14) (v := ?_) rfl (by kernel_rfl) (by kernel_rfl) (by kernel_rfl) (fun _ _ _ h => h) (Or.inl ⟨by rfl, ?_⟩) (by assumption) ?_
  rotate_left
  · (intro w hSw; (try dsimp only at hSw); go_simp; try with_reducible rfl)
  try simp only [List.getElem_toArray, List.getElem_cons_zero, List.getElem_cons_succ, Act.put, List.setIfInBounds_toArray, List.set_cons_zero, List.set_cons_succ]
  refine wpAnyH_ready (rs := [15]) (by kernel_rfl) (by simp) ?_
  refine AllReadyH.cons (o := _) rfl (fun K hK => ?_) AllReadyH.nil
  go_simp
  refine hK _ _ (H0.out.below (below1 w _)).drew (fun hHeld => ?_)
  try simp only [List.getElem_toArray, List.getElem_cons_zero, List.getElem_cons_succ, Act.put, List.setIfInBounds_toArray, List.set_cons_zero, List.set_cons_succ]
  refine wpAnyH_ready (rs := [16]) (by kernel_rfl) (by simp) ?_
  refine AllReadyH.cons (o := _) rfl (fun K hK => ?_) AllReadyH.nil
  go_simp
  refine hK _ _ (H0.out.below (below1 w _)).drew (fun hHeld => ?_)
  refine wpAnyH_done (by kernel_rfl) ?_ _
  try simp only [List.getElem_toArray, List.getElem_cons_zero, List.getElem_cons_succ, Act.put, List.setIfInBounds_toArray, List.set_cons_zero, List.set_cons_succ]
  go_wp2
  refine bodyPost_ret (v := .tuple #[.agg #[.int .i64 1, .int .i64 z0, .int .i64 z1, .int .u32 R, .int .i64 0, .int .i64 0, .bool false, .int .u32 0, .int .u32 0, .int .i64 0, .int .i64 0, .int .i64 0, .string ⟨#[]⟩, .string (strOfNums [])], .int .i64 0]) ?_ rfl ⟨rfl, ?_⟩
  · simp [results, Try.results29, go_sem]
  · exact (below1 w _).drew
end Go.Proofs.Ytgonckbdkgiddaa

namespace Go.Proofs.Ytgonckbdkgiddaa
open Go.RowKit
set_option linter.unusedSimpArgs false
set_option maxRecDepth 20000 in
set_option maxHeartbeats 8000000 in
theorem rdec_tcp (src dst : Int) (hs : 0 ≤ src ∧ src ≤ 4294967295) (ht : 0 ≤ dst ∧ dst ≤ 4294967295) (w : World) (b off : Nat) (n cap U : Nat) (zs : List Int) (h : BS w (some ⟨b, off, none⟩) n zs) (hcap : n ≤ cap) (hUn : U ≤ n) (c1 : ¬ cap = 20) (c2 : ¬ cap = U) (h20 : 20 ≤ U) (T sp dp sq ak bo wi ur P F : Int) (hT : zs.getD 12 0 = T) (hTU : 4 * (T / 16) = (U : Int)) (hsp : num ((zs.drop 0).take 2) = sp) (hdp : num ((zs.drop 2).take 2) = dp) (hsq : num ((zs.drop 4).take 4) = sq) (hak : num ((zs.drop 8).take 4) = ak) (hbo : num ((zs.drop 12).take 2) = bo) (hwi : num ((zs.drop 14).take 2) = wi) (hur : num ((zs.drop 18).take 2) = ur) (hP : psd src dst 6 (n : Int) = P) (hF : fld (wsum zs) = F) (hA : fld (P + F) = 65535) :
    Calls Try.prog 29 #[.int .u32 src, .int .u32 dst, .int .i64 6, .slice (some ⟨b, off, none⟩) n cap] w fun e w' => e = .returned (.tuple #[.agg #[.int .i64 3, .int .i64 0, .int .i64 0, .int .u32 0, .int .i64 sp, .int .i64 dp, .bool false, .int .u32 sq, .int .u32 ak, .int .i64 (bo % 4096), .int .i64 wi, .int .i64 ur, .string (strOfNums ((zs.drop 20).take (U - 20))), .string (strOfNums (zs.drop U))], .int .i64 0]) ∧ Below w.heap.size w w' := by
  have h1 : ¬ (n : Int) < 20 := by omega
  have h3 : (12 : Int) < n := by omega
  have h4 : (20 : Int) ≤ U := by omega
  have h5 : (U : Int) ≤ n := by omega
  have h6 : (n : Int) ≤ cap := by omega
  have h7 : ¬ (U : Int) < 20 := by omega
  have h8 : ¬ (n : Int) < U := by omega
  have h9 : U ≤ cap := by omega
  have H0 : Hid (BS w (some ⟨b, off, none⟩) n zs) := h
  have H : Hid (BS (w.alloc (.cells #[.int .i64 0, .int .i64 0, .int .i64 0, .int .u32 0, .int .i64 0, .int .i64 0, .bool false, .int .u32 0, .int .u32 0, .int .i64 0, .int .i64 0, .int .i64 0, .string ⟨#[]⟩, .string ⟨#[]⟩] 48)) (some ⟨b, off, none⟩) n zs) := h.below (below1 w _)
  have hl := h.len
  have b4 := num_bd4 ((h.drop (by omega) 4 (by omega)).take 4 (by omega)) (by omega)
  have b8 := num_bd4 ((h.drop (by omega) 8 (by omega)).take 4 (by omega)) (by omega)
  have b12 := num_bd4 ((h.drop (by omega) 12 (by omega)).take 2 (by omega)) (by omega)
  have f12 := h.fits 12
  have hp1 := psd_bd src dst 6 (n : Int) hs.1 ht.1
  have hp2 := fld_bd (wsum zs) (wsum_bd h.fits)
  rw [hP] at hp1
  rw [hF] at hp2
  rw [hsq] at b4
  rw [hak] at b8
  rw [hbo] at b12
  rw [hT] at f12
  have hwq : IntKind.u32.wrap sq = sq := by rw [IntKind.wrap_u32]; omega
  have hwa : IntKind.u32.wrap ak = ak := by rw [IntKind.wrap_u32]; omega
  have hrm : bo.tmod 4096 = bo % 4096 := Int.tmod_eq_emod_of_nonneg b12.1
  have hq : IntKind.u8.wrap (T.tdiv 16) = T / 16 := by rw [Int.tdiv_eq_ediv_of_nonneg f12.1, IntKind.wrap_u8]; omega
  have hcT : (w.alloc (.cells #[.int .i64 0, .int .i64 0, .int .i64 0, .int .u32 0, .int .i64 0, .int .i64 0, .bool false, .int .u32 0, .int .u32 0, .int .i64 0, .int .i64 0, .int .i64 0, .string ⟨#[]⟩, .string ⟨#[]⟩] 48)).cell? ⟨b, off + 12, none⟩ = some (.int .u8 T) := by
    have := bs_cell H.out 12 (by omega)
    rw [hT] at this
    exact this
  clear h hT
  go_enter Try.func29, Try.ntmps29
  go_wp2_with fail
  refine (rpseudo_any _ src dst 6 (n : Int) hs ht).mono ?_
  rintro e w' ⟨rfl, hw'⟩
  rw [hw', hP]
  clear hw'
  go_wp2_with fail
  refine (rsum_any _ H.out).mono ?_
  rintro e w' ⟨rfl, hw'⟩
  rw [hw', hF]
  clear hw'
  go_wp2_with fail
  refine (radd_any _ _ hp1.1 hp1.2 hp2.1 hp2.2 _).mono ?_
  rintro e w' ⟨rfl, hw'⟩
  rw [hw', hA]
  clear hw'
  go_wp2_with fail
  clear hcT
  refine wp_region_held_drew (S := (fun W => BS W (some ⟨b, off, none⟩) n zs)) (by kernel_rfl) H.out.drew (fun hHeld => ?_)
  refine wpAnyH_take (i := 0) (v := ?_) rfl (by kernel_rfl) (by kernel_rfl) (by kernel_rfl) (fun _ _ _ h => h) (Or.inl ⟨by rfl, ?_⟩) (by assumption) ?_
  rotate_left
  · (intro w hSw; (try dsimp only at hSw); go_simp; try with_reducible rfl)
  try simp only [List.getElem_toArray, List.getElem_cons_zero, List.getElem_cons_succ, Act.put, List.setIfInBounds_toArray, List.set_cons_zero, List.set_cons_succ]
  refine wpAnyH_take (i := 2) (v := ?_) rfl (by kernel_rfl) (by kernel_rfl) (by kernel_rfl) (fun _ _ _ h => h) (Or.inl ⟨by rfl, ?_⟩) (by assumption) ?_
  rotate_left
  · (intro w hSw; (try dsimp only at hSw); go_simp; try with_reducible rfl)
  try simp only [List.getElem_toArray, List.getElem_cons_zero, List.getElem_cons_succ, Act.put, List.setIfInBounds_toArray, List.set_cons_zero, List.set_cons_succ]
  refine wpAnyH_take (i := 4) (v := ?_) rfl (by kernel_rfl) (by kernel_rfl) (by kernel_rfl) (fun _ _ _ h => h) (Or.inl ⟨by rfl, ?_⟩) (by assumption) ?_
  rotate_left
  · (intro w hSw; (try dsimp only at hSw); go_simp; try with_reducible rfl)
  try simp only [List.getElem_toArray, List.getElem_cons_zero, List.getElem_cons_succ, Act.put, List.setIfInBounds_toArray, List.set_cons_zero, List.set_cons_succ]
  refine wpAnyH_take (i := 7) (v := ?_) rfl (by kernel_rfl) (by kernel_rfl) (by kernel_rfl) (fun _ _ _ h => h) (Or.inl ⟨by rfl, ?_⟩) (by assumption) ?_
  rotate_left
  · (intro w hSw; (try dsimp only at hSw); go_simp; try with_reducible rfl)
  try simp only [List.getElem_toArray, List.getElem_cons_zero, List.getElem_cons_succ, Act.put, List.setIfInBounds_toArray, List.set_cons_zero, List.set_cons_succ]
  refine wpAnyH_take (i := 10) (v := ?_) rfl (by kernel_rfl) (by kernel_rfl) (by kernel_rfl) (fun _ _ _ h => h) (Or.inl ⟨by rfl, ?_⟩) (by assumption) ?_
  rotate_left
  · (intro w hSw; (try dsimp only at hSw); go_simp; try with_reducible rfl)
  try simp only [List.getElem_toArray, List.getElem_cons_zero, List.getElem_cons_succ, Act.put, List.setIfInBounds_toArray, List.set_cons_zero, List.set_cons_succ]
  refine wpAnyH_take (i := 13) (v := ?_) rfl (by kernel_rfl) (by kernel_rfl) (by kernel_rfl) (fun _ _ _ h => h) (Or.inl ⟨by rfl, ?_⟩) (by assumption) ?_
  rotate_left
  · (intro w hSw; (try dsimp only at hSw); go_simp; try with_reducible rfl)
  try simp only [List.getElem_toArray, List.getElem_cons_zero, List.getElem_cons_succ, Act.put, List.setIfInBounds_toArray, List.set_cons_zero, List.set_cons_succ]
  refine wpAnyH_take (i := 15) (v := ?_) rfl (by kernel_rfl) (by kernel_rfl) (by kernel_rfl) (fun _ _ _ h => h) (Or.inl ⟨by rfl, ?_⟩) (by assumption) ?_
  rotate_left
  · (intro w hSw; (try dsimp only at hSw); go_simp; try with_reducible rfl)
  try simp only [List.getElem_toArray, List.getElem_cons_zero, List.getElem_cons_succ, Act.put, List.setIfInBounds_toArray, List.set_cons_zero, List.set_cons_succ]
  refine wpAnyH_take (i := 17) (v := ?_) rfl (by kernel_rfl) (by kernel_rfl) (by kernel_rfl) (fun _ _ _ h => h) (Or.inl ⟨by rfl, ?_⟩) (by assumption) ?_
  rotate_left
  · (intro w hSw; (try dsimp only at hSw); go_simp; try with_reducible rfl)
  try simp only [List.getElem_toArray, List.getElem_cons_zero, List.getElem_cons_succ, Act.put, List.setIfInBounds_toArray, List.set_cons_zero, List.set_cons_succ]
  refine wpAnyH_take (i := 18) (v := ?_) rfl (by kernel_rfl) (by kernel_rfl) (by kernel_rfl) (fun _ _ _ h => h) (Or.inl ⟨by rfl, ?_⟩) (by assumption) ?_
  rotate_left
  · (intro w hSw; (try dsimp only at hSw); go_simp; try with_reducible rfl)
  try simp only [List.getElem_toArray, List.getElem_cons_zero, List.getElem_cons_succ, Act.put, List.setIfInBounds_toArray, List.set_cons_zero, List.set_cons_succ]
  refine wpAnyH_take (i := 19) (v := ?_) rfl (by kernel_rfl) (by kernel_rfl) (by kernel_rfl) (fun _ _ _ h => h) (Or.inl ⟨by rfl, ?_⟩) (by assumption) ?_
  rotate_left
  · (intro w hSw; (try dsimp only at hSw); go_simp; try with_reducible rfl)
  try simp only [List.getElem_toArray, List.getElem_cons_zero, List.getElem_cons_succ, Act.put, List.setIfInBounds_toArray, List.set_cons_zero, List.set_cons_succ]
  refine wpAnyH_take (i := 20) (v := .string (strOfNums ((zs.drop 20).take (U - 20)))) rfl (by kernel_rfl) (by kernel_rfl) (by kernel_rfl) (fun _ _ _ h => h) (Or.inl ⟨by rfl, fun W hW => by have hcv := run_conv_bs (P := Try.prog) (w := W) (cap - 20) ((hW.drop (by omega) 20 (by omega)).take (U - 20) (by omega)) 26 9 5 Try.underlying26 Try.underlying5 Try.underlying9; go_simp⟩) (by assumption) ?_
  try simp only [List.getElem_toArray, List.getElem_cons_zero, List.getElem_cons_succ, Act.put, List.setIfInBounds_toArray, List.set_cons_zero, List.set_cons_succ]
  refine wpAnyH_take (i := 21) (v := ?_) rfl (by kernel_rfl) (by kernel_rfl) (by kernel_rfl) (fun _ _ _ h => h) (Or.inl ⟨by rfl, ?_⟩) (by assumption) ?_
  rotate_left
  · (intro w hSw; (try dsimp only at hSw); go_simp; try with_reducible rfl)
  try simp only [List.getElem_toArray, List.getElem_cons_zero, List.getElem_cons_succ, Act.put, List.setIfInBounds_toArray, List.set_cons_zero, List.set_cons_succ]
  refine wpAnyH_take (i := 22) (v := ?_) rfl (by kernel_rfl) (by kernel_rfl) (by kernel_rfl) (fun _ _ _ h => h) (Or.inl ⟨by rfl, ?_⟩) (by assumption) ?_
  rotate_left
  · (intro w hSw; (try dsimp only at hSw); go_simp; try with_reducible rfl)
  try simp only [List.getElem_toArray, List.getElem_cons_zero, List.getElem_cons_succ, Act.put, List.setIfInBounds_toArray, List.set_cons_zero, List.set_cons_succ]
  refine wpAnyH_take (i := 23) (v := ?_) rfl (by kernel_rfl) (by kernel_rfl) (by kernel_rfl) (fun _ _ _ h => h) (Or.inl ⟨by rfl, ?_⟩) (by assumption) ?_
  rotate_left
  · (intro w hSw; (try dsimp only at hSw); go_simp; try with_reducible rfl)
  try simp only [List.getElem_toArray, List.getElem_cons_zero, List.getElem_cons_succ, Act.put, List.setIfInBounds_toArray, List.set_cons_zero, List.set_cons_succ]
  refine wpAnyH_take (i := 24) (v := .string (strOfNums (zs.drop U))) rfl (by kernel_rfl) (by kernel_rfl) (by kernel_rfl) (fun _ _ _ h => h) (Or.inl ⟨by rfl, fun W hW => by have hcv := run_conv_bs (P := Try.prog) (w := W) (cap - U) (hW.drop (by omega) U (by omega)) 26 9 5 Try.underlying26 Try.underlying5 Try.underlying9; go_simp⟩) (by assumption) ?_
  try simp only [List.getElem_toArray, List.getElem_cons_zero, List.getElem_cons_succ, Act.put, List.setIfInBounds_toArray, List.set_cons_zero, List.set_cons_succ]
  refine wpAnyH_ready (rs := [1]) (by kernel_rfl) (by simp) ?_
  refine AllReadyH.cons (o := _) rfl (fun K hK => ?_) AllReadyH.nil
  go_simp
  refine (rnumc _ b off n cap zs H.out.drew hcap 0 2 0 2 rfl rfl (by omega) (by omega) (by omega)).mono ?_
  rintro e w' ⟨rfl, hw'⟩
  rw [hw', hsp]
  clear hw'
  refine hK _ _ H.out.drew (fun hHeld => ?_)
  try simp only [List.getElem_toArray, List.getElem_cons_zero, List.getElem_cons_succ, Act.put, List.setIfInBounds_toArray, List.set_cons_zero, List.set_cons_succ]
  refine wpAnyH_ready (rs := [3]) (by kernel_rfl) (by simp) ?_
  refine AllReadyH.cons (o := _) rfl (fun K hK => ?_) AllReadyH.nil
  go_simp
  refine (rnumc _ b off n cap zs H.out.drew hcap 2 2 2 2 rfl rfl (by omega) (by omega) (by omega)).mono ?_
  rintro e w' ⟨rfl, hw'⟩
  rw [hw', hdp]
  clear hw'
  refine hK _ _ H.out.drew (fun hHeld => ?_)
  try simp only [List.getElem_toArray, List.getElem_cons_zero, List.getElem_cons_succ, Act.put, List.setIfInBounds_toArray, List.set_cons_zero, List.set_cons_succ]
  refine wpAnyH_ready (rs := [5]) (by kernel_rfl) (by simp) ?_
  refine AllReadyH.cons (o := _) rfl (fun K hK => ?_) AllReadyH.nil
  go_simp
  refine (rnumc _ b off n cap zs H.out.drew hcap 4 4 4 4 rfl rfl (by omega) (by omega) (by omega)).mono ?_
  rintro e w' ⟨rfl, hw'⟩
  rw [hw', hsq]
  clear hw'
  refine hK _ _ H.out.drew (fun hHeld => ?_)
  try simp only [List.getElem_toArray, List.getElem_cons_zero, List.getElem_cons_succ, Act.put, List.setIfInBounds_toArray, List.set_cons_zero, List.set_cons_succ]
  refine wpAnyH_take (i := 6) (v := ?_) rfl (by kernel_rfl) (by kernel_rfl) (by kernel_rfl) (fun _ _ _ h => h) (Or.inl ⟨by rfl, ?_⟩) (by assumption) ?_
  rotate_left
  · (intro w hSw; (try dsimp only at hSw); go_simp; try with_reducible rfl)
  try simp only [List.getElem_toArray, List.getElem_cons_zero, List.getElem_cons_succ, Act.put, List.setIfInBounds_toArray, List.set_cons_zero, List.set_cons_succ]
  refine wpAnyH_ready (rs := [8]) (by kernel_rfl) (by simp) ?_
  refine AllReadyH.cons (o := _) rfl (fun K hK => ?_) AllReadyH.nil
  go_simp
  refine (rnumc _ b off n cap zs H.out.drew hcap 8 4 8 4 rfl rfl (by omega) (by omega) (by omega)).mono ?_
  rintro e w' ⟨rfl, hw'⟩
  rw [hw', hak]
  clear hw'
  refine hK _ _ H.out.drew (fun hHeld => ?_)
  try simp only [List.getElem_toArray, List.getElem_cons_zero, List.getElem_cons_succ, Act.put, List.setIfInBounds_toArray, List.set_cons_zero, List.set_cons_succ]
  refine wpAnyH_take (i := 9) (v := ?_) rfl (by kernel_rfl) (by kernel_rfl) (by kernel_rfl) (fun _ _ _ h => h) (Or.inl ⟨by rfl, ?_⟩) (by assumption) ?_
  rotate_left
  · (intro w hSw; (try dsimp only at hSw); go_simp; try with_reducible rfl)
  try simp only [List.getElem_toArray, List.getElem_cons_zero, List.getElem_cons_succ, Act.put, List.setIfInBounds_toArray, List.set_cons_zero, List.set_cons_succ]
  refine wpAnyH_ready (rs := [11]) (by kernel_rfl) (by simp) ?_
  refine AllReadyH.cons (o := _) rfl (fun K hK => ?_) AllReadyH.nil
  go_simp
  refine (rnumc _ b off n cap zs H.out.drew hcap 12 2 12 2 rfl rfl (by omega) (by omega) (by omega)).mono ?_
  rintro e w' ⟨rfl, hw'⟩
  rw [hw', hbo]
  clear hw'
  refine hK _ _ H.out.drew (fun hHeld => ?_)
  try simp only [List.getElem_toArray, List.getElem_cons_zero, List.getElem_cons_succ, Act.put, List.setIfInBounds_toArray, List.set_cons_zero, List.set_cons_succ]
  refine wpAnyH_take (i := 12) (v := ?_) rfl (by kernel_rfl) (by kernel_rfl) (by kernel_rfl) (fun _ _ _ h => h) (Or.inl ⟨by rfl, ?_⟩) (by assumption) ?_
  rotate_left
  · (intro w hSw; (try dsimp only at hSw); go_simp; try with_reducible rfl)
  try simp only [List.getElem_toArray, List.getElem_cons_zero, List.getElem_cons_succ, Act.put, List.setIfInBounds_toArray, List.set_cons_zero, List.set_cons_succ]
  refine wpAnyH_ready (rs := [14]) (by kernel_rfl) (by simp) ?_
  refine AllReadyH.cons (o := _) rfl (fun K hK => ?_) AllReadyH.nil
  go_simp
  refine (rnumc _ b off n cap zs H.out.drew hcap 14 2 14 2 rfl rfl (by omega) (by omega) (by omega)).mono ?_
  rintro e w' ⟨rfl, hw'⟩
  rw [hw', hwi]
  clear hw'
  refine hK _ _ H.out.drew (fun hHeld => ?_)
  try simp only [List.getElem_toArray, List.getElem_cons_zero, List.getElem_cons_succ, Act.put, List.setIfInBounds_toArray, List.set_cons_zero, List.set_cons_succ]
  refine wpAnyH_ready (rs := [16]) (by kernel_rfl) (by simp) ?_
  refine AllReadyH.cons (o := _) rfl (fun K hK => ?_) AllReadyH.nil
  go_simp
  refine (rnumc _ b off n cap zs H.out.drew hcap 18 2 18 2 rfl rfl (by omega) (by omega) (by omega)).mono ?_
  rintro e w' ⟨rfl, hw'⟩
  rw [hw', hur]
  clear hw'
  refine hK _ _ H.out.drew (fun hHeld => ?_)
  try simp only [List.getElem_toArray, List.getElem_cons_zero, List.getElem_cons_succ, Act.put, List.setIfInBounds_toArray, List.set_cons_zero, List.set_cons_succ]
  refine wpAnyH_take (i := 25) (v := ?_) rfl (by kernel_rfl) (by kernel_rfl) (by kernel_rfl) (fun _ _ _ h => h) (Or.inl ⟨by rfl, ?_⟩) (by assumption) ?_
  rotate_left
  · (intro w hSw; (try dsimp only at hSw); go_simp; try with_reducible rfl)
  try simp only [List.getElem_toArray, List.getElem_cons_zero, List.getElem_cons_succ, Act.put, List.setIfInBounds_toArray, List.set_cons_zero, List.set_cons_succ]
  refine wpAnyH_ready (rs := [26]) (by kernel_rfl) (by simp) ?_
  refine AllReadyH.cons (o := _) rfl (fun K hK => ?_) AllReadyH.nil
  go_simp
  refine hK _ _ (H0.out.below (below1 w _)).drew (fun hHeld => ?_)
  try simp only [List.getElem_toArray, List.getElem_cons_zero, List.getElem_cons_succ, Act.put, List.setIfInBounds_toArray, List.set_cons_zero, List.set_cons_succ]
  refine wpAnyH_ready (rs := [27]) (by kernel_rfl) (by simp) ?_
  refine AllReadyH.cons (o := _) rfl (fun K hK => ?_) AllReadyH.nil
  go_simp
  refine hK _ _ (H0.out.below (below1 w _)).drew (fun hHeld => ?_)
  refine wpAnyH_done (by kernel_rfl) ?_ _
  try simp only [List.getElem_toArray, List.getElem_cons_zero, List.getElem_cons_succ, Act.put, List.setIfInBounds_toArray, List.set_cons_zero, List.set_cons_succ]
  go_wp2
  refine bodyPost_ret (v := .tuple #[.agg #[.int .i64 3, .int .i64 0, .int .i64 0, .int .u32 0, .int .i64 sp, .int .i64 dp, .bool false, .int .u32 sq, .int .u32 ak, .int .i64 (bo % 4096), .int .i64 wi, .int .i64 ur, .string (strOfNums ((zs.drop 20).take (U - 20))), .string (strOfNums (zs.drop U))], .int .i64 0]) ?_ rfl ⟨rfl, ?_⟩
  · simp [results, Try.results29, go_sem]
  · exact (below1 w _).drew
end Go.Proofs.Ytgonckbdkgiddaa

namespace Go.Proofs.Ytgonckbdkgiddaa
open Go.RowKit
set_option linter.unusedSimpArgs false
set_option maxRecDepth 20000 in
set_option maxHeartbeats 8000000 in
theorem rdec_tcpU (src dst : Int) (hs : 0 ≤ src ∧ src ≤ 4294967295) (ht : 0 ≤ dst ∧ dst ≤ 4294967295) (w : World) (b off : Nat) (U : Nat) (zs : List Int) (h : BS w (some ⟨b, off, none⟩) U zs) (c1 : ¬ U = 20) (h20 : 20 ≤ U) (T sp dp sq ak bo wi ur P F : Int) (hT : zs.getD 12 0 = T) (hTU : 4 * (T / 16) = (U : Int)) (hsp : num ((zs.drop 0).take 2) = sp) (hdp : num ((zs.drop 2).take 2) = dp) (hsq : num ((zs.drop 4).take 4) = sq) (hak : num ((zs.drop 8).take 4) = ak) (hbo : num ((zs.drop 12).take 2) = bo) (hwi : num ((zs.drop 14).take 2) = wi) (hur : num ((zs.drop 18).take 2) = ur) (hP : psd src dst 6 (U : Int) = P) (hF : fld (wsum zs) = F) (hA : fld (P + F) = 65535) :
    Calls Try.prog 29 #[.int .u32 src, .int .u32 dst, .int .i64 6, .slice (some ⟨b, off, none⟩) U U] w fun e w' => e = .returned (.tuple #[.agg #[.int .i64 3, .int .i64 0, .int .i64 0, .int .u32 0, .int .i64 sp, .int .i64 dp, .bool false, .int .u32 sq, .int .u32 ak, .int .i64 (bo % 4096), .int .i64 wi, .int .i64 ur, .string (strOfNums ((zs.drop 20).take (U - 20))), .string (strOfNums [])], .int .i64 0]) ∧ Below w.heap.size w w' := by
  have h1 : ¬ (U : Int) < 20 := by omega
  have h3 : (12 : Int) < U := by omega
  have h4 : (20 : Int) ≤ U := by omega
  have H0 : Hid (BS w (some ⟨b, off, none⟩) U zs) := h
  have H : Hid (BS (w.alloc (.cells #[.int .i64 0, .int .i64 0, .int .i64 0, .int .u32 0, .int .i64 0, .int .i64 0, .bool false, .int .u32 0, .int .u32 0, .int .i64 0, .int .i64 0, .int .i64 0, .string ⟨#[]⟩, .string ⟨#[]⟩] 48)) (some ⟨b, off, none⟩) U zs) := h.below (below1 w _)
  have hl := h.len
  have b4 := num_bd4 ((h.drop (by omega) 4 (by omega)).take 4 (by omega)) (by omega)
  have b8 := num_bd4 ((h.drop (by omega) 8 (by omega)).take 4 (by omega)) (by omega)
  have b12 := num_bd4 ((h.drop (by omega) 12 (by omega)).take 2 (by omega)) (by omega)
  have f12 := h.fits 12
  have hp1 := psd_bd src dst 6 (U : Int) hs.1 ht.1
  have hp2 := fld_bd (wsum zs) (wsum_bd h.fits)
  rw [hP] at hp1
  rw [hF] at hp2
  rw [hsq] at b4
  rw [hak] at b8
  rw [hbo] at b12
  rw [hT] at f12
  have hwq : IntKind.u32.wrap sq = sq := by rw [IntKind.wrap_u32]; omega
  have hwa : IntKind.u32.wrap ak = ak := by rw [IntKind.wrap_u32]; omega
  have hrm : bo.tmod 4096 = bo % 4096 := Int.tmod_eq_emod_of_nonneg b12.1
  have hq : IntKind.u8.wrap (T.tdiv 16) = T / 16 := by rw [Int.tdiv_eq_ediv_of_nonneg f12.1, IntKind.wrap_u8]; omega
  have hcT : (w.alloc (.cells #[.int .i64 0, .int .i64 0, .int .i64 0, .int .u32 0, .int .i64 0, .int .i64 0, .bool false, .int .u32 0, .int .u32 0, .int .i64 0, .int .i64 0, .int .i64 0, .string ⟨#[]⟩, .string ⟨#[]⟩] 48)).cell? ⟨b, off + 12, none⟩ = some (.int .u8 T) := by
    have := bs_cell H.out 12 (by omega)
    rw [hT] at this
    exact this
  clear h hT
  go_enter Try.func29, Try.ntmps29
  go_wp2_with fail
  refine (rpseudo_any _ src dst 6 (U : Int) hs ht).mono ?_
  rintro e w' ⟨rfl, hw'⟩
  rw [hw', hP]
  clear hw'
  go_wp2_with fail
  refine (rsum_any _ H.out).mono ?_
  rintro e w' ⟨rfl, hw'⟩
  rw [hw', hF]
  clear hw'
  go_wp2_with fail
  refine (radd_any _ _ hp1.1 hp1.2 hp2.1 hp2.2 _).mono ?_
  rintro e w' ⟨rfl, hw'⟩
  rw [hw', hA]
  clear hw'
  go_wp2_with fail
  clear hcT
  refine wp_region_held_drew (S := (fun W => BS W (some ⟨b, off, none⟩) U zs)) (by kernel_rfl) H.out.drew (fun hHeld => ?_)
  refine wpAnyH_take (i := 0) (v := ?_) rfl (by kernel_rfl) (by kernel_rfl) (by kernel_rfl) (fun _ _ _ h => h) (Or.inl ⟨by rfl, ?_⟩) (by assumption) ?_
  rotate_left
  · (intro w hSw; (try dsimp only at hSw); go_simp; try with_reducible rfl)
  try simp only [List.getElem_toArray, List.getElem_cons_zero, List.getElem_cons_succ, Act.put, List.setIfInBounds_toArray, List.set_cons_zero, List.set_cons_succ]
  refine wpAnyH_take (i := 2) (v := ?_) rfl (by kernel_rfl) (by kernel_rfl) (by kernel_rfl) (fun _ _ _ h => h) (Or.inl ⟨by rfl, ?_⟩) (by assumption) ?_
  rotate_left
  · (intro w hSw; (try dsimp only at hSw); go_simp; try with_reducible rfl)
  try simp only [List.getElem_toArray, List.getElem_cons_zero, List.getElem_cons_succ, Act.put, List.setIfInBounds_toArray, List.set_cons_zero, List.set_cons_succ]
  refine wpAnyH_take (i := 4) (v := ?_) rfl (by kernel_rfl) (by kernel_rfl) (by kernel_rfl) (fun _ _ _ h => h) (Or.inl ⟨by rfl, ?_⟩) (by assumption) ?_
  rotate_left
  · (intro w hSw; (try dsimp only at hSw); go_simp; try with_reducible rfl)
  try simp only [List.getElem_toArray, List.getElem_cons_zero, List.getElem_cons_succ, Act.put, List.setIfInBounds_toArray, List.set_cons_zero, List.set_cons_succ]
  refine wpAnyH_take (i := 7) (v := ?_) rfl (by kernel_rfl) (by kernel_rfl) (by kernel_rfl) (fun _ _ _ h => h) (Or.inl ⟨by rfl, ?_⟩) (by assumption) ?_
  rotate_left
  · (intro w hSw; (try dsimp only at hSw); go_simp; try with_reducible rfl)
  try simp only [List.getElem_toArray, List.getElem_cons_zero, List.getElem_cons_succ, Act.put, List.setIfInBounds_toArray, List.set_cons_zero, List.set_cons_succ]
  refine wpAnyH_take (i := 10) (v := ?_) rfl (by kernel_rfl) (by kernel_rfl) (by kernel_rfl) (fun _ _ _ h => h) (Or.inl ⟨by rfl, ?_⟩) (by assumption) ?_
  rotate_left
  · (intro w hSw; (try dsimp only at hSw); go_simp; try with_reducible rfl)
  try simp only [List.getElem_toArray, List.getElem_cons_zero, List.getElem_cons_succ, Act.put, List.setIfInBounds_toArray, List.set_cons_zero, List.set_cons_succ]
  refine wpAnyH_take (i := 13) (v := ?_) rfl (by kernel_rfl) (by kernel_rfl) (by kernel_rfl) (fun _ _ _ h => h) (Or.inl ⟨by rfl, ?_⟩) (by assumption) ?_
  rotate_left
  · (intro w hSw; (try dsimp only at hSw); go_simp; try with_reducible rfl)
  try simp only [List.getElem_toArray, List.getElem_cons_zero, List.getElem_cons_succ, Act.put, List.setIfInBounds_toArray, List.set_cons_zero, List.set_cons_succ]
  refine wpAnyH_take (i := 15) (v := ?_) rfl (by kernel_rfl) (by kernel_rfl) (by kernel_rfl) (fun _ _ _ h => h) (Or.inl ⟨by rfl, ?_⟩) (by assumption) ?_
  rotate_left
  · (intro w hSw; (try dsimp only at hSw); go_simp; try with_reducible rfl)
  try simp only [List.getElem_toArray, List.getElem_cons_zero, List.getElem_cons_succ, Act.put, List.setIfInBounds_toArray, List.set_cons_zero, List.set_cons_succ]
  refine wpAnyH_take (i := 17) (v := ?_) rfl (by kernel_rfl) (by kernel_rfl) (by kernel_rfl) (fun _ _ _ h => h) (Or.inl ⟨by rfl, ?_⟩) (by assumption) ?_
  rotate_left
  · (intro w hSw; (try dsimp only at hSw); go_simp; try with_reducible rfl)
  try simp only [List.getElem_toArray, List.getElem_cons_zero, List.getElem_cons_succ, Act.put, List.setIfInBounds_toArray, List.set_cons_zero, List.set_cons_succ]
  refine wpAnyH_take (i := 18) (v := ?_) rfl (by kernel_rfl) (by kernel_rfl) (by kernel_rfl) (fun _ _ _ h => h) (Or.inl ⟨by rfl, ?_⟩) (by assumption) ?_
  rotate_left
  · (intro w hSw; (try dsimp only at hSw); go_simp; try with_reducible rfl)
  try simp only [List.getElem_toArray, List.getElem_cons_zero, List.getElem_cons_succ, Act.put, List.setIfInBounds_toArray, List.set_cons_zero, List.set_cons_succ]
  refine wpAnyH_take (i := 19) (v := ?_) rfl (by kernel_rfl) (by kernel_rfl) (by kernel_rfl) (fun _ _ _ h => h) (Or.inl ⟨by rfl, ?_⟩) (by assumption) ?_
  rotate_left
  · (intro w hSw; (try dsimp only at hSw); go_simp; try with_reducible rfl)
  try simp only [List.getElem_toArray, List.getElem_cons_zero, List.getElem_cons_succ, Act.put, List.setIfInBounds_toArray, List.set_cons_zero, List.set_cons_succ]
  refine wpAnyH_take (i := 20) (v := .string (strOfNums ((zs.drop 20).take (U - 20)))) rfl (by kernel_rfl) (by kernel_rfl) (by kernel_rfl) (fun _ _ _ h => h) (Or.inl ⟨by rfl, fun W hW => by have hcv := run_conv_bs (P := Try.prog) (w := W) (U - 20) ((hW.drop (by omega) 20 (by omega)).take (U - 20) (by omega)) 26 9 5 Try.underlying26 Try.underlying5 Try.underlying9; go_simp⟩) (by assumption) ?_
  try simp only [List.getElem_toArray, List.getElem_cons_zero, List.getElem_cons_succ, Act.put, List.setIfInBounds_toArray, List.set_cons_zero, List.set_cons_succ]
  refine wpAnyH_take (i := 21) (v := ?_) rfl (by kernel_rfl) (by kernel_rfl) (by kernel_rfl) (fun _ _ _ h => h) (Or.inl ⟨by rfl, ?_⟩) (by assumption) ?_
  rotate_left
  · (intro w hSw; (try dsimp only at hSw); go_simp; try with_reducible rfl)
  try simp only [List.getElem_toArray, List.getElem_cons_zero, List.getElem_cons_succ, Act.put, List.setIfInBounds_toArray, List.set_cons_zero, List.set_cons_succ]
  refine wpAnyH_take (i := 22) (v := ?_) rfl (by kernel_rfl) (by kernel_rfl) (by kernel_rfl) (fun _ _ _ h => h) (Or.inl ⟨by rfl, ?_⟩) (by assumption) ?_
  rotate_left
  · (intro w hSw; (try dsimp only at hSw); go_simp; try with_reducible rfl)
  try simp only [List.getElem_toArray, List.getElem_cons_zero, List.getElem_cons_succ, Act.put, List.setIfInBounds_toArray, List.set_cons_zero, List.set_cons_succ]
  refine wpAnyH_take (i := 23) (v := ?_) rfl (by kernel_rfl) (by kernel_rfl) (by kernel_rfl) (fun _ _ _ h => h) (Or.inl ⟨by rfl, ?_⟩) (by assumption) ?_
  rotate_left
  · (intro w hSw; (try dsimp only at hSw); go_simp; try with_reducible rfl)
  try simp only [List.getElem_toArray, List.getElem_cons_zero, List.getElem_cons_succ, Act.put, List.setIfInBounds_toArray, List.set_cons_zero, List.set_cons_succ]
  refine wpAnyH_take (i := 24) (v := .string (strOfNums [])) rfl (by kernel_rfl) (by kernel_rfl) (by kernel_rfl) (fun _ _ _ h => h) (Or.inl ⟨by rfl, fun W hW => by have hcv := run_conv_bs (P := Try.prog) (w := W) (0) (BS.empty (some ⟨b, off, none⟩)) 26 9 5 Try.underlying26 Try.underlying5 Try.underlying9; go_simp⟩) (by assumption) ?_
  try simp only [List.getElem_toArray, List.getElem_cons_zero, List.getElem_cons_succ, Act.put, List.setIfInBounds_toArray, List.set_cons_zero, List.set_cons_succ]
  refine wpAnyH_ready (rs := [1]) (by kernel_rfl) (by simp) ?_
  refine AllReadyH.cons (o := _) rfl (fun K hK => ?_) AllReadyH.nil
  go_simp
  refine (rnumc _ b off U U zs H.out.drew (Nat.le_refl _) 0 2 0 2 rfl rfl (by omega) (by omega) (by omega)).mono ?_
  rintro e w' ⟨rfl, hw'⟩
  rw [hw', hsp]
  clear hw'
  refine hK _ _ H.out.drew (fun hHeld => ?_)
  try simp only [List.getElem_toArray, List.getElem_cons_zero, List.getElem_cons_succ, Act.put, List.setIfInBounds_toArray, List.set_cons_zero, List.set_cons_succ]
  refine wpAnyH_ready (rs := [3]) (by kernel_rfl) (by simp) ?_
  refine AllReadyH.cons (o := _) rfl (fun K hK => ?_) AllReadyH.nil
  go_simp
  refine (rnumc _ b off U U zs H.out.drew (Nat.le_refl _) 2 2 2 2 rfl rfl (by omega) (by omega) (by omega)).mono ?_
  rintro e w' ⟨rfl, hw'⟩
  rw [hw', hdp]
  clear hw'
  refine hK _ _ H.out.drew (fun hHeld => ?_)
  try simp only [List.getElem_toArray, List.getElem_cons_zero, List.getElem_cons_succ, Act.put, List.setIfInBounds_toArray, List.set_cons_zero, List.set_cons_succ]
  refine wpAnyH_ready (rs := [5]) (by kernel_rfl) (by simp) ?_
  refine AllReadyH.cons (o := _) rfl (fun K hK => ?_) AllReadyH.nil
  go_simp
  refine (rnumc _ b off U U zs H.out.drew (Nat.le_refl _) 4 4 4 4 rfl rfl (by omega) (by omega) (by omega)).mono ?_
  rintro e w' ⟨rfl, hw'⟩
  rw [hw', hsq]
  clear hw'
  refine hK _ _ H.out.drew (fun hHeld => ?_)
  try simp only [List.getElem_toArray, List.getElem_cons_zero, List.getElem_cons_succ, Act.put, List.setIfInBounds_toArray, List.set_cons_zero, List.set_cons_succ]
  refine wpAnyH_take (i := 6) (v := ?_) rfl (by kernel_rfl) (by kernel_rfl) (by kernel_rfl) (fun _ _ _ h => h) (Or.inl ⟨by rfl, ?_⟩) (by assumption) ?_
  rotate_left
  · (intro w hSw; (try dsimp only at hSw); go_simp; try with_reducible rfl)
  try simp only [List.getElem_toArray, List.getElem_cons_zero, List.getElem_cons_succ, Act.put, List.setIfInBounds_toArray, List.set_cons_zero, List.set_cons_succ]
  refine wpAnyH_ready (rs := [8]) (by kernel_rfl) (by simp) ?_
  refine AllReadyH.cons (o := _) rfl (fun K hK => ?_) AllReadyH.nil
  go_simp
  refine (rnumc _ b off U U zs H.out.drew (Nat.le_refl _) 8 4 8 4 rfl rfl (by omega) (by omega) (by omega)).mono ?_
  rintro e w' ⟨rfl, hw'⟩
  rw [hw', hak]
  clear hw'
  refine hK _ _ H.out.drew (fun hHeld => ?_)
  try simp only [List.getElem_toArray, List.getElem_cons_zero, List.getElem_cons_succ, Act.put, List.setIfInBounds_toArray, List.set_cons_zero, List.set_cons_succ]
  refine wpAnyH_take (i := 9) (v := ?_) rfl (by kernel_rfl) (by kernel_rfl) (by kernel_rfl) (fun _ _ _ h => h) (Or.inl ⟨by rfl, ?_⟩) (by assumption) ?_
  rotate_left
  · (intro w hSw; (try dsimp only at hSw); go_simp; try with_reducible rfl)
  try simp only [List.getElem_toArray, List.getElem_cons_zero, List.getElem_cons_succ, Act.put, List.setIfInBounds_toArray, List.set_cons_zero, List.set_cons_succ]
  refine wpAnyH_ready (rs := [11]) (by kernel_rfl) (by simp) ?_
  refine AllReadyH.cons (o := _) rfl (fun K hK => ?_) AllReadyH.nil
  go_simp
  refine (rnumc _ b off U U zs H.out.drew (Nat.le_refl _) 12 2 12 2 rfl rfl (by omega) (by omega) (by omega)).mono ?_
  rintro e w' ⟨rfl, hw'⟩
  rw [hw', hbo]
  clear hw'
  refine hK _ _ H.out.drew (fun hHeld => ?_)
  try simp only [List.getElem_toArray, List.getElem_cons_zero, List.getElem_cons_succ, Act.put, List.setIfInBounds_toArray, List.set_cons_zero, List.set_cons_succ]
  refine wpAnyH_take (i := 12) (v := ?_) rfl (by kernel_rfl) (by kernel_rfl) (by kernel_rfl) (fun _ _ _ h => h) (Or.inl ⟨by rfl, ?_⟩) (by assumption) ?_
  rotate_left
  · (intro w hSw; (try dsimp only at hSw); go_simp; try with_reducible rfl)
  try simp only [List.getElem_toArray, List.getElem_cons_zero, List.getElem_cons_succ, Act.put, List.setIfInBounds_toArray, List.set_cons_zero, List.set_cons_succ]
  refine wpAnyH_ready (rs := [14]) (by kernel_rfl) (by simp) ?_
  refine AllReadyH.cons (o := _) rfl (fun K hK => ?_) AllReadyH.nil
  go_simp
  refine (rnumc _ b off U U zs H.out.drew (Nat.le_refl _) 14 2 14 2 rfl rfl (by omega) (by omega) (by omega)).mono ?_
  rintro e w' ⟨rfl, hw'⟩
  rw [hw', hwi]
  clear hw'
  refine hK _ _ H.out.drew (fun hHeld => ?_)
  try simp only [List.getElem_toArray, List.getElem_cons_zero, List.getElem_cons_succ, Act.put, List.setIfInBounds_toArray, List.set_cons_zero, List.set_cons_succ]
  refine wpAnyH_ready (rs := [16]) (by kernel_rfl) (by simp) ?_
  refine AllReadyH.cons (o := _) rfl (fun K hK => ?_) AllReadyH.nil
  go_simp
  refine (rnumc _ b off U U zs H.out.drew (Nat.le_refl _) 18 2 18 2 rfl rfl (by omega) (by omega) (by omega)).mono ?_
  rintro e w' ⟨rfl, hw'⟩
  rw [hw', hur]
  clear hw'
  refine hK _ _ H.out.drew (fun hHeld => ?_)
  try simp only [List.getElem_toArray, List.getElem_cons_zero, List.getElem_cons_succ, Act.put, List.setIfInBounds_toArray, List.set_cons_zero, List.set_cons_succ]
  refine wpAnyH_take (i := 25) (v := ?_) rfl (by kernel_rfl) (by kernel_rfl) (by kernel_rfl) (fun _ _ _ h => h) (Or.inl ⟨by rfl, ?_⟩) (by assumption) ?_
  rotate_left
  · (intro w hSw; (try dsimp only at hSw); go_simp; try with_reducible rfl)
  try simp only [List.getElem_toArray, List.getElem_cons_zero, List.getElem_cons_succ, Act.put, List.setIfInBounds_toArray, List.set_cons_zero, List.set_cons_succ]
  refine wpAnyH_ready (rs := [26]) (by kernel_rfl) (by simp) ?_
  refine AllReadyH.cons (o := _) rfl (fun K hK => ?_) AllReadyH.nil
  go_simp
  refine hK _ _ (H0.out.below (below1 w _)).drew (fun hHeld => ?_)
  try simp only [List.getElem_toArray, List.getElem_cons_zero, List.getElem_cons_succ, Act.put, List.setIfInBounds_toArray, List.set_cons_zero, List.set_cons_succ]
  refine wpAnyH_ready (rs := [27]) (by kernel_rfl) (by simp) ?_
  refine AllReadyH.cons (o := _) rfl (fun K hK => ?_) AllReadyH.nil
  go_simp
  refine hK _ _ (H0.out.below (below1 w _)).drew (fun hHeld => ?_)
  refine wpAnyH_done (by kernel_rfl) ?_ _
  try simp only [List.getElem_toArray, List.getElem_cons_zero, List.getElem_cons_succ, Act.put, List.setIfInBounds_toArray, List.set_cons_zero, List.set_cons_succ]
  go_wp2
  refine bodyPost_ret (v := .tuple #[.agg #[.int .i64 3, .int .i64 0, .int .i64 0, .int .u32 0, .int .i64 sp, .int .i64 dp, .bool false, .int .u32 sq, .int .u32 ak, .int .i64 (bo % 4096), .int .i64 wi, .int .i64 ur, .string (strOfNums ((zs.drop 20).take (U - 20))), .string (strOfNums [])], .int .i64 0]) ?_ rfl ⟨rfl, ?_⟩
  · simp [results, Try.results29, go_sem]
  · exact (below1 w _).drew
end Go.Proofs.Ytgonckbdkgiddaa

namespace Go.Proofs.Ytgonckbdkgiddaa
open Go.RowKit
set_option linter.unusedSimpArgs false
set_option maxRecDepth 20000 in
set_option maxHeartbeats 8000000 in
theorem rdec_tcp20 (src dst : Int) (hs : 0 ≤ src ∧ src ≤ 4294967295) (ht : 0 ≤ dst ∧ dst ≤ 4294967295) (w : World) (b off : Nat) (zs : List Int) (h : BS w (some ⟨b, off, none⟩) 20 zs) (T sp dp sq ak bo wi ur P F : Int) (hT : zs.getD 12 0 = T) (hTU : 4 * (T / 16) = 20) (hsp : num ((zs.drop 0).take 2) = sp) (hdp : num ((zs.drop 2).take 2) = dp) (hsq : num ((zs.drop 4).take 4) = sq) (hak : num ((zs.drop 8).take 4) = ak) (hbo : num ((zs.drop 12).take 2) = bo) (hwi : num ((zs.drop 14).take 2) = wi) (hur : num ((zs.drop 18).take 2) = ur) (hP : psd src dst 6 20 = P) (hF : fld (wsum zs) = F) (hA : fld (P + F) = 65535) :
    Calls Try.prog 29 #[.int .u32 src, .int .u32 dst, .int .i64 6, .slice (some ⟨b, off, none⟩) 20 20] w fun e w' => e = .returned (.tuple #[.agg #[.int .i64 3, .int .i64 0, .int .i64 0, .int .u32 0, .int .i64 sp, .int .i64 dp, .bool false, .int .u32 sq, .int .u32 ak, .int .i64 (bo % 4096), .int .i64 wi, .int .i64 ur, .string (strOfNums []), .string (strOfNums [])], .int .i64 0]) ∧ Below w.heap.size w w' := by
  have H0 : Hid (BS w (some ⟨b, off, none⟩) 20 zs) := h
  have H : Hid (BS (w.alloc (.cells #[.int .i64 0, .int .i64 0, .int .i64 0, .int .u32 0, .int .i64 0, .int .i64 0, .bool false, .int .u32 0, .int .u32 0, .int .i64 0, .int .i64 0, .int .i64 0, .string ⟨#[]⟩, .string ⟨#[]⟩] 48)) (some ⟨b, off, none⟩) 20 zs) := h.below (below1 w _)
  have hl := h.len
  have b4 := num_bd4 ((h.drop (by omega) 4 (by omega)).take 4 (by omega)) (by omega)
  have b8 := num_bd4 ((h.drop (by omega) 8 (by omega)).take 4 (by omega)) (by omega)
  have b12 := num_bd4 ((h.drop (by omega) 12 (by omega)).take 2 (by omega)) (by omega)
  have f12 := h.fits 12
  have hp1 := psd_bd src dst 6 20 hs.1 ht.1
  have hp2 := fld_bd (wsum zs) (wsum_bd h.fits)
  rw [hP] at hp1
  rw [hF] at hp2
  rw [hsq] at b4
  rw [hak] at b8
  rw [hbo] at b12
  rw [hT] at f12
  have hwq : IntKind.u32.wrap sq = sq := by rw [IntKind.wrap_u32]; omega
  have hwa : IntKind.u32.wrap ak = ak := by rw [IntKind.wrap_u32]; omega
  have hrm : bo.tmod 4096 = bo % 4096 := Int.tmod_eq_emod_of_nonneg b12.1
  have hq : IntKind.u8.wrap (T.tdiv 16) = T / 16 := by rw [Int.tdiv_eq_ediv_of_nonneg f12.1, IntKind.wrap_u8]; omega
  have hcT : (w.alloc (.cells #[.int .i64 0, .int .i64 0, .int .i64 0, .int .u32 0, .int .i64 0, .int .i64 0, .bool false, .int .u32 0, .int .u32 0, .int .i64 0, .int .i64 0, .int .i64 0, .string ⟨#[]⟩, .string ⟨#[]⟩] 48)).cell? ⟨b, off + 12, none⟩ = some (.int .u8 T) := by
    have := bs_cell H.out 12 (by omega)
    rw [hT] at this
    exact this
  clear h hT
  go_enter Try.func29, Try.ntmps29
  go_wp2_with fail
  refine (rpseudo_any _ src dst 6 20 hs ht).mono ?_
  rintro e w' ⟨rfl, hw'⟩
  rw [hw', hP]
  clear hw'
  go_wp2_with fail
  refine (rsum_any _ H.out).mono ?_
  rintro e w' ⟨rfl, hw'⟩
  rw [hw', hF]
  clear hw'
  go_wp2_with fail
  refine (radd_any _ _ hp1.1 hp1.2 hp2.1 hp2.2 _).mono ?_
  rintro e w' ⟨rfl, hw'⟩
  rw [hw', hA]
  clear hw'
  go_wp2_with fail
  clear hcT
  refine wp_region_held_drew (S := (fun W => BS W (some ⟨b, off, none⟩) 20 zs)) (by kernel_rfl) H.out.drew (fun hHeld => ?_)
  refine wpAnyH_take (i := 0) (v := ?_) rfl (by kernel_rfl) (by kernel_rfl) (by kernel_rfl) (fun _ _ _ h => h) (Or.inl ⟨by rfl, ?_⟩) (by assumption) ?_
  rotate_left
  · (intro w hSw; (try dsimp only at hSw); go_simp; try with_reducible rfl)
  try simp only [List.getElem_toArray, List.getElem_cons_zero, List.getElem_cons_succ, Act.put, List.setIfInBounds_toArray, List.set_cons_zero, List.set_cons_succ]
  refine wpAnyH_take (i := 2) (v := ?_) rfl (by kernel_rfl) (by kernel_rfl) (by kernel_rfl) (fun _ _ _ h => h) (Or.inl ⟨by rfl, ?_⟩) (by assumption) ?_
  rotate_left
  · (intro w hSw; (try dsimp only at hSw); go_simp; try with_reducible rfl)
  try simp only [List.getElem_toArray, List.getElem_cons_zero, List.getElem_cons_succ, Act.put, List.setIfInBounds_toArray, List.set_cons_zero, List.set_cons_succ]
  refine wpAnyH_take (i := 4) (v := ?_) rfl (by kernel_rfl) (by kernel_rfl) (by kernel_rfl) (fun _ _ _ h => h) (Or.inl ⟨by rfl, ?_⟩) (by assumption) ?_
  rotate_left
  · (intro w hSw; (try dsimp only at hSw); go_simp; try with_reducible rfl)
  try simp only [List.getElem_toArray, List.getElem_cons_zero, List.getElem_cons_succ, Act.put, List.setIfInBounds_toArray, List.set_cons_zero, List.set_cons_succ]
  refine wpAnyH_take (i := 7) (v := ?_) rfl (by kernel_rfl) (by kernel_rfl) (by kernel_rfl) (fun _ _ _ h => h) (Or.inl ⟨by rfl, ?_⟩) (by assumption) ?_
  rotate_left
  · (intro w hSw; (try dsimp only at hSw); go_simp; try with_reducible rfl)
  try simp only [List.getElem_toArray, List.getElem_cons_zero, List.getElem_cons_succ, Act.put, List.setIfInBounds_toArray, List.set_cons_zero, List.set_cons_succ]
  refine wpAnyH_take (i := 10) (v := ?_) rfl (by kernel_rfl) (by kernel_rfl) (by kernel_rfl) (fun _ _ _ h => h) (Or.inl ⟨by rfl, ?_⟩) (by assumption) ?_
  rotate_left
  · (intro w hSw; (try dsimp only at hSw); go_simp; try with_reducible rfl)
  try simp only [List.getElem_toArray, List.getElem_cons_zero, List.getElem_cons_succ, Act.put, List.setIfInBounds_toArray, List.set_cons_zero, List.set_cons_succ]
  refine wpAnyH_take (i := 13) (v := ?_) rfl (by kernel_rfl) (by kernel_rfl) (by kernel_rfl) (fun _ _ _ h => h) (Or.inl ⟨by rfl, ?_⟩) (by assumption) ?_
  rotate_left
  · (intro w hSw; (try dsimp only at hSw); go_simp; try with_reducible rfl)
  try simp only [List.getElem_toArray, List.getElem_cons_zero, List.getElem_cons_succ, Act.put, List.setIfInBounds_toArray, List.set_cons_zero, List.set_cons_succ]
  refine wpAnyH_take (i := 15) (v := ?_) rfl (by kernel_rfl) (by kernel_rfl) (by kernel_rfl) (fun _ _ _ h => h) (Or.inl ⟨by rfl, ?_⟩) (by assumption) ?_
  rotate_left
  · (intro w hSw; (try dsimp only at hSw); go_simp; try with_reducible rfl)
  try simp only [List.getElem_toArray, List.getElem_cons_zero, List.getElem_cons_succ, Act.put, List.setIfInBounds_toArray, List.set_cons_zero, List.set_cons_succ]
  refine wpAnyH_take (i := 17) (v := ?_) rfl (by kernel_rfl) (by kernel_rfl) (by kernel_rfl) (fun _ _ _ h => h) (Or.inl ⟨by rfl, ?_⟩) (by assumption) ?_
  rotate_left
  · (intro w hSw; (try dsimp only at hSw); go_simp; try with_reducible rfl)
  try simp only [List.getElem_toArray, List.getElem_cons_zero, List.getElem_cons_succ, Act.put, List.setIfInBounds_toArray, List.set_cons_zero, List.set_cons_succ]
  refine wpAnyH_take (i := 18) (v := ?_) rfl (by kernel_rfl) (by kernel_rfl) (by kernel_rfl) (fun _ _ _ h => h) (Or.inl ⟨by rfl, ?_⟩) (by assumption) ?_
  rotate_left
  · (intro w hSw; (try dsimp only at hSw); go_simp; try with_reducible rfl)
  try simp only [List.getElem_toArray, List.getElem_cons_zero, List.getElem_cons_succ, Act.put, List.setIfInBounds_toArray, List.set_cons_zero, List.set_cons_succ]
  refine wpAnyH_take (i := 19) (v := ?_) rfl (by kernel_rfl) (by kernel_rfl) (by kernel_rfl) (fun _ _ _ h => h) (Or.inl ⟨by rfl, ?_⟩) (by assumption) ?_
  rotate_left
  · (intro w hSw; (try dsimp only at hSw); go_simp; try with_reducible rfl)
  try simp only [List.getElem_toArray, List.getElem_cons_zero, List.getElem_cons_succ, Act.put, List.setIfInBounds_toArray, List.set_cons_zero, List.set_cons_succ]
  refine wpAnyH_take (i := 20) (v := .string (strOfNums [])) rfl (by kernel_rfl) (by kernel_rfl) (by kernel_rfl) (fun _ _ _ h => h) (Or.inl ⟨by rfl, fun W hW => by have hcv := run_conv_bs (P := Try.prog) (w := W) (0) (BS.empty (some ⟨b, off, none⟩)) 26 9 5 Try.underlying26 Try.underlying5 Try.underlying9; go_simp⟩) (by assumption) ?_
  try simp only [List.getElem_toArray, List.getElem_cons_zero, List.getElem_cons_succ, Act.put, List.setIfInBounds_toArray, List.set_cons_zero, List.set_cons_succ]
  refine wpAnyH_take (i := 21) (v := ?_) rfl (by kernel_rfl) (by kernel_rfl) (by kernel_rfl) (fun _ _ _ h => h) (Or.inl ⟨by rfl, ?_⟩) (by assumption) ?_
  rotate_left
  · (intro w hSw; (try dsimp only at hSw); go_simp; try with_reducible rfl)
  try simp only [List.getElem_toArray, List.getElem_cons_zero, List.getElem_cons_succ, Act.put, List.setIfInBounds_toArray, List.set_cons_zero, List.set_cons_succ]
  refine wpAnyH_take (i := 22) (v := ?_) rfl (by kernel_rfl) (by kernel_rfl) (by kernel_rfl) (fun _ _ _ h => h) (Or.inl ⟨by rfl, ?_⟩) (by assumption) ?_
  rotate_left
  · (intro w hSw; (try dsimp only at hSw); go_simp; try with_reducible rfl)
  try simp only [List.getElem_toArray, List.getElem_cons_zero, List.getElem_cons_succ, Act.put, List.setIfInBounds_toArray, List.set_cons_zero, List.set_cons_succ]
  refine wpAnyH_take (i := 23) (v := ?_) rfl (by kernel_rfl) (by kernel_rfl) (by kernel_rfl) (fun _ _ _ h => h) (Or.inl ⟨by rfl, ?_⟩) (by assumption) ?_
  rotate_left
  · (intro w hSw; (try dsimp only at hSw); go_simp; try with_reducible rfl)
  try simp only [List.getElem_toArray, List.getElem_cons_zero, List.getElem_cons_succ, Act.put, List.setIfInBounds_toArray, List.set_cons_zero, List.set_cons_succ]
  refine wpAnyH_take (i := 24) (v := .string (strOfNums [])) rfl (by kernel_rfl) (by kernel_rfl) (by kernel_rfl) (fun _ _ _ h => h) (Or.inl ⟨by rfl, fun W hW => by have hcv := run_conv_bs (P := Try.prog) (w := W) (0) (BS.empty (some ⟨b, off, none⟩)) 26 9 5 Try.underlying26 Try.underlying5 Try.underlying9; go_simp⟩) (by assumption) ?_
  try simp only [List.getElem_toArray, List.getElem_cons_zero, List.getElem_cons_succ, Act.put, List.setIfInBounds_toArray, List.set_cons_zero, List.set_cons_succ]
  refine wpAnyH_ready (rs := [1]) (by kernel_rfl) (by simp) ?_
  refine AllReadyH.cons (o := _) rfl (fun K hK => ?_) AllReadyH.nil
  go_simp
  refine (rnumc _ b off 20 20 zs H.out.drew (Nat.le_refl _) 0 2 0 2 rfl rfl (by omega) (by omega) (by omega)).mono ?_
  rintro e w' ⟨rfl, hw'⟩
  rw [hw', hsp]
  clear hw'
  refine hK _ _ H.out.drew (fun hHeld => ?_)
  try simp only [List.getElem_toArray, List.getElem_cons_zero, List.getElem_cons_succ, Act.put, List.setIfInBounds_toArray, List.set_cons_zero, List.set_cons_succ]
  refine wpAnyH_ready (rs := [3]) (by kernel_rfl) (by simp) ?_
  refine AllReadyH.cons (o := _) rfl (fun K hK => ?_) AllReadyH.nil
  go_simp
  refine (rnumc _ b off 20 20 zs H.out.drew (Nat.le_refl _) 2 2 2 2 rfl rfl (by omega) (by omega) (by omega)).mono ?_
  rintro e w' ⟨rfl, hw'⟩
  rw [hw', hdp]
  clear hw'
  refine hK _ _ H.out.drew (fun hHeld => ?_)
  try simp only [List.getElem_toArray, List.getElem_cons_zero, List.getElem_cons_succ, Act.put, List.setIfInBounds_toArray, List.set_cons_zero, List.set_cons_succ]
  refine wpAnyH_ready (rs := [5]) (by kernel_rfl) (by simp) ?_
  refine AllReadyH.cons (o := _) rfl (fun K hK => ?_) AllReadyH.nil
  go_simp
  refine (rnumc _ b off 20 20 zs H.out.drew (Nat.le_refl _) 4 4 4 4 rfl rfl (by omega) (by omega) (by omega)).mono ?_
  rintro e w' ⟨rfl, hw'⟩
  rw [hw', hsq]
  clear hw'
  refine hK _ _ H.out.drew (fun hHeld => ?_)
  try simp only [List.getElem_toArray, List.getElem_cons_zero, List.getElem_cons_succ, Act.put, List.setIfInBounds_toArray, List.set_cons_zero, List.set_cons_succ]
  refine wpAnyH_take (i := 6) (v := ?_) rfl (by kernel_rfl) (by kernel_rfl) (by kernel_rfl) (fun _ _ _ h => h) (Or.inl ⟨by rfl, ?_⟩) (by assumption) ?_
  rotate_left
  · (intro w hSw; (try dsimp only at hSw); go_simp; try with_reducible rfl)
  try simp only [List.getElem_toArray, List.getElem_cons_zero, List.getElem_cons_succ, Act.put, List.setIfInBounds_toArray, List.set_cons_zero, List.set_cons_succ]
  refine wpAnyH_ready (rs := [8]) (by kernel_rfl) (by simp) ?_
  refine AllReadyH.cons (o := _) rfl (fun K hK => ?_) AllReadyH.nil
  go_simp
  refine (rnumc _ b off 20 20 zs H.out.drew (Nat.le_refl _) 8 4 8 4 rfl rfl (by omega) (by omega) (by omega)).mono ?_
  rintro e w' ⟨rfl, hw'⟩
  rw [hw', hak]
  clear hw'
  refine hK _ _ H.out.drew (fun hHeld => ?_)
  try simp only [List.getElem_toArray, List.getElem_cons_zero, List.getElem_cons_succ, Act.put, List.setIfInBounds_toArray, List.set_cons_zero, List.set_cons_succ]
  refine wpAnyH_take (i := 9) (v := ?_) rfl (by kernel_rfl) (by kernel_rfl) (by kernel_rfl) (fun _ _ _ h => h) (Or.inl ⟨by rfl, ?_⟩) (by assumption) ?_
  rotate_left
  · (intro w hSw; (try dsimp only at hSw); go_simp; try with_reducible rfl)
  try simp only [List.getElem_toArray, List.getElem_cons_zero, List.getElem_cons_succ, Act.put, List.setIfInBounds_toArray, List.set_cons_zero, List.set_cons_succ]
  refine wpAnyH_ready (rs := [11]) (by kernel_rfl) (by simp) ?_
  refine AllReadyH.cons (o := _) rfl (fun K hK => ?_) AllReadyH.nil
  go_simp
  refine (rnumc _ b off 20 20 zs H.out.drew (Nat.le_refl _) 12 2 12 2 rfl rfl (by omega) (by omega) (by omega)).mono ?_
  rintro e w' ⟨rfl, hw'⟩
  rw [hw', hbo]
  clear hw'
  refine hK _ _ H.out.drew (fun hHeld => ?_)
  try simp only [List.getElem_toArray, List.getElem_cons_zero, List.getElem_cons_succ, Act.put, List.setIfInBounds_toArray, List.set_cons_zero, List.set_cons_succ]
  refine wpAnyH_take (i := 12) (v := ?_) rfl (by kernel_rfl) (by kernel_rfl) (by kernel_rfl) (fun _ _ _ h => h) (Or.inl ⟨by rfl, ?_⟩) (by assumption) ?_
  rotate_left
  · (intro w hSw; (try dsimp only at hSw); go_simp; try with_reducible rfl)
  try simp only [List.getElem_toArray, List.getElem_cons_zero, List.getElem_cons_succ, Act.put, List.setIfInBounds_toArray, List.set_cons_zero, List.set_cons_succ]
  refine wpAnyH_ready (rs := [14]) (by kernel_rfl) (by simp) ?_
  refine AllReadyH.cons (o := _) rfl (fun K hK => ?_) AllReadyH.nil
  go_simp
  refine (rnumc _ b off 20 20 zs H.out.drew (Nat.le_refl _) 14 2 14 2 rfl rfl (by omega) (by omega) (by omega)).mono ?_
  rintro e w' ⟨rfl, hw'⟩
  rw [hw', hwi]
  clear hw'
  refine hK _ _ H.out.drew (fun hHeld => ?_)
  try simp only [List.getElem_toArray, List.getElem_cons_zero, List.getElem_cons_succ, Act.put, List.setIfInBounds_toArray, List.set_cons_zero, List.set_cons_succ]
  refine wpAnyH_ready (rs := [16]) (by kernel_rfl) (by simp) ?_
  refine AllReadyH.cons (o := _) rfl (fun K hK => ?_) AllReadyH.nil
  go_simp
  refine (rnumc _ b off 20 20 zs H.out.drew (Nat.le_refl _) 18 2 18 2 rfl rfl (by omega) (by omega) (by omega)).mono ?_
  rintro e w' ⟨rfl, hw'⟩
  rw [hw', hur]
  clear hw'
  refine hK _ _ H.out.drew (fun hHeld => ?_)
  try simp only [List.getElem_toArray, List.getElem_cons_zero, List.getElem_cons_succ, Act.put, List.setIfInBounds_toArray, List.set_cons_zero, List.set_cons_succ]
  refine wpAnyH_take (i := 25) (v := ?_) rfl (by kernel_rfl) (by kernel_rfl) (by kernel_rfl) (fun _ _ _ h => h) (Or.inl ⟨by rfl, ?_⟩) (by assumption) ?_
  rotate_left
  · (intro w hSw; (try dsimp only at hSw); go_simp; try with_reducible rfl)
  try simp only [List.getElem_toArray, List.getElem_cons_zero, List.getElem_cons_succ, Act.put, List.setIfInBounds_toArray, List.set_cons_zero, List.set_cons_succ]
  refine wpAnyH_ready (rs := [26]) (by kernel_rfl) (by simp) ?_
  refine AllReadyH.cons (o := _) rfl (fun K hK => ?_) AllReadyH.nil
  go_simp
  refine hK _ _ (H0.out.below (below1 w _)).drew (fun hHeld => ?_)
  try simp only [List.getElem_toArray, List.getElem_cons_zero, List.getElem_cons_succ, Act.put, List.setIfInBounds_toArray, List.set_cons_zero, List.set_cons_succ]
  refine wpAnyH_ready (rs := [27]) (by kernel_rfl) (by simp) ?_
  refine AllReadyH.cons (o := _) rfl (fun K hK => ?_) AllReadyH.nil
  go_simp
  refine hK _ _ (H0.out.below (below1 w _)).drew (fun hHeld => ?_)
  refine wpAnyH_done (by kernel_rfl) ?_ _
  try simp only [List.getElem_toArray, List.getElem_cons_zero, List.getElem_cons_succ, Act.put, List.setIfInBounds_toArray, List.set_cons_zero, List.set_cons_succ]
  go_wp2
  refine bodyPost_ret (v := .tuple #[.agg #[.int .i64 3, .int .i64 0, .int .i64 0, .int .u32 0, .int .i64 sp, .int .i64 dp, .bool false, .int .u32 sq, .int .u32 ak, .int .i64 (bo % 4096), .int .i64 wi, .int .i64 ur, .string (strOfNums []), .string (strOfNums [])], .int .i64 0]) ?_ rfl ⟨rfl, ?_⟩
  · simp [results, Try.results29, go_sem]
  · exact (below1 w _).drew
end Go.Proofs.Ytgonckbdkgiddaa

namespace Go.Proofs.Ytgonckbdkgiddaa
open Go.RowKit
set_option maxHeartbeats 2000000 in
theorem rdec_opaque (src dst p : Int) (h1 : (p == 1) = false) (h2 : (p == 17) = false) (h3 : (p == 6) = false) (w : World) (a : Option Addr) (n cap : Nat) (zs : List Int) (h : BS w a n zs) :
    Calls Try.prog 29 #[.int .u32 src, .int .u32 dst, .int .i64 p, .slice a n cap] w fun e w' => e = .returned (.tuple #[.agg #[.int .i64 0, .int .i64 0, .int .i64 0, .int .u32 0, .int .i64 0, .int .i64 0, .bool false, .int .u32 0, .int .u32 0, .int .i64 0, .int .i64 0, .int .i64 0, .string ⟨#[]⟩, .string (strOfNums zs)], .int .i64 0]) ∧ Below w.heap.size w w' := by
  have hcv := run_conv_bs (P := Try.prog) cap (h.below (below1 w (.cells #[.int .i64 0, .int .i64 0, .int .i64 0, .int .u32 0, .int .i64 0, .int .i64 0, .bool false, .int .u32 0, .int .u32 0, .int .i64 0, .int .i64 0, .int .i64 0, .string ⟨#[]⟩, .string ⟨#[]⟩] 48))) 26 9 5 Try.underlying26 Try.underlying5 Try.underlying9
  clear h
  go_enter Try.func29, Try.ntmps29
  go_wp2
  refine bodyPost_ret (v := .tuple #[.agg #[.int .i64 0, .int .i64 0, .int .i64 0, .int .u32 0, .int .i64 0, .int .i64 0, .bool false, .int .u32 0, .int .u32 0, .int .i64 0, .int .i64 0, .int .i64 0, .string ⟨#[]⟩, .string (strOfNums zs)], .int .i64 0]) ?_ rfl ⟨rfl, ?_⟩
  · simp [results, Try.results29, go_sem]
  · exact below1 w _
end Go.Proofs.Ytgonckbdkgiddaa

namespace Go.Proofs.Ytgonckbdkgiddaa
open Go.RowKit

theorem num_one (zs : List Int) (k : Nat) (h : k + 1 ≤ zs.length) : num ((zs.drop k).take 1) = zs.getD k 0 := by
  rw [List.drop_eq_getElem_cons (show k < zs.length by omega)]
  simp only [List.take_succ_cons, List.take_zero, List.getD_eq_getElem?_getD]
  rw [List.getElem?_eq_getElem (show k < zs.length by omega)]
  simp [num]

theorem rdecode_any (src dst p : Int) (hs : 0 ≤ src ∧ src ≤ 4294967295) (ht : 0 ≤ dst ∧ dst ≤ 4294967295) (a : Option Addr) (n cap : Nat) (zs : List Int) (hcap : n ≤ cap) (w : World) (h : BS w a n zs) :
    Calls Try.prog 29 #[.int .u32 src, .int .u32 dst, .int .i64 p, .slice a n cap] w fun e w' => e = .returned (.tuple #[(decR src dst (kindV p) zs).v, .int .i64 (decE src dst (kindV p) zs)]) ∧ Below w.heap.size w w' := by
  have hl := h.len
  unfold decR decE
  by_cases p1 : p = 1
  · subst p1
    rw [show kindV 1 = 1 from rfl]
    by_cases hn : n < 8
    · have hm : msrV 1 zs = 20 := by unfold msrV; rw [if_pos (by rw [hl, show fixV 1 = 8 from rfl]; omega)]
      rw [hm, if_neg (by simp), if_neg (by decide)]
      exact rdec_icmp_short src dst w a n cap hn
    have hm : msrV 1 zs = 0 := by unfold msrV; rw [if_neg (by rw [hl, show fixV 1 = 8 from rfl]; omega), if_neg (by decide), if_neg (by decide)]
    obtain ⟨b, off, rfl⟩ : ∃ b off, a = some ⟨b, off, none⟩ := by
      rcases h.cells with h0 | ⟨b, off, e, _⟩
      · omega
      · exact ⟨b, off, e⟩
    have hr : rightV src dst 1 zs = (sumV src dst 1 zs == 65535) := by unfold rightV; rw [if_neg (by decide), if_neg (by omega)]
    rw [hm, hr, if_pos rfl]
    by_cases hb : sumV src dst 1 zs = 65535
    · rw [if_pos ⟨rfl, by simp [hb]⟩, if_pos (by simp [hb])]
      have hF : fld (wsum zs) = 65535 := by
        have : sumV src dst 1 zs = fld (wsum zs) := by unfold sumV; rw [if_pos rfl]
        rw [← this]; exact hb
      have e0 := num_one zs 0 (by omega)
      have e1 := num_one zs 1 (by omega)
      unfold readR
      rw [if_pos rfl]
      by_cases hc : cap = 8
      · obtain rfl : n = 8 := by omega
        subst hc
        have hz : zs.drop 8 = [] := List.drop_eq_nil_of_le (by omega)
        rw [hz]
        exact rdec_icmp8 src dst w b off zs h _ _ _ e0.symm e1.symm rfl hF
      · exact rdec_icmp src dst w b off n cap zs h hcap (by omega) hc _ _ _ e0.symm e1.symm rfl hF
    · rw [if_neg (by rintro ⟨_, h2⟩; exact hb (by simpa using h2)), if_neg (by simp [hb])]
      exact rdec_icmp_sum src dst w b off n cap zs h (by omega) hb
  by_cases p2 : p = 17
  · subst p2
    rw [show kindV 17 = 2 from rfl]
    by_cases hn : n < 8
    · have hm : msrV 2 zs = 20 := by unfold msrV; rw [if_pos (by rw [hl, show fixV 2 = 8 from rfl]; omega)]
      rw [hm, if_neg (by simp), if_neg (by decide)]
      exact rdec_udp_short src dst w a n cap hn
    obtain ⟨b, off, rfl⟩ : ∃ b off, a = some ⟨b, off, none⟩ := by
      rcases h.cells with h0 | ⟨b, off, e, _⟩
      · omega
      · exact ⟨b, off, e⟩
    have h4 : num ((zs.drop 4).take 2) = zs.getD 4 0 * 256 + zs.getD 5 0 := num_two zs 4 (by omega)
    have h6 : num ((zs.drop 6).take 2) = zs.getD 6 0 * 256 + zs.getD 7 0 := num_two zs 6 (by omega)
    by_cases he : zs.getD 4 0 * 256 + zs.getD 5 0 = n
    · have hm : msrV 2 zs = 0 := by unfold msrV; rw [if_neg (by rw [hl, show fixV 2 = 8 from rfl]; omega), if_pos rfl, hl, if_pos he]
      rw [hm, if_pos rfl]
      have h4n : num ((zs.drop 4).take 2) = n := h4.trans he
      have hR : (readR 2 zs).v = .agg #[.int .i64 2, .int .i64 0, .int .i64 0, .int .u32 0, .int .i64 (num ((zs.drop 0).take 2)), .int .i64 (num ((zs.drop 2).take 2)), .bool (num ((zs.drop 6).take 2) == 0), .int .u32 0, .int .u32 0, .int .i64 0, .int .i64 0, .int .i64 0, .string ⟨#[]⟩, .string (strOfNums (zs.drop 8))] := rfl
      by_cases hz : zs.getD 6 0 * 256 + zs.getD 7 0 = 0
      · have hr : rightV src dst 2 zs = true := by unfold rightV; rw [if_neg (by decide), if_pos ⟨rfl, hz⟩]
        have h60 : num ((zs.drop 6).take 2) = 0 := h6.trans hz
        rw [hr, if_pos ⟨rfl, rfl⟩, if_pos rfl, hR, h60]
        by_cases hc : cap = 8
        · obtain rfl : n = 8 := by omega
          subst hc
          rw [show zs.drop 8 = [] from List.drop_eq_nil_of_le (by omega)]
          exact rdec_udp08 src dst w b off zs h _ _ rfl rfl h4n h60
        · exact rdec_udp0 src dst w b off n cap zs h hcap (by omega) hc _ _ rfl rfl h4n h60
      · have hr : rightV src dst 2 zs = (sumV src dst 2 zs == 65535) := by unfold rightV; rw [if_neg (by decide), if_neg (by rintro ⟨_, h2⟩; exact hz h2)]
        rw [hr]
        by_cases hb : sumV src dst 2 zs = 65535
        · rw [if_pos ⟨rfl, by simp [hb]⟩, if_pos (by simp [hb]), hR]
          have hz1 : (num ((zs.drop 6).take 2) == 0) = false := by rw [h6]; simp only [beq_eq_false_iff_ne, ne_eq]; exact hz
          rw [hz1]
          have hA : fld (psd src dst 17 n + fld (wsum zs)) = 65535 := by
            have : sumV src dst 2 zs = fld (psd src dst 17 n + fld (wsum zs)) := by unfold sumV; rw [if_neg (by decide), show protoN 2 = 17 from rfl, hl]
            rw [← this]; exact hb
          by_cases hc : cap = 8
          · obtain rfl : n = 8 := by omega
            subst hc
            rw [show zs.drop 8 = [] from List.drop_eq_nil_of_le (by omega)]
            exact rdec_udp8 src dst hs ht w b off zs h _ _ rfl rfl h4n _ rfl hz1 _ _ rfl rfl hA
          · exact rdec_udp src dst hs ht w b off n cap zs h hcap (by omega) hc _ _ rfl rfl h4n _ rfl hz1 _ _ rfl rfl hA
        · rw [if_neg (by rintro ⟨_, h2⟩; exact hb (by simpa using h2)), if_neg (by simp [hb])]
          exact rdec_udp_sum src dst hs ht w b off n cap zs h hcap (by omega) h4n (by rw [h6]; exact hz) hb
    · have hm : msrV 2 zs = 21 := by unfold msrV; rw [if_neg (by rw [hl, show fixV 2 = 8 from rfl]; omega), if_pos rfl, hl, if_neg he]
      rw [hm, if_neg (by simp), if_neg (by decide)]
      exact rdec_udp_form src dst w b off n cap zs h hcap (by omega) (by rw [h4]; exact he)
  by_cases p3 : p = 6
  · subst p3
    rw [show kindV 6 = 3 from rfl]
    by_cases hn : n < 20
    · have hm : msrV 3 zs = 20 := by unfold msrV; rw [if_pos (by rw [hl, show fixV 3 = 20 from rfl]; omega)]
      rw [hm, if_neg (by simp), if_neg (by decide)]
      exact rdec_tcp_short src dst w a n cap hn
    obtain ⟨b, off, rfl⟩ : ∃ b off, a = some ⟨b, off, none⟩ := by
      rcases h.cells with h0 | ⟨b, off, e, _⟩
      · omega
      · exact ⟨b, off, e⟩
    have f12 := h.fits 12
    by_cases h1 : (n : Int) < zs.getD 12 0 / 16 * 4
    · have hm : msrV 3 zs = 20 := by unfold msrV; rw [if_neg (by rw [hl, show fixV 3 = 20 from rfl]; omega), if_neg (by decide), if_pos rfl, hl, if_pos h1]
      rw [hm, if_neg (by simp), if_neg (by decide)]
      exact rdec_tcp_big src dst w b off n cap zs h (by omega) (by omega) h1
    by_cases h2 : zs.getD 12 0 / 16 * 4 < 20
    · have hm : msrV 3 zs = 21 := by unfold msrV; rw [if_neg (by rw [hl, show fixV 3 = 20 from rfl]; omega), if_neg (by decide), if_pos rfl, hl, if_neg h1, if_pos h2]
      rw [hm, if_neg (by simp), if_neg (by decide)]
      exact rdec_tcp_form src dst w b off n cap zs h (by omega) h2
    have hm : msrV 3 zs = 0 := by unfold msrV; rw [if_neg (by rw [hl, show fixV 3 = 20 from rfl]; omega), if_neg (by decide), if_pos rfl, hl, if_neg h1, if_neg h2]
    have hr : rightV src dst 3 zs = (sumV src dst 3 zs == 65535) := by unfold rightV; rw [if_neg (by decide), if_neg (by omega)]
    rw [hm, hr, if_pos rfl]
    by_cases hb : sumV src dst 3 zs = 65535
    · rw [if_pos ⟨rfl, by simp [hb]⟩, if_pos (by simp [hb])]
      have hA : fld (psd src dst 6 n + fld (wsum zs)) = 65535 := by
        have : sumV src dst 3 zs = fld (psd src dst 6 n + fld (wsum zs)) := by unfold sumV; rw [if_neg (by decide), show protoN 3 = 6 from rfl, hl]
        rw [← this]; exact hb
      obtain ⟨U, hU⟩ : ∃ U : Nat, (zs.getD 12 0 / 16 * 4).toNat = U := ⟨_, rfl⟩
      have hTU : 4 * (zs.getD 12 0 / 16) = (U : Int) := by omega
      have hR : (readR 3 zs).v = .agg #[.int .i64 3, .int .i64 0, .int .i64 0, .int .u32 0, .int .i64 (num ((zs.drop 0).take 2)), .int .i64 (num ((zs.drop 2).take 2)), .bool false, .int .u32 (num ((zs.drop 4).take 4)), .int .u32 (num ((zs.drop 8).take 4)), .int .i64 (num ((zs.drop 12).take 2) % 4096), .int .i64 (num ((zs.drop 14).take 2)), .int .i64 (num ((zs.drop 18).take 2)), .string (strOfNums ((zs.drop 20).take (U - 20))), .string (strOfNums (zs.drop U))] := by
        rw [← hU]; rfl
      rw [hR]
      by_cases hc1 : cap = 20
      · obtain rfl : n = 20 := by omega
        obtain rfl : U = 20 := by omega
        subst hc1
        rw [show zs.drop 20 = [] from List.drop_eq_nil_of_le (by omega)]
        exact rdec_tcp20 src dst hs ht w b off zs h _ _ _ _ _ _ _ _ _ _ rfl hTU rfl rfl rfl rfl rfl rfl rfl rfl rfl hA
      by_cases hc2 : cap = U
      · obtain rfl : n = U := by omega
        subst hc2
        rw [show zs.drop cap = [] from List.drop_eq_nil_of_le (by omega)]
        exact rdec_tcpU src dst hs ht w b off cap zs h hc1 (by omega) _ _ _ _ _ _ _ _ _ _ rfl hTU rfl rfl rfl rfl rfl rfl rfl rfl rfl hA
      · exact rdec_tcp src dst hs ht w b off n cap U zs h hcap (by omega) hc1 hc2 (by omega) _ _ _ _ _ _ _ _ _ _ rfl hTU rfl rfl rfl rfl rfl rfl rfl rfl rfl hA
    · rw [if_neg (by rintro ⟨_, h2⟩; exact hb (by simpa using h2)), if_neg (by simp [hb])]
      exact rdec_tcp_sum src dst hs ht w b off n cap zs h (by omega) (by omega) (by omega) hb
  · have hk : kindV p = 0 := by unfold kindV; rw [if_neg p1, if_neg p2, if_neg p3]
    rw [hk]
    have hm : msrV 0 zs = 0 := by unfold msrV; rw [show fixV 0 = 0 from rfl, if_neg (by omega), if_neg (by decide), if_neg (by decide)]
    have hr : rightV src dst 0 zs = true := by unfold rightV; rw [if_pos rfl]
    rw [hm, hr, if_pos ⟨rfl, rfl⟩, if_pos rfl, if_pos rfl]
    exact rdec_opaque src dst p (by simp [p1]) (by simp [p2]) (by simp [p3]) w a n cap zs h
end Go.Proofs.Ytgonckbdkgiddaa
