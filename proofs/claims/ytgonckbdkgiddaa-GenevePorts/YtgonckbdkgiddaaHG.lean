/- read of package geneve where there are no options. Conditions: as said. -/
import Derived.Test.YtgonckbdkgiddaaHF
namespace Go.Proofs.Ytgonckbdkgiddaa
open Go.RowKit
set_option maxRecDepth 20000
set_option linter.unusedSimpArgs false
def zeroT : Array Value := #[.int .u32 0, .int .u32 0, .int .i64 0, .int .i64 0, .bool false, .slice none 0 0, .string ⟨#[]⟩]
theorem infoTn : (Try.prog.info? 25).map (·.size) = some 7 := by kernel_rfl
theorem results_tb {fn : Func} {p u : Tmp} (h : fn.results = #[.cell p 25, .tmp u]) (tmps : Array Value) (w : World) (g : Nat) (cs : Array Value)
    (hp : tmps.getD p undef = .pointer (some ⟨g, 0, none⟩)) (hg : w.heap[g]? = some (.cells cs 25 (0, 0))) (hs : cs.size = 7) :
    (results fn tmps).run Try.prog w = .ok (.tuple #[.agg cs, tmps.getD u undef]) w := by
  rw [results_cell_tmp h, hp]
  simp only [asAddr, Sem.run_pure, Result.andThen_ok, run_loadVar_row w g 25 25 cs (0, 0) _ hg Try.underlying25 rfl (by rw [hs]; exact infoTn)]
set_option maxHeartbeats 2000000 in
theorem readOpts_nil (a : Option Addr) (cap : Nat) (w : World) :
    Calls Try.prog 61 #[.slice a 0 cap] w fun e w' => e = .returned (.tuple #[.slice none 0 0, .bool true]) ∧ w' = w := by
  go_enter Try.func61, Try.ntmps61
  go_wp2_with fail
  refine scope_loop 0 (fun a' w' => ∃ (u6 u7 u8 u9 u10 u11 u12 u13 u14 u15 u16 u17 u18 u19 u20 u21 u22 u23 u24 u25 u26 u27 u28 u29 u30 u31 u32 u33 u34 u35 u36 u37 u38 : Value), a' = { tmps := #[.slice a 0 cap, undef, .slice none 0 0, .bool false, .slice none 0 0, .int .i64 0, u6, u7, u8, u9, u10, u11, u12, u13, u14, u15, u16, u17, u18, u19, u20, u21, u22, u23, u24, u25, u26, u27, u28, u29, u30, u31, u32, u33, u34, u35, u36, u37, u38], defers := [] } ∧ w' = w) (fun _ _ => 0) rfl ?_ ?_
  · rintro a' w' ⟨u6, u7, u8, u9, u10, u11, u12, u13, u14, u15, u16, u17, u18, u19, u20, u21, u22, u23, u24, u25, u26, u27, u28, u29, u30, u31, u32, u33, u34, u35, u36, u37, u38, rfl, rfl⟩ IH
    clear IH
    go_wp2
    simp only [Exit.jumpTo]
    go_ret2
    exact ⟨rfl, rfl⟩
  · intro HG
    go_wp2_with fail
    go_step3
    rename_i K hK
    exact hK _ _ (HG.out _ _ ⟨_, _, _, _, _, _, _, _, _, _, _, _, _, _, _, _, _, _, _, _, _, _, _, _, _, _, _, _, _, _, _, _, _, rfl, rfl⟩)
theorem Eth9.fits_drop9 {zs : List Int} (h : Fit zs) (k : Nat) : Fit (zs.drop k) := fun i => by
  rw [List.getD_eq_getElem?_getD, List.getElem?_drop, ← List.getD_eq_getElem?_getD]
  exact h (k + i)
theorem u8_and63 (z : Int) (h : 0 ≤ z ∧ z ≤ 255) : bits .and .u8 z 63 = z % 64 := by
  rw [u8_and z 63 (by omega) (by omega) (by omega) (by omega), show (63 : Int).toNat = 2 ^ 6 - 1 from rfl, Nat.and_two_pow_sub_one_eq_mod]
  omega
set_option maxHeartbeats 4000000 in
theorem read_nil (b off n cap : Nat) (zs : List Int) (w : World) (h : BS w (some ⟨b, off, none⟩) n zs) (hcap : n ≤ cap) (h8 : 8 < n) (hz : zs.getD 0 0 % 64 = 0) :
    Calls Try.prog 26 #[.slice (some ⟨b, off, none⟩) n cap] w fun e w' => e = .returned (.tuple #[.agg #[.int .u32 0, .int .u32 0, .int .i64 0, .int .i64 (num ((zs.drop 4).take 3)), .bool (bits .and .u8 (zs.getD 1 0) 128 != 0), .slice none 0 0, .string (strOfNums (zs.drop 8))], .bool true]) ∧ Below w.heap.size w w' := by
  have hl := h.len
  have hr := h.room
  have H : Hid _ := h
  have hcell : ∀ j, j < n → w.cell? ⟨b, off + j, none⟩ = some (.int .u8 (zs.getD j 0)) ∧ b < w.heap.size := fun j hj => by
    rcases h.cells with h0 | ⟨b', off', e, hc⟩
    · omega
    · cases e; exact ⟨hc j (by omega), cell_lt (hc j (by omega))⟩
  obtain ⟨c0, hbl⟩ := hcell 0 (by omega)
  obtain ⟨c1, _⟩ := hcell 1 (by omega)
  have hz0 := h.fits 0
  have e63 := u8_and63 _ hz0
  rw [hz] at e63
  rw [Nat.add_zero] at c0
  generalize hq0 : zs.getD 0 0 = z0 at *
  generalize hq1 : zs.getD 1 0 = z1 at *
  have hnI : (8 : Int) < (n : Int) := by omega
  have hnc : (n : Int) ≤ (cap : Int) := by omega
  have h4 : ¬ cap = 4 := by omega
  have h8c : ¬ cap = 8 := by omega
  clear h hcell
  go_enter Try.func26, Try.ntmps26
  go_wp2_with fail
  refine scope_from ?_
  go_wp2_with fail
  refine (readOpts_nil _ _ _).mono ?_
  rintro e W1 ⟨rfl, rfl⟩
  go_wp2_with fail
  refine (number_any (cap - 4) ((((H.out.drop (by omega) 4 (by omega)).take 3 (by omega)).below (below2 w _ _))) (by omega)).mono ?_
  rintro e W2 ⟨rfl, rfl⟩
  have hn3 := num_bd (zs.drop 4) (Eth9.fits_drop9 H.out.fits 4) 3
  have hcv := run_conv_bs (P := Try.prog) (w := (w.alloc (.cells #[.int .u32 0, .int .u32 0, .int .i64 0, .int .i64 0, .bool false, .slice none 0 0, .string ⟨#[]⟩] 25)).alloc (.cells #[.int .u32 0, .int .u32 0, .int .i64 0, .int .i64 (num ((zs.drop 4).take 3)), .bool (bits .and .u8 z1 128 != 0), .slice none 0 0, .string ⟨#[]⟩] 25)) (cap - 8) ((H.out.drop (by omega) 8 (by omega)).below (below2 w _ _)) 26 9 5 Try.underlying26 Try.underlying5 Try.underlying9
  generalize hv : num ((zs.drop 4).take 3) = v at *
  generalize hfs : strOfNums (zs.drop 8) = fs at *
  have HV : Hid _ := hv
  have HFS : Hid _ := hfs
  clear hv hfs
  have hw : IntKind.i64.wrap v = v := by simp [IntKind.wrap, IntKind.bits, IntKind.signed]; omega
  go_wp2
  simp only [Exit.jumpTo]
  exact bodyPost_ret (results_tb (p := 2) (u := 3) rfl _ _ w.heap.size _ rfl (Ca.two_first w _ _) rfl) rfl ⟨by rw [HV.out, HFS.out]; rfl, below2 w _ _⟩
end Go.Proofs.Ytgonckbdkgiddaa
