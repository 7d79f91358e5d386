/- Parts of the proof, in one text. -/
import Derived.Test.YtgonckbdkgiddaaQHF
import Derived.Test.YtgonckbdkgiddaaDI
import Derived.Test.YtgonckbdkgiddaaDH
import Derived.Deep.QuietTactic
namespace Go.Proofs.Ytgonckbdkgiddaa
open Go.RowKit
set_option maxRecDepth 20000
set_option linter.unusedSimpArgs false
def zeroT : Array Value := #[.int .u32 0, .int .u32 0, .int .i64 0, .int .i64 0, .bool false, .slice none 0 0, .string ⟨#[]⟩]
theorem infoTn : (Try.prog.info? 25).map (·.size) = some 7 := by kernel_rfl
theorem results_tb {fn : Func} {p u : Tmp} (h : fn.results = #[.cell p 25, .tmp u]) (tmps : Array Value) (w : World) (g : Nat) (cs : Array Value)
    (hp : tmps.getD p undef = .pointer (some ⟨g, 0, none⟩)) (hg : w.heap[g]? = some (.cells cs 25 (0, 0))) (hs : cs.size = 7) :
    (results fn tmps).run Try.prog w = .ok (.tuple #[.agg cs, tmps.getD u undef]) w := by
  rw [results_cell_tmp h, hp]
  simp only [asAddr, Sem.run_pure, Result.andThen_ok, run_loadVar_row w g 25 25 cs (0, 0) _ hg Try.underlying25 rfl (by rw [hs]; exact infoTn)]
set_option maxHeartbeats 2000000 in
theorem readOpts_nil (a : Option Addr) (cap : Nat) (w : World) :
    Calls Try.prog 61 #[.slice a 0 cap] w fun e w' => e = .returned (.tuple #[.slice none 0 0, .bool true]) ∧ w' = w := by
  go_enter Try.func61, Try.ntmps61
  go_wp2_with fail
  refine scope_loop 0 (fun a' w' => ∃ (u6 u7 u8 u9 u10 u11 u12 u13 u14 u15 u16 u17 u18 u19 u20 u21 u22 u23 u24 u25 u26 u27 u28 u29 u30 u31 u32 u33 u34 u35 u36 u37 u38 : Value), a' = { tmps := #[.slice a 0 cap, undef, .slice none 0 0, .bool false, .slice none 0 0, .int .i64 0, u6, u7, u8, u9, u10, u11, u12, u13, u14, u15, u16, u17, u18, u19, u20, u21, u22, u23, u24, u25, u26, u27, u28, u29, u30, u31, u32, u33, u34, u35, u36, u37, u38], defers := [] } ∧ w' = w) (fun _ _ => 0) rfl ?_ ?_
  · rintro a' w' ⟨u6, u7, u8, u9, u10, u11, u12, u13, u14, u15, u16, u17, u18, u19, u20, u21, u22, u23, u24, u25, u26, u27, u28, u29, u30, u31, u32, u33, u34, u35, u36, u37, u38, rfl, rfl⟩ IH
    clear IH
    go_wp2
    simp only [Exit.jumpTo]
    go_ret2
    exact ⟨rfl, rfl⟩
  · intro HG
    go_wp2_with fail
    go_step3
    rename_i K hK
    exact hK _ _ (HG.out _ _ ⟨_, _, _, _, _, _, _, _, _, _, _, _, _, _, _, _, _, _, _, _, _, _, _, _, _, _, _, _, _, _, _, _, _, rfl, rfl⟩)
theorem Eth9.fits_drop9 {zs : List Int} (h : Fit zs) (k : Nat) : Fit (zs.drop k) := fun i => by
  rw [List.getD_eq_getElem?_getD, List.getElem?_drop, ← List.getD_eq_getElem?_getD]
  exact h (k + i)
theorem u8_and63 (z : Int) (h : 0 ≤ z ∧ z ≤ 255) : bits .and .u8 z 63 = z % 64 := by
  rw [u8_and z 63 (by omega) (by omega) (by omega) (by omega), show (63 : Int).toNat = 2 ^ 6 - 1 from rfl, Nat.and_two_pow_sub_one_eq_mod]
  omega
set_option maxHeartbeats 4000000 in
theorem read_nil (b off n cap : Nat) (zs : List Int) (w : World) (h : BS w (some ⟨b, off, none⟩) n zs) (hcap : n ≤ cap) (h8 : 8 < n) (hz : zs.getD 0 0 % 64 = 0) :
    Calls Try.prog 26 #[.slice (some ⟨b, off, none⟩) n cap] w fun e w' => e = .returned (.tuple #[.agg #[.int .u32 0, .int .u32 0, .int .i64 0, .int .i64 (num ((zs.drop 4).take 3)), .bool (bits .and .u8 (zs.getD 1 0) 128 != 0), .slice none 0 0, .string (strOfNums (zs.drop 8))], .bool true]) ∧ Below w.heap.size w w' := by
  have hl := h.len
  have hr := h.room
  have H : Hid _ := h
  have hcell : ∀ j, j < n → w.cell? ⟨b, off + j, none⟩ = some (.int .u8 (zs.getD j 0)) ∧ b < w.heap.size := fun j hj => by
    rcases h.cells with h0 | ⟨b', off', e, hc⟩
    · omega
    · cases e; exact ⟨hc j (by omega), cell_lt (hc j (by omega))⟩
  obtain ⟨c0, hbl⟩ := hcell 0 (by omega)
  obtain ⟨c1, _⟩ := hcell 1 (by omega)
  have hz0 := h.fits 0
  have e63 := u8_and63 _ hz0
  rw [hz] at e63
  rw [Nat.add_zero] at c0
  generalize hq0 : zs.getD 0 0 = z0 at *
  generalize hq1 : zs.getD 1 0 = z1 at *
  have hnI : (8 : Int) < (n : Int) := by omega
  have hnc : (n : Int) ≤ (cap : Int) := by omega
  have h4 : ¬ cap = 4 := by omega
  have h8c : ¬ cap = 8 := by omega
  clear h hcell
  go_enter Try.func26, Try.ntmps26
  go_wp2_with fail
  refine scope_from ?_
  go_wp2_with fail
  refine (readOpts_nil _ _ _).mono ?_
  rintro e W1 ⟨rfl, rfl⟩
  go_wp2_with fail
  refine (number_any (cap - 4) ((((H.out.drop (by omega) 4 (by omega)).take 3 (by omega)).below (below2 w _ _))) (by omega)).mono ?_
  rintro e W2 ⟨rfl, rfl⟩
  have hn3 := num_bd (zs.drop 4) (Eth9.fits_drop9 H.out.fits 4) 3
  have hcv := run_conv_bs (P := Try.prog) (w := (w.alloc (.cells #[.int .u32 0, .int .u32 0, .int .i64 0, .int .i64 0, .bool false, .slice none 0 0, .string ⟨#[]⟩] 25)).alloc (.cells #[.int .u32 0, .int .u32 0, .int .i64 0, .int .i64 (num ((zs.drop 4).take 3)), .bool (bits .and .u8 z1 128 != 0), .slice none 0 0, .string ⟨#[]⟩] 25)) (cap - 8) ((H.out.drop (by omega) 8 (by omega)).below (below2 w _ _)) 26 9 5 Try.underlying26 Try.underlying5 Try.underlying9
  generalize hv : num ((zs.drop 4).take 3) = v at *
  generalize hfs : strOfNums (zs.drop 8) = fs at *
  have HV : Hid _ := hv
  have HFS : Hid _ := hfs
  clear hv hfs
  have hw : IntKind.i64.wrap v = v := by simp [IntKind.wrap, IntKind.bits, IntKind.signed]; omega
  go_wp2
  simp only [Exit.jumpTo]
  exact bodyPost_ret (results_tb (p := 2) (u := 3) rfl _ _ w.heap.size _ rfl (Ca.two_first w _ _) rfl) rfl ⟨by rw [HV.out, HFS.out]; rfl, below2 w _ _⟩
end Go.Proofs.Ytgonckbdkgiddaa

namespace Go.Proofs.Ytgonckbdkgiddaa
open Go.RowKit
set_option maxRecDepth 20000
set_option linter.unusedSimpArgs false
theorem bequal_same {W : World} {a a' : Option Addr} {n : Nat} {zs : List Int} (c c' : Nat) (h : BS W a n zs) (h' : BS W a' n zs) :
    Calls Try.prog 27 #[.slice a n c, .slice a' n c'] W fun e w' => e = .returned (.bool true) ∧ w' = W := by
  have v1 := run_conv_bs (P := Try.prog) c h 26 9 5 Try.underlying26 Try.underlying5 Try.underlying9
  have v2 := run_conv_bs (P := Try.prog) c' h' 26 9 5 Try.underlying26 Try.underlying5 Try.underlying9
  have hq : ((strOfNums zs).toList == (strOfNums zs).toList) = true := by simp
  clear h h'
  generalize strOfNums zs = s at *
  go_enter Try.func27, Try.ntmps27
  go_wp2
  go_ret
  exact ⟨rfl, rfl⟩
theorem put_l4c (k ty co re sp dp : Int) (ns : Bool) (sq ak fl wi ur : Int) (lo ds : List Int) : Ca.putC #[.int .i64 0, .int .i64 0, .int .i64 0, .int .u32 0, .int .i64 0, .int .i64 0, .bool false, .int .u32 0, .int .u32 0, .int .i64 0, .int .i64 0, .int .i64 0, .string ⟨#[]⟩, .string ⟨#[]⟩] 0 (#[.int .i64 k, .int .i64 ty, .int .i64 co, .int .u32 re, .int .i64 sp, .int .i64 dp, .bool ns, .int .u32 sq, .int .u32 ak, .int .i64 fl, .int .i64 wi, .int .i64 ur, .string (strOfNums lo), .string (strOfNums ds)]).toList = #[.int .i64 k, .int .i64 ty, .int .i64 co, .int .u32 re, .int .i64 sp, .int .i64 dp, .bool ns, .int .u32 sq, .int .u32 ak, .int .i64 fl, .int .i64 wi, .int .i64 ur, .string (strOfNums lo), .string (strOfNums ds)] := by kernel_rfl
theorem cells14g {W : World} {g : Nat} {t : TypeId} {cs : Array Value} (h : W.heap[g]? = some (.cells cs t (0, 0))) (i : Nat) : W.cell? ⟨g, i, none⟩ = cs[i]? := cell_of_row _ _ i _ _ _ h
theorem three_mid (w : World) (X Y Z : Obj) : (((w.alloc X).alloc Y).alloc Z).heap[w.heap.size + 1]? = some Y := by
  have := (heap_alloc_old ((w.alloc X).alloc Y) Z (show w.heap.size + 1 < ((w.alloc X).alloc Y).heap.size by simp)).trans (Ca.two_last w X Y)
  exact this
theorem three_lastg (w : World) (X Y Z : Obj) : (((w.alloc X).alloc Y).alloc Z).heap[w.heap.size + 2]? = some Z := by
  have := heap_alloc_new ((w.alloc X).alloc Y) Z
  simpa using this
set_option maxHeartbeats 8000000 in
theorem decap_go (w : World) (b off n cap : Nat) (zs : List Int) (h : BS w (some ⟨b, off, none⟩) n zs) (hcap : n ≤ cap) (m T : Nat) (_hm : 0 < m) (hmT : m ≤ T) (hTn : T ≤ n) (hcm : ¬ cap = m)
    (tos id fr ttl pr src dst : Int) (io : List Int)
    (HI : Hid (∀ W, BS W (some ⟨b, off, none⟩) n zs → Calls Try.prog 24 #[.slice (some ⟨b, off, none⟩) n cap] W fun e w' => e = .returned (.tuple #[.agg #[.int .i64 tos, .int .i64 id, .int .i64 fr, .int .i64 ttl, .int .i64 pr, .int .u32 src, .int .u32 dst, .string (strOfNums io)], .int .i64 m, .int .i64 T, .int .i64 0]) ∧ Below W.heap.size W w'))
    (k ty co re sp dp : Int) (ns : Bool) (sq ak fl wi ur : Int) (lo ds : List Int) (hdf : Fit ds) (hdl : ds.length ≤ 100000)
    (HL : Hid (∀ W, BS W (some ⟨b, off, none⟩) n zs → Calls Try.prog 25 #[.int .u32 src, .int .u32 dst, .int .i64 pr, .slice (some ⟨b, off + m, none⟩) (T - m) (cap - m)] W fun e w' => e = .returned (.tuple #[.agg #[.int .i64 k, .int .i64 ty, .int .i64 co, .int .u32 re, .int .i64 sp, .int .i64 dp, .bool ns, .int .u32 sq, .int .u32 ak, .int .i64 fl, .int .i64 wi, .int .i64 ur, .string (strOfNums lo), .string (strOfNums ds)], .int .i64 0]) ∧ Below W.heap.size W w'))
    (vni : Int) (oam : Bool) (fs : ByteArray)
    (HR : Hid (∀ W g c, BS W (some ⟨g, 0, none⟩) ds.length ds → ds.length ≤ c → Calls Try.prog 26 #[.slice (some ⟨g, 0, none⟩) ds.length c] W fun e w' => e = .returned (.tuple #[.agg #[.int .u32 0, .int .u32 0, .int .i64 0, .int .i64 vni, .bool oam, .slice none 0 0, .string fs], .bool true]) ∧ Below W.heap.size W w'))
    (HE : Hid (∀ W, Calls Try.prog 7 #[.agg #[.int .u32 src, .int .u32 dst, .int .i64 sp, .int .i64 vni, .bool oam, .slice none 0 0, .string fs]] W fun e w' => ∃ a' cap', e = .returned (.tuple #[.slice a' n cap', .int .i64 0]) ∧ BS w' a' n zs ∧ Below W.heap.size W w')) :
    Calls Try.prog 10 #[.slice (some ⟨b, off, none⟩) n cap] w fun e w' => e = .returned (.tuple #[.agg #[.int .u32 src, .int .u32 dst, .int .i64 sp, .int .i64 vni, .bool oam, .slice none 0 0, .string fs], .int .i64 0]) ∧ Below w.heap.size w w' := by
  have H : Hid (BS w (some ⟨b, off, none⟩) n zs) := h
  have i1 : (m : Int) ≤ (T : Int) := by omega
  have i2 : (T : Int) ≤ (n : Int) := by omega
  have i3 : (n : Int) ≤ (cap : Int) := by omega
  have i4 : (T : Int) ≤ (cap : Int) := by omega
  have i5 : (m : Int) ≤ (cap : Int) := by omega
  have B0 : Hid (Below w.heap.size w (((w.alloc (.cells #[.int .u32 0, .int .u32 0, .int .i64 0, .int .i64 0, .bool false, .slice none 0 0, .string ⟨#[]⟩] 25)).alloc (.cells #[.int .u32 0, .int .u32 0, .int .i64 0, .int .i64 0, .bool false, .slice none 0 0, .string ⟨#[]⟩] 25)).alloc (.cells #[.int .i64 0, .int .i64 0, .int .i64 0, .int .u32 0, .int .i64 0, .int .i64 0, .bool false, .int .u32 0, .int .u32 0, .int .i64 0, .int .i64 0, .int .i64 0, .string ⟨#[]⟩, .string ⟨#[]⟩] 48))) := Ca.below3 w _ _ _
  have P0 : Hid ((((w.alloc (.cells #[.int .u32 0, .int .u32 0, .int .i64 0, .int .i64 0, .bool false, .slice none 0 0, .string ⟨#[]⟩] 25)).alloc (.cells #[.int .u32 0, .int .u32 0, .int .i64 0, .int .i64 0, .bool false, .slice none 0 0, .string ⟨#[]⟩] 25)).alloc (.cells #[.int .i64 0, .int .i64 0, .int .i64 0, .int .u32 0, .int .i64 0, .int .i64 0, .bool false, .int .u32 0, .int .u32 0, .int .i64 0, .int .i64 0, .int .i64 0, .string ⟨#[]⟩, .string ⟨#[]⟩] 48)).heap[w.heap.size]? = some (.cells #[.int .u32 0, .int .u32 0, .int .i64 0, .int .i64 0, .bool false, .slice none 0 0, .string ⟨#[]⟩] 25 (0, 0))) := Ca.three_first w _ _ _
  have Q0 : Hid ((((w.alloc (.cells #[.int .u32 0, .int .u32 0, .int .i64 0, .int .i64 0, .bool false, .slice none 0 0, .string ⟨#[]⟩] 25)).alloc (.cells #[.int .u32 0, .int .u32 0, .int .i64 0, .int .i64 0, .bool false, .slice none 0 0, .string ⟨#[]⟩] 25)).alloc (.cells #[.int .i64 0, .int .i64 0, .int .i64 0, .int .u32 0, .int .i64 0, .int .i64 0, .bool false, .int .u32 0, .int .u32 0, .int .i64 0, .int .i64 0, .int .i64 0, .string ⟨#[]⟩, .string ⟨#[]⟩] 48)).heap[w.heap.size + 1]? = some (.cells #[.int .u32 0, .int .u32 0, .int .i64 0, .int .i64 0, .bool false, .slice none 0 0, .string ⟨#[]⟩] 25 (0, 0))) := three_mid w _ _ _
  have R0 : Hid ((((w.alloc (.cells #[.int .u32 0, .int .u32 0, .int .i64 0, .int .i64 0, .bool false, .slice none 0 0, .string ⟨#[]⟩] 25)).alloc (.cells #[.int .u32 0, .int .u32 0, .int .i64 0, .int .i64 0, .bool false, .slice none 0 0, .string ⟨#[]⟩] 25)).alloc (.cells #[.int .i64 0, .int .i64 0, .int .i64 0, .int .u32 0, .int .i64 0, .int .i64 0, .bool false, .int .u32 0, .int .u32 0, .int .i64 0, .int .i64 0, .int .i64 0, .string ⟨#[]⟩, .string ⟨#[]⟩] 48)).heap[w.heap.size + 2]? = some (.cells #[.int .i64 0, .int .i64 0, .int .i64 0, .int .u32 0, .int .i64 0, .int .i64 0, .bool false, .int .u32 0, .int .u32 0, .int .i64 0, .int .i64 0, .int .i64 0, .string ⟨#[]⟩, .string ⟨#[]⟩] 48 (0, 0))) := three_lastg w _ _ _
  clear h
  go_enter Try.func10, Try.ntmps10
  go_wp2_with fail
  refine scope_from ?_
  go_wp2_with fail
  refine (HI.out _ (H.out.below B0.out)).mono ?_
  rintro e W1 ⟨rfl, hb⟩
  have B1 : Hid (Below w.heap.size w W1) := B0.out.trans (hb.mono B0.out.size)
  have P1 : Hid (W1.heap[w.heap.size]? = some (.cells #[.int .u32 0, .int .u32 0, .int .i64 0, .int .i64 0, .bool false, .slice none 0 0, .string ⟨#[]⟩] 25 (0, 0))) := (hb.block _ (Ca.lt_of_heap P0.out)).trans P0.out
  have Q1 : Hid (W1.heap[w.heap.size + 1]? = some (.cells #[.int .u32 0, .int .u32 0, .int .i64 0, .int .i64 0, .bool false, .slice none 0 0, .string ⟨#[]⟩] 25 (0, 0))) := (hb.block _ (Ca.lt_of_heap Q0.out)).trans Q0.out
  have R1 : Hid (W1.heap[w.heap.size + 2]? = some (.cells #[.int .i64 0, .int .i64 0, .int .i64 0, .int .u32 0, .int .i64 0, .int .i64 0, .bool false, .int .u32 0, .int .u32 0, .int .i64 0, .int .i64 0, .int .i64 0, .string ⟨#[]⟩, .string ⟨#[]⟩] 48 (0, 0))) := (hb.block _ (Ca.lt_of_heap R0.out)).trans R0.out
  clear hb HI B0 P0 Q0 R0
  go_wp2_with fail
  have hbA := below1 W1 (.cells #[.int .i64 tos, .int .i64 id, .int .i64 fr, .int .i64 ttl, .int .i64 pr, .int .u32 src, .int .u32 dst, .string (strOfNums io)] 51)
  have B2 : Hid (Below w.heap.size w (W1.alloc (.cells #[.int .i64 tos, .int .i64 id, .int .i64 fr, .int .i64 ttl, .int .i64 pr, .int .u32 src, .int .u32 dst, .string (strOfNums io)] 51))) := B1.out.trans (hbA.mono B1.out.size)
  have P2 : Hid ((W1.alloc (.cells #[.int .i64 tos, .int .i64 id, .int .i64 fr, .int .i64 ttl, .int .i64 pr, .int .u32 src, .int .u32 dst, .string (strOfNums io)] 51)).heap[w.heap.size]? = some (.cells #[.int .u32 0, .int .u32 0, .int .i64 0, .int .i64 0, .bool false, .slice none 0 0, .string ⟨#[]⟩] 25 (0, 0))) := (hbA.block _ (Ca.lt_of_heap P1.out)).trans P1.out
  have Q2 : Hid ((W1.alloc (.cells #[.int .i64 tos, .int .i64 id, .int .i64 fr, .int .i64 ttl, .int .i64 pr, .int .u32 src, .int .u32 dst, .string (strOfNums io)] 51)).heap[w.heap.size + 1]? = some (.cells #[.int .u32 0, .int .u32 0, .int .i64 0, .int .i64 0, .bool false, .slice none 0 0, .string ⟨#[]⟩] 25 (0, 0))) := (hbA.block _ (Ca.lt_of_heap Q1.out)).trans Q1.out
  have R2 : Hid ((W1.alloc (.cells #[.int .i64 tos, .int .i64 id, .int .i64 fr, .int .i64 ttl, .int .i64 pr, .int .u32 src, .int .u32 dst, .string (strOfNums io)] 51)).heap[w.heap.size + 2]? = some (.cells #[.int .i64 0, .int .i64 0, .int .i64 0, .int .u32 0, .int .i64 0, .int .i64 0, .bool false, .int .u32 0, .int .u32 0, .int .i64 0, .int .i64 0, .int .i64 0, .string ⟨#[]⟩, .string ⟨#[]⟩] 48 (0, 0))) := (hbA.block _ (Ca.lt_of_heap R1.out)).trans R1.out
  have I2 : Hid ((W1.alloc (.cells #[.int .i64 tos, .int .i64 id, .int .i64 fr, .int .i64 ttl, .int .i64 pr, .int .u32 src, .int .u32 dst, .string (strOfNums io)] 51)).heap[W1.heap.size]? = some (.cells #[.int .i64 tos, .int .i64 id, .int .i64 fr, .int .i64 ttl, .int .i64 pr, .int .u32 src, .int .u32 dst, .string (strOfNums io)] 51 (0, 0))) := heap_alloc_new W1 _
  have N2 : Hid (w.heap.size + 2 < W1.heap.size) := Ca.lt_of_heap R1.out
  obtain ⟨W2, hW⟩ : ∃ V, W1.alloc (.cells #[.int .i64 tos, .int .i64 id, .int .i64 fr, .int .i64 ttl, .int .i64 pr, .int .u32 src, .int .u32 dst, .string (strOfNums io)] 51) = V := ⟨_, rfl⟩
  obtain ⟨g8, hg⟩ : ∃ V, W1.heap.size = V := ⟨_, rfl⟩
  rw [hW] at B2 P2 Q2 R2 I2 ⊢
  rw [hg] at I2 N2 ⊢
  clear hW hg hbA B1 P1 Q1 R1
  have KC : Hid (∀ W, Below W2.heap.size W2 W → W.cell? ⟨g8, 5, none⟩ = some (.int .u32 src) ∧ W.cell? ⟨g8, 6, none⟩ = some (.int .u32 dst) ∧ W.cell? ⟨g8, 4, none⟩ = some (.int .i64 pr)) := fun W hb => by
    have e := (hb.block _ (Ca.lt_of_heap I2.out)).trans I2.out
    exact ⟨cells14g e 5, cells14g e 6, cells14g e 4⟩
  refine wp_region_held_drew (S := (fun W => W.cell? ⟨g8, 5, none⟩ = some (.int .u32 src) ∧ W.cell? ⟨g8, 6, none⟩ = some (.int .u32 dst) ∧ W.cell? ⟨g8, 4, none⟩ = some (.int .i64 pr))) (by kernel_rfl) ?_ (fun hHeld => ?_)
  · exact KC.out _ (Below.refl _ _).drew
  refine wpAnyH_take (i := 0) (v := ?_) rfl (by kernel_rfl) (by kernel_rfl) (by kernel_rfl) (fun _ _ _ h => h) (Or.inl ⟨by rfl, ?_⟩) (by assumption) ?_
  rotate_left
  · (intro w hSw; (try dsimp only at hSw); go_simp; try with_reducible rfl)
  try simp only [List.getElem_toArray, List.getElem_cons_zero, List.getElem_cons_succ, Act.put, List.setIfInBounds_toArray, List.set_cons_zero, List.set_cons_succ]
  refine wpAnyH_take (i := 1) (v := ?_) rfl (by kernel_rfl) (by kernel_rfl) (by kernel_rfl) (fun _ _ _ h => h) (Or.inl ⟨by rfl, ?_⟩) (by assumption) ?_
  rotate_left
  · (intro w hSw; (try dsimp only at hSw); go_simp; try with_reducible rfl)
  try simp only [List.getElem_toArray, List.getElem_cons_zero, List.getElem_cons_succ, Act.put, List.setIfInBounds_toArray, List.set_cons_zero, List.set_cons_succ]
  refine wpAnyH_take (i := 2) (v := ?_) rfl (by kernel_rfl) (by kernel_rfl) (by kernel_rfl) (fun _ _ _ h => h) (Or.inl ⟨by rfl, ?_⟩) (by assumption) ?_
  rotate_left
  · (intro w hSw; (try dsimp only at hSw); go_simp; try with_reducible rfl)
  try simp only [List.getElem_toArray, List.getElem_cons_zero, List.getElem_cons_succ, Act.put, List.setIfInBounds_toArray, List.set_cons_zero, List.set_cons_succ]
  refine wpAnyH_take (i := 3) (v := ?_) rfl (by kernel_rfl) (by kernel_rfl) (by kernel_rfl) (fun _ _ _ h => h) (Or.inl ⟨by rfl, ?_⟩) (by assumption) ?_
  rotate_left
  · (intro w hSw; (try dsimp only at hSw); go_simp; try with_reducible rfl)
  try simp only [List.getElem_toArray, List.getElem_cons_zero, List.getElem_cons_succ, Act.put, List.setIfInBounds_toArray, List.set_cons_zero, List.set_cons_succ]
  refine wpAnyH_take (i := 4) (v := ?_) rfl (by kernel_rfl) (by kernel_rfl) (by kernel_rfl) (fun _ _ _ h => h) (Or.inl ⟨by rfl, ?_⟩) (by assumption) ?_
  rotate_left
  · (intro w hSw; (try dsimp only at hSw); go_simp; try with_reducible rfl)
  try simp only [List.getElem_toArray, List.getElem_cons_zero, List.getElem_cons_succ, Act.put, List.setIfInBounds_toArray, List.set_cons_zero, List.set_cons_succ]
  refine wpAnyH_take (i := 5) (v := ?_) rfl (by kernel_rfl) (by kernel_rfl) (by kernel_rfl) (fun _ _ _ h => h) (Or.inl ⟨by rfl, ?_⟩) (by assumption) ?_
  rotate_left
  · (intro w hSw; (try dsimp only at hSw); go_simp; try with_reducible rfl)
  try simp only [List.getElem_toArray, List.getElem_cons_zero, List.getElem_cons_succ, Act.put, List.setIfInBounds_toArray, List.set_cons_zero, List.set_cons_succ]
  refine wpAnyH_take (i := 6) (v := ?_) rfl (by kernel_rfl) (by kernel_rfl) (by kernel_rfl) (fun _ _ _ h => h) (Or.inl ⟨by rfl, ?_⟩) (by assumption) ?_
  rotate_left
  · (intro w hSw; (try dsimp only at hSw); go_simp; try with_reducible rfl)
  try simp only [List.getElem_toArray, List.getElem_cons_zero, List.getElem_cons_succ, Act.put, List.setIfInBounds_toArray, List.set_cons_zero, List.set_cons_succ]
  refine wpAnyH_take (i := 7) (v := ?_) rfl (by kernel_rfl) (by kernel_rfl) (by kernel_rfl) (fun _ _ _ h => h) (Or.inl ⟨by rfl, ?_⟩) (by assumption) ?_
  rotate_left
  · (intro w hSw; (try dsimp only at hSw); go_simp; try with_reducible rfl)
  try simp only [List.getElem_toArray, List.getElem_cons_zero, List.getElem_cons_succ, Act.put, List.setIfInBounds_toArray, List.set_cons_zero, List.set_cons_succ]
  refine wpAnyH_take (i := 8) (v := ?_) rfl (by kernel_rfl) (by kernel_rfl) (by kernel_rfl) (fun _ _ _ h => h) (Or.inl ⟨by rfl, ?_⟩) (by assumption) ?_
  rotate_left
  · (intro w hSw; (try dsimp only at hSw); go_simp; try with_reducible rfl)
  try simp only [List.getElem_toArray, List.getElem_cons_zero, List.getElem_cons_succ, Act.put, List.setIfInBounds_toArray, List.set_cons_zero, List.set_cons_succ]
  refine wpAnyH_take (i := 9) (v := ?_) rfl (by kernel_rfl) (by kernel_rfl) (by kernel_rfl) (fun _ _ _ h => h) (Or.inl ⟨by rfl, ?_⟩) (by assumption) ?_
  rotate_left
  · (intro w hSw; (try dsimp only at hSw); go_simp; try with_reducible rfl)
  try simp only [List.getElem_toArray, List.getElem_cons_zero, List.getElem_cons_succ, Act.put, List.setIfInBounds_toArray, List.set_cons_zero, List.set_cons_succ]
  refine wpAnyH_ready (rs := [10]) (by kernel_rfl) (by simp) ?_
  refine AllReadyH.cons (o := _) rfl (fun K hK => ?_) AllReadyH.nil
  go_simp
  refine (HL.out _ (H.out.below B2.out.drew)).mono ?_
  rintro e W3 ⟨rfl, hb⟩
  have hb' : Below W2.heap.size W2 W3 := (Below.refl _ _).drew.trans hb
  go_wp2_with fail
  refine hK.out _ _ (KC.out _ hb') (fun hHeld2 => ?_)
  clear hK K hHeld hb
  try simp only [List.getElem_toArray, List.getElem_cons_zero, List.getElem_cons_succ, Act.put, List.setIfInBounds_toArray, List.set_cons_zero, List.set_cons_succ]
  refine wpAnyH_take (i := 11) (v := ?_) rfl (by kernel_rfl) (by kernel_rfl) (by kernel_rfl) (fun _ _ _ h => h) (Or.inl ⟨by rfl, ?_⟩) (by assumption) ?_
  rotate_left
  · (intro w hSw; (try dsimp only at hSw); go_simp; try with_reducible rfl)
  try simp only [List.getElem_toArray, List.getElem_cons_zero, List.getElem_cons_succ, Act.put, List.setIfInBounds_toArray, List.set_cons_zero, List.set_cons_succ]
  refine wpAnyH_take (i := 12) (v := ?_) rfl (by kernel_rfl) (by kernel_rfl) (by kernel_rfl) (fun _ _ _ h => h) (Or.inl ⟨by rfl, ?_⟩) (by assumption) ?_
  rotate_left
  · (intro w hSw; (try dsimp only at hSw); go_simp; try with_reducible rfl)
  try simp only [List.getElem_toArray, List.getElem_cons_zero, List.getElem_cons_succ, Act.put, List.setIfInBounds_toArray, List.set_cons_zero, List.set_cons_succ]
  refine wpAnyH_take (i := 13) (v := ?_) rfl (by kernel_rfl) (by kernel_rfl) (by kernel_rfl) (fun _ _ _ h => h) (Or.inl ⟨by rfl, ?_⟩) (by assumption) ?_
  rotate_left
  · (intro w hSw; (try dsimp only at hSw); go_simp; try with_reducible rfl)
  try simp only [List.getElem_toArray, List.getElem_cons_zero, List.getElem_cons_succ, Act.put, List.setIfInBounds_toArray, List.set_cons_zero, List.set_cons_succ]
  refine wpAnyH_ready (rs := [14]) (by kernel_rfl) (by simp) ?_
  refine AllReadyH.cons (o := _) rfl (fun K hK => ?_) AllReadyH.nil
  have hr5 : W3.heap[w.heap.size + 2]? = some (.cells #[.int .i64 0, .int .i64 0, .int .i64 0, .int .u32 0, .int .i64 0, .int .i64 0, .bool false, .int .u32 0, .int .u32 0, .int .i64 0, .int .i64 0, .int .i64 0, .string ⟨#[]⟩, .string ⟨#[]⟩] 48 (0, 0)) := (hb'.block _ (Ca.lt_of_heap R2.out)).trans R2.out
  refine Ca.step_store_at rfl 48 _ _ rfl (w.heap.size + 2) 0 #[.int .i64 0, .int .i64 0, .int .i64 0, .int .u32 0, .int .i64 0, .int .i64 0, .bool false, .int .u32 0, .int .u32 0, .int .i64 0, .int .i64 0, .int .i64 0, .string ⟨#[]⟩, .string ⟨#[]⟩] #[.int .i64 k, .int .i64 ty, .int .i64 co, .int .u32 re, .int .i64 sp, .int .i64 dp, .bool ns, .int .u32 sq, .int .u32 ak, .int .i64 fl, .int .i64 wi, .int .i64 ur, .string (strOfNums lo), .string (strOfNums ds)] 48 rfl rfl hr5 (by kernel_rfl) (Nat.le_of_ble_eq_true (by kernel_rfl)) (by kernel_rfl) ?_
  intro W4 y1 y2 y3 y4
  have R4 : Hid (W4.heap[w.heap.size + 2]? = some (.cells #[.int .i64 k, .int .i64 ty, .int .i64 co, .int .u32 re, .int .i64 sp, .int .i64 dp, .bool ns, .int .u32 sq, .int .u32 ak, .int .i64 fl, .int .i64 wi, .int .i64 ur, .string (strOfNums lo), .string (strOfNums ds)] 48 (0, 0))) := by show _ = _; rw [← put_l4c k ty co re sp dp ns sq ak fl wi ur lo ds]; exact y1
  have P4 : Hid (W4.heap[w.heap.size]? = some (.cells #[.int .u32 0, .int .u32 0, .int .i64 0, .int .i64 0, .bool false, .slice none 0 0, .string ⟨#[]⟩] 25 (0, 0))) := (y2 _ (by omega)).trans ((hb'.block _ (Ca.lt_of_heap P2.out)).trans P2.out)
  have Q4 : Hid (W4.heap[w.heap.size + 1]? = some (.cells #[.int .u32 0, .int .u32 0, .int .i64 0, .int .i64 0, .bool false, .slice none 0 0, .string ⟨#[]⟩] 25 (0, 0))) := (y2 _ (by omega)).trans ((hb'.block _ (Ca.lt_of_heap Q2.out)).trans Q2.out)
  have I4 : Hid (W4.heap[g8]? = some (.cells #[.int .i64 tos, .int .i64 id, .int .i64 fr, .int .i64 ttl, .int .i64 pr, .int .u32 src, .int .u32 dst, .string (strOfNums io)] 51 (0, 0))) := (y2 _ (by have := N2.out; omega)).trans ((hb'.block _ (Ca.lt_of_heap I2.out)).trans I2.out)
  have B4 : Hid (Below w.heap.size w W4) := (B2.out.trans (hb'.mono B2.out.size)).trans (y4.mono (by omega))
  refine hK.out _ _ ⟨cells14g I4.out 5, cells14g I4.out 6, cells14g I4.out 4⟩ (fun hHeld3 => ?_)
  clear hK K hHeld2 hb' hr5 y1 y2 y3 y4 B2 P2 Q2 R2 I2 KC
  try simp only [List.getElem_toArray, List.getElem_cons_zero, List.getElem_cons_succ, Act.put, List.setIfInBounds_toArray, List.set_cons_zero, List.set_cons_succ]
  refine wpAnyH_take (i := 15) (v := ?_) rfl (by kernel_rfl) (by kernel_rfl) (by kernel_rfl) (fun _ _ _ h => h) (Or.inl ⟨by rfl, ?_⟩) (by assumption) ?_
  rotate_left
  · (intro w hSw; (try dsimp only at hSw); go_simp; try with_reducible rfl)
  try simp only [List.getElem_toArray, List.getElem_cons_zero, List.getElem_cons_succ, Act.put, List.setIfInBounds_toArray, List.set_cons_zero, List.set_cons_succ]
  clear hHeld3
  refine wpAnyH_done (by kernel_rfl) ?_ _
  have c13 := cells14g R4.out 13
  simp only [List.getElem?_toArray, List.getElem?_cons_succ, List.getElem?_cons_zero] at c13
  obtain ⟨cp, W5, hrun, hB5, hbel, hcp, _⟩ := conv_text W4 ds hdf (by omega)
  have B5 : Hid (Below w.heap.size w W5) := B4.out.trans (hbel.mono B4.out.size)
  have R5 : Hid (W5.heap[w.heap.size + 2]? = some (.cells #[.int .i64 k, .int .i64 ty, .int .i64 co, .int .u32 re, .int .i64 sp, .int .i64 dp, .bool ns, .int .u32 sq, .int .u32 ak, .int .i64 fl, .int .i64 wi, .int .i64 ur, .string (strOfNums lo), .string (strOfNums ds)] 48 (0, 0))) := (hbel.block _ (Ca.lt_of_heap R4.out)).trans R4.out
  have P5 : Hid (W5.heap[w.heap.size]? = some (.cells #[.int .u32 0, .int .u32 0, .int .i64 0, .int .i64 0, .bool false, .slice none 0 0, .string ⟨#[]⟩] 25 (0, 0))) := (hbel.block _ (Ca.lt_of_heap P4.out)).trans P4.out
  have Q5 : Hid (W5.heap[w.heap.size + 1]? = some (.cells #[.int .u32 0, .int .u32 0, .int .i64 0, .int .i64 0, .bool false, .slice none 0 0, .string ⟨#[]⟩] 25 (0, 0))) := (hbel.block _ (Ca.lt_of_heap Q4.out)).trans Q4.out
  have I5 : Hid (W5.heap[g8]? = some (.cells #[.int .i64 tos, .int .i64 id, .int .i64 fr, .int .i64 ttl, .int .i64 pr, .int .u32 src, .int .u32 dst, .string (strOfNums io)] 51 (0, 0))) := (hbel.block _ (Ca.lt_of_heap I4.out)).trans I4.out
  have S5 : Hid _ := hB5
  have HCP : Hid _ := hcp
  clear hB5 hbel hcp
  go_wp2_with fail
  refine (HR.out _ _ _ S5.out HCP.out).mono ?_
  rintro e W6 ⟨rfl, hb⟩
  have B6 : Hid (Below w.heap.size w W6) := B5.out.trans (hb.mono B5.out.size)
  have R6 : Hid (W6.heap[w.heap.size + 2]? = some (.cells #[.int .i64 k, .int .i64 ty, .int .i64 co, .int .u32 re, .int .i64 sp, .int .i64 dp, .bool ns, .int .u32 sq, .int .u32 ak, .int .i64 fl, .int .i64 wi, .int .i64 ur, .string (strOfNums lo), .string (strOfNums ds)] 48 (0, 0))) := (hb.block _ (Ca.lt_of_heap R5.out)).trans R5.out
  have P6 : Hid (W6.heap[w.heap.size]? = some (.cells #[.int .u32 0, .int .u32 0, .int .i64 0, .int .i64 0, .bool false, .slice none 0 0, .string ⟨#[]⟩] 25 (0, 0))) := (hb.block _ (Ca.lt_of_heap P5.out)).trans P5.out
  have Q6 : Hid (W6.heap[w.heap.size + 1]? = some (.cells #[.int .u32 0, .int .u32 0, .int .i64 0, .int .i64 0, .bool false, .slice none 0 0, .string ⟨#[]⟩] 25 (0, 0))) := (hb.block _ (Ca.lt_of_heap Q5.out)).trans Q5.out
  have I6 : Hid (W6.heap[g8]? = some (.cells #[.int .i64 tos, .int .i64 id, .int .i64 fr, .int .i64 ttl, .int .i64 pr, .int .u32 src, .int .u32 dst, .string (strOfNums io)] 51 (0, 0))) := (hb.block _ (Ca.lt_of_heap I5.out)).trans I5.out
  clear hb hrun c13 B4 R4 P4 Q4 I4 B5 R5 P5 Q5 I5 S5 HCP HR
  go_wp2_with (first
    | refine Ca.wpList_store_row rfl 25 _ _ rfl (w.heap.size + 1) #[.int .u32 0, .int .u32 0, .int .i64 0, .int .i64 0, .bool false, .slice none 0 0, .string ⟨#[]⟩] #[.int .u32 0, .int .u32 0, .int .i64 0, .int .i64 vni, .bool oam, .slice none 0 0, .string fs] 25 rfl rfl Q6.out (by kernel_rfl) rfl (by kernel_rfl) ?_
    | fail)
  intro W7 y1 y2 y3 y4
  have B7 : Hid (Below w.heap.size w W7) := B6.out.trans (y4.mono (by omega))
  have R7' : Hid (W7.heap[w.heap.size + 2]? = some (.cells #[.int .i64 k, .int .i64 ty, .int .i64 co, .int .u32 re, .int .i64 sp, .int .i64 dp, .bool ns, .int .u32 sq, .int .u32 ak, .int .i64 fl, .int .i64 wi, .int .i64 ur, .string (strOfNums lo), .string (strOfNums ds)] 48 (0, 0))) := (y2 _ (by omega)).trans R6.out
  have P7 : Hid (W7.heap[w.heap.size]? = some (.cells #[.int .u32 0, .int .u32 0, .int .i64 0, .int .i64 0, .bool false, .slice none 0 0, .string ⟨#[]⟩] 25 (0, 0))) := (y2 _ (by omega)).trans P6.out
  have Q7 : Hid (W7.heap[w.heap.size + 1]? = some (.cells #[.int .u32 0, .int .u32 0, .int .i64 0, .int .i64 vni, .bool oam, .slice none 0 0, .string fs] 25 (0, 0))) := y1
  have I7 : Hid (W7.heap[g8]? = some (.cells #[.int .i64 tos, .int .i64 id, .int .i64 fr, .int .i64 ttl, .int .i64 pr, .int .u32 src, .int .u32 dst, .string (strOfNums io)] 51 (0, 0))) := (y2 _ (by have := N2.out; omega)).trans I6.out
  clear y1 y2 y3 y4 B6 R6 P6 Q6 I6
  go_wp2_with fail
  have hA5 := cells14g I7.out 5
  have hA6 := cells14g I7.out 6
  have hA4 := cells14g R7'.out 4
  have hB0 := cells14g Q7.out 0
  have hB1 := cells14g Q7.out 1
  have hB2 := cells14g Q7.out 2
  simp only [List.getElem?_toArray, List.getElem?_cons_succ, List.getElem?_cons_zero] at hA5 hA6 hA4 hB0 hB1 hB2
  have hF0 := frozen_of_row W7 _ 0 _ _ Q7.out
  have hF1 := frozen_of_row W7 _ 1 _ _ Q7.out
  have hF2 := frozen_of_row W7 _ 2 _ _ Q7.out
  have hn1 : ¬ w.heap.size + 1 = g8 := by have := N2.out; omega
  have hn2 : ¬ g8 = w.heap.size + 1 := by have := N2.out; omega
  go_region
  clear hA5 hA6 hA4 hB0 hB1 hB2 hF0 hF1 hF2
  have Q8 : Hid ((((W7.setCell ⟨w.heap.size + 1, 0, none⟩ (.int .u32 src)).setCell ⟨w.heap.size + 1, 1, none⟩ (.int .u32 dst)).setCell ⟨w.heap.size + 1, 2, none⟩ (.int .i64 sp)).drew.heap[w.heap.size + 1]? = some (.cells #[.int .u32 src, .int .u32 dst, .int .i64 sp, .int .i64 vni, .bool oam, .slice none 0 0, .string fs] 25 (0, 0))) := Ca.row_setCell (Ca.row_setCell (Ca.row_setCell Q7.out 0 (.int .u32 src)) 1 (.int .u32 dst)) 2 (.int .i64 sp)
  have P8 : Hid ((((W7.setCell ⟨w.heap.size + 1, 0, none⟩ (.int .u32 src)).setCell ⟨w.heap.size + 1, 1, none⟩ (.int .u32 dst)).setCell ⟨w.heap.size + 1, 2, none⟩ (.int .i64 sp)).drew.heap[w.heap.size]? = some (.cells #[.int .u32 0, .int .u32 0, .int .i64 0, .int .i64 0, .bool false, .slice none 0 0, .string ⟨#[]⟩] 25 (0, 0))) := (Below.heap_setCell _ _ _ _ (show w.heap.size ≠ w.heap.size + 1 by omega)).trans ((Below.heap_setCell _ _ _ _ (show w.heap.size ≠ w.heap.size + 1 by omega)).trans ((Below.heap_setCell _ _ _ _ (show w.heap.size ≠ w.heap.size + 1 by omega)).trans P7.out))
  have B8 : Hid (Below w.heap.size w (((W7.setCell ⟨w.heap.size + 1, 0, none⟩ (.int .u32 src)).setCell ⟨w.heap.size + 1, 1, none⟩ (.int .u32 dst)).setCell ⟨w.heap.size + 1, 2, none⟩ (.int .i64 sp)).drew) := (((B7.out.setCell (show w.heap.size ≤ w.heap.size + 1 by omega) _).setCell (show w.heap.size ≤ w.heap.size + 1 by omega) _).setCell (show w.heap.size ≤ w.heap.size + 1 by omega) _).drew
  obtain ⟨W8, hW⟩ : ∃ V, (((W7.setCell ⟨w.heap.size + 1, 0, none⟩ (.int .u32 src)).setCell ⟨w.heap.size + 1, 1, none⟩ (.int .u32 dst)).setCell ⟨w.heap.size + 1, 2, none⟩ (.int .i64 sp)).drew = V := ⟨_, rfl⟩
  rw [hW] at Q8 P8 B8 ⊢
  clear hW B7 R7' P7 Q7 I7
  obtain ⟨x0, x1, x2, x3, x4, x5, x6⟩ := seven Q8.out
  go_wp2_with fail
  refine (HE.out _).mono ?_
  rintro e W9 ⟨a', cap', rfl, hB9, hb⟩
  have B9 : Hid (Below w.heap.size w W9) := B8.out.trans (hb.mono B8.out.size)
  have P9 : Hid (W9.heap[w.heap.size]? = some (.cells #[.int .u32 0, .int .u32 0, .int .i64 0, .int .i64 0, .bool false, .slice none 0 0, .string ⟨#[]⟩] 25 (0, 0))) := (hb.block _ (Ca.lt_of_heap P8.out)).trans P8.out
  have Q9 : Hid (W9.heap[w.heap.size + 1]? = some (.cells #[.int .u32 src, .int .u32 dst, .int .i64 sp, .int .i64 vni, .bool oam, .slice none 0 0, .string fs] 25 (0, 0))) := (hb.block _ (Ca.lt_of_heap Q8.out)).trans Q8.out
  have S9 : Hid _ := hB9
  clear hb hB9 HE x0 x1 x2 x3 x4 x5 x6 B8 P8 Q8
  go_wp2_with fail
  refine (bequal_same _ _ S9.out (H.out.below B9.out)).mono ?_
  rintro e W10 ⟨rfl, rfl⟩
  obtain ⟨x0, x1, x2, x3, x4, x5, x6⟩ := seven Q9.out
  go_wp2_with (first
    | refine Ca.wpList_store_row rfl 25 _ _ rfl w.heap.size #[.int .u32 0, .int .u32 0, .int .i64 0, .int .i64 0, .bool false, .slice none 0 0, .string ⟨#[]⟩] #[.int .u32 src, .int .u32 dst, .int .i64 sp, .int .i64 vni, .bool oam, .slice none 0 0, .string fs] 25 rfl rfl P9.out (by kernel_rfl) rfl (by kernel_rfl) ?_
    | fail)
  intro W11 y1 y2 y3 y4
  go_wp2
  simp only [Exit.jumpTo]
  exact bodyPost_ret (results_tb (p := 2) (u := 3) rfl _ _ w.heap.size _ rfl y1 rfl) rfl ⟨rfl, B9.out.trans (y4.mono (Nat.le_refl _))⟩
end Go.Proofs.Ytgonckbdkgiddaa

namespace Go.Proofs.Ytgonckbdkgiddaa
open Go.RowKit
set_option maxRecDepth 20000
set_option linter.unusedSimpArgs false
set_option maxHeartbeats 4000000 in
theorem same_any (src dst sp vni : Int) (oam : Bool) (s : ByteArray) (a1 a2 : Option Addr) (n c1 c2 : Nat) (os : List Opt) (w : World) (h1 : OS w a1 n os) (h2 : OS w a2 n os) :
    Calls Try.prog 11 #[.agg #[.int .u32 src, .int .u32 dst, .int .i64 sp, .int .i64 vni, .bool oam, .slice a1 n c1, .string s], .agg #[.int .u32 src, .int .u32 dst, .int .i64 sp, .int .i64 vni, .bool oam, .slice a2 n c2, .string s]] w fun e w' => e = .returned (.bool true) ∧ Below w.heap.size w w' := by
  have H1 : Hid _ := h1
  have H2 : Hid _ := h2
  have hr := h1.room
  have e1 : (src != src) = false := by simp
  have e2 : (dst != dst) = false := by simp
  have e3 : (sp != sp) = false := by simp
  have e4 : (vni != vni) = false := by simp
  have e5 : (oam != oam) = false := by simp
  have e6 : (s.toList == s.toList) = true := by simp
  have B0 : Hid (Below w.heap.size w ((w.alloc (.cells #[.int .u32 src, .int .u32 dst, .int .i64 sp, .int .i64 vni, .bool oam, .slice a1 n c1, .string s] 25)).alloc (.cells #[.int .u32 src, .int .u32 dst, .int .i64 sp, .int .i64 vni, .bool oam, .slice a2 n c2, .string s] 25))) := below2 w _ _
  clear h1 h2
  go_enter Try.func11, Try.ntmps11
  go_wp2_with fail
  go_loopw [5] (fun i wr => ∃ k nq : Nat, k ≤ n ∧ i = .int .i64 k ∧ wr = World.drewN ((w.alloc (.cells #[.int .u32 src, .int .u32 dst, .int .i64 sp, .int .i64 vni, .bool oam, .slice a1 n c1, .string s] 25)).alloc (.cells #[.int .u32 src, .int .u32 dst, .int .i64 sp, .int .i64 vni, .bool oam, .slice a2 n c2, .string s] 25)) nq) (fun i _ => n - (intOf i).toNat)
  case atStart => exact ⟨0, 0, by omega, rfl, rfl⟩
  case round =>
    obtain ⟨k, nq, hk, rfl, rfl⟩ := hrel
    by_cases hlt : k = n
    · have e0 : ¬ (k : Int) < (n : Int) := by omega
      clear hlt
      go_wp2
      go_ret
      exact ⟨rfl, below_drewN B0.out _⟩
    · have hkI : (k : Int) < (n : Int) := by omega
      obtain ⟨o, b1, o1, ho, rfl, c0, c1', c2', hbl1, _⟩ := os_cell (H1.out.below B0.out) (show k < n by omega)
      obtain ⟨o', b2, o2, ho2, rfl, d0, d1, d2, hbl2, _⟩ := os_cell (H2.out.below B0.out) (show k < n by omega)
      obtain rfl : o = o' := by rw [ho] at ho2; exact Option.some.inj ho2
      generalize o.cls = oc at *
      generalize o.code = od at *
      generalize strOfNums o.data = ds at *
      have hneq : ∀ W, (binOp .neq 38 (.agg #[.int .i64 oc, .int .i64 od, .string ds]) (.agg #[.int .i64 oc, .int .i64 od, .string ds])).run Try.prog W = .ok (.bool false) W := fun W => by simp [go_sem]
      clear ho ho2
      go_wp2_with fail
      go_quiet (fail)
      go_wp2
      go_roundw
      case rel => exact ⟨k + 1, _, by omega, by go_num, rfl⟩
      case measure => simp [intOf]; omega
end Go.Proofs.Ytgonckbdkgiddaa

namespace Go.Proofs.Ytgonckbdkgiddaa
open Go.RowKit
set_option maxRecDepth 100000
set_option linter.unusedSimpArgs false
def f14 : List Int := [102, 111, 117, 114, 116, 101, 101, 110, 32, 98, 121, 116, 101, 115]
def liveG : List Int := encB 1 2 0 5 false [] f14
def liveP : List Int := payB 5 false [] f14
def liveU : List Int := udpB 0 5 false [] f14
theorem f14_str : strOfNums f14 = ⟨#[102, 111, 117, 114, 116, 101, 101, 110, 32, 98, 121, 116, 101, 115]⟩ := by kernel_rfl
theorem fit_all {zs : List Int} (h : zs.all (fun x => decide (0 ≤ x ∧ x ≤ 255)) = true) : Fit zs := fun i => by
  rw [List.getD_eq_getElem?_getD]
  cases e : zs[i]? with
  | none => exact ⟨Int.le_refl _, by decide⟩
  | some x =>
    have := List.all_eq_true.1 h x (List.mem_of_getElem? e)
    simpa using this
theorem f14_fit : Fit f14 := fit_all (by decide +kernel)
theorem liveG_fit : Fit liveG := fit_all (by decide +kernel)
theorem liveG_len : liveG.length = 50 := by decide +kernel
theorem liveP_len : liveP.length = 22 := by decide +kernel
theorem live_chk : chkE 0 5 [] f14.length = 0 := by decide +kernel
theorem live_mok : Ip.MOk liveG ((50 : Nat) : Int) 20 := by constructor <;> decide +kernel
theorem live_drop : (liveG.drop 20).take (50 - 20) = liveU := by decide +kernel
theorem live_dec : decE 1 2 2 liveU = 0 ∧ decR 1 2 2 liveU = udpR 0 liveP := by
  constructor
  · decide +kernel
  · kernel_rfl
theorem liveP_fit : Fit liveP := payB_fit 5 false [] f14 (fun _ h => by cases h) f14_fit
theorem live_encap (W : World) : Calls Try.prog 7 #[.agg #[.int .u32 1, .int .u32 2, .int .i64 0, .int .i64 5, .bool false, .slice none 0 0, .string ⟨#[102, 111, 117, 114, 116, 101, 101, 110, 32, 98, 121, 116, 101, 115]⟩]] W fun e w' => ∃ a' cap', e = .returned (.tuple #[.slice a' 50 cap', .int .i64 0]) ∧ BS w' a' 50 liveG ∧ Below W.heap.size W w' ∧ 50 ≤ cap' := by
  have h := encap_yes 1 2 0 5 false none 0 0 [] f14 W (OS.empty none) live_chk (by decide) (by decide) f14_fit
  unfold tnC at h
  rw [f14_str] at h
  refine h.mono ?_
  rintro e w' ⟨a', cap', rfl, ho, hb⟩
  have hl : (encB 1 2 0 5 false [] f14).length = 50 := liveG_len
  rw [hl] at ho
  refine ⟨a', cap', by rw [hl], own_bs ho liveG_fit (by omega), hb, (own_caps ho).1⟩
theorem live_decap (w : World) (b off cap : Nat) (h : BS w (some ⟨b, off, none⟩) 50 liveG) (hcap : 50 ≤ cap) :
    Calls Try.prog 10 #[.slice (some ⟨b, off, none⟩) 50 cap] w fun e w' => e = .returned (.tuple #[.agg #[.int .u32 1, .int .u32 2, .int .i64 0, .int .i64 5, .bool false, .slice none 0 0, .string ⟨#[102, 111, 117, 114, 116, 101, 101, 110, 32, 98, 121, 116, 101, 115]⟩], .int .i64 0]) ∧ Below w.heap.size w w' := by
  refine decap_go w b off 50 cap liveG h hcap 20 50 (by omega) (by omega) (by omega) (by omega) 0 0 16384 64 17 1 2 [] (fun W hB => ?_) 2 0 0 0 0 6081 true 0 0 0 0 0 [] liveP liveP_fit (by rw [liveP_len]; omega) (fun W hB => ?_) 5 false ⟨#[102, 111, 117, 114, 116, 101, 101, 110, 32, 98, 121, 116, 101, 115]⟩ (fun W g c hB hc => ?_) (fun W => (live_encap W).mono (by rintro e w' ⟨a', cap', h1, h2, h3, _⟩; exact ⟨a', cap', h1, h2, h3⟩))
  · have := (Ip.decode_any W (some ⟨b, off, none⟩) 50 cap liveG hB hcap).2 20 live_mok
    rw [show liveG.getD 2 0 * 256 + liveG.getD 3 0 = 50 by decide +kernel, show Ip.ipF liveG 20 = .agg #[.int .i64 0, .int .i64 0, .int .i64 16384, .int .i64 64, .int .i64 17, .int .u32 1, .int .u32 2, .string (strOfNums [])] by kernel_rfl] at this
    exact this
  · have hE : BS W (some ⟨b, off + 20, none⟩) (50 - 20) liveU := by
      rw [← live_drop]
      exact (hB.drop (by omega) 20 (by omega)).take (50 - 20) (by omega)
    have := decode_any 1 2 17 (by omega) (by omega) (some ⟨b, off + 20, none⟩) (50 - 20) (cap - 20) liveU (by omega) (fun x e => ⟨b, off + 20, by cases e; rfl⟩) (fun e => by cases e) W hE
    rw [show kindV 17 = 2 from rfl, live_dec.1, live_dec.2] at this
    exact this
  · have := read_nil g 0 liveP.length c liveP W hB hc (by rw [liveP_len]; omega) (by decide +kernel)
    rw [show num ((liveP.drop 4).take 3) = 5 by decide +kernel, show (bits .and .u8 (liveP.getD 1 0) 128 != 0) = false by decide +kernel, show strOfNums (liveP.drop 8) = ⟨#[102, 111, 117, 114, 116, 101, 101, 110, 32, 98, 121, 116, 101, 115]⟩ by kernel_rfl] at this
    exact this
set_option maxHeartbeats 4000000 in
theorem glives_any (w : World) : Calls Try.prog 9 #[] w fun e w' => e = .returned (.bool true) ∧ Below w.heap.size w w' := by
  go_enter Try.func9, Try.ntmps9
  go_wp2_with fail
  refine (live_encap w).mono ?_
  rintro e W1 ⟨a', cap', rfl, hB, hb, hcap⟩
  obtain ⟨b, off, rfl, _⟩ := hB.cells.resolve_left (by omega)
  have S1 : Hid _ := hB
  have B1 : Hid _ := hb
  clear hB hb
  go_wp2_with fail
  refine (live_decap W1 b off cap' S1.out hcap).mono ?_
  rintro e W2 ⟨rfl, hb⟩
  have B2 : Hid (Below w.heap.size w W2) := B1.out.trans (hb.mono B1.out.size)
  have S2 : Hid _ := S1.out.below hb
  have hne : ¬ cap' = 28 := by omega
  have i1 : (50 : Int) ≤ (cap' : Int) := by omega
  have i2 : (36 : Int) ≤ (cap' : Int) := by omega
  have i3 : (28 : Int) ≤ (cap' : Int) := by omega
  have cv := run_conv_bs (P := Try.prog) (w := W2.alloc (.cells #[.int .u32 1, .int .u32 2, .int .i64 0, .int .i64 5, .bool false, .slice none 0 0, .string ⟨#[102, 111, 117, 114, 116, 101, 101, 110, 32, 98, 121, 116, 101, 115]⟩] 25)) (cap' - 28) (((S2.out.drop (by omega) 28 (by omega)).take 8 (by omega)).below (below1 W2 _)) 26 9 5 Try.underlying26 Try.underlying5 Try.underlying9
  rw [show strOfNums ((liveG.drop 28).take 8) = ⟨#[0, 0, 101, 88, 0, 0, 5, 0]⟩ by kernel_rfl] at cv
  clear hb S1 B1 S2
  go_wp2
  go_ret
  exact ⟨rfl, B2.out.alloc B2.out.size _⟩
end Go.Proofs.Ytgonckbdkgiddaa
