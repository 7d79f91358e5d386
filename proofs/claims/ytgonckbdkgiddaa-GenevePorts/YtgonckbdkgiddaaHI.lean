/- lives of the laws of geneve. No condition. -/
import Derived.Test.YtgonckbdkgiddaaHH
namespace Go.Proofs.Ytgonckbdkgiddaa
open Go.RowKit
set_option maxRecDepth 100000
set_option linter.unusedSimpArgs false
def f14 : List Int := [102, 111, 117, 114, 116, 101, 101, 110, 32, 98, 121, 116, 101, 115]
def liveG : List Int := encB 1 2 0 5 false [] f14
def liveP : List Int := payB 5 false [] f14
def liveU : List Int := udpB 0 5 false [] f14
theorem f14_str : strOfNums f14 = ⟨#[102, 111, 117, 114, 116, 101, 101, 110, 32, 98, 121, 116, 101, 115]⟩ := by kernel_rfl
theorem fit_all {zs : List Int} (h : zs.all (fun x => decide (0 ≤ x ∧ x ≤ 255)) = true) : Fit zs := fun i => by
  rw [List.getD_eq_getElem?_getD]
  cases e : zs[i]? with
  | none => exact ⟨Int.le_refl _, by decide⟩
  | some x =>
    have := List.all_eq_true.1 h x (List.mem_of_getElem? e)
    simpa using this
theorem f14_fit : Fit f14 := fit_all (by decide +kernel)
theorem liveG_fit : Fit liveG := fit_all (by decide +kernel)
theorem liveG_len : liveG.length = 50 := by decide +kernel
theorem liveP_len : liveP.length = 22 := by decide +kernel
theorem live_chk : chkE 0 5 [] f14.length = 0 := by decide +kernel
theorem live_mok : Ip.MOk liveG ((50 : Nat) : Int) 20 := by constructor <;> decide +kernel
theorem live_drop : (liveG.drop 20).take (50 - 20) = liveU := by decide +kernel
theorem live_dec : decE 1 2 2 liveU = 0 ∧ decR 1 2 2 liveU = udpR 0 liveP := by
  constructor
  · decide +kernel
  · kernel_rfl
theorem liveP_fit : Fit liveP := payB_fit 5 false [] f14 (fun _ h => by cases h) f14_fit
theorem live_encap (W : World) : Calls Try.prog 7 #[.agg #[.int .u32 1, .int .u32 2, .int .i64 0, .int .i64 5, .bool false, .slice none 0 0, .string ⟨#[102, 111, 117, 114, 116, 101, 101, 110, 32, 98, 121, 116, 101, 115]⟩]] W fun e w' => ∃ a' cap', e = .returned (.tuple #[.slice a' 50 cap', .int .i64 0]) ∧ BS w' a' 50 liveG ∧ Below W.heap.size W w' ∧ 50 ≤ cap' := by
  have h := encap_yes 1 2 0 5 false none 0 0 [] f14 W (OS.empty none) live_chk (by decide) (by decide) f14_fit
  unfold tnC at h
  rw [f14_str] at h
  refine h.mono ?_
  rintro e w' ⟨a', cap', rfl, ho, hb⟩
  have hl : (encB 1 2 0 5 false [] f14).length = 50 := liveG_len
  rw [hl] at ho
  refine ⟨a', cap', by rw [hl], own_bs ho liveG_fit (by omega), hb, (own_caps ho).1⟩
theorem live_decap (w : World) (b off cap : Nat) (h : BS w (some ⟨b, off, none⟩) 50 liveG) (hcap : 50 ≤ cap) :
    Calls Try.prog 10 #[.slice (some ⟨b, off, none⟩) 50 cap] w fun e w' => e = .returned (.tuple #[.agg #[.int .u32 1, .int .u32 2, .int .i64 0, .int .i64 5, .bool false, .slice none 0 0, .string ⟨#[102, 111, 117, 114, 116, 101, 101, 110, 32, 98, 121, 116, 101, 115]⟩], .int .i64 0]) ∧ Below w.heap.size w w' := by
  refine decap_go w b off 50 cap liveG h hcap 20 50 (by omega) (by omega) (by omega) (by omega) 0 0 16384 64 17 1 2 [] (fun W hB => ?_) 2 0 0 0 0 6081 true 0 0 0 0 0 [] liveP liveP_fit (by rw [liveP_len]; omega) (fun W hB => ?_) 5 false ⟨#[102, 111, 117, 114, 116, 101, 101, 110, 32, 98, 121, 116, 101, 115]⟩ (fun W g c hB hc => ?_) (fun W => (live_encap W).mono (by rintro e w' ⟨a', cap', h1, h2, h3, _⟩; exact ⟨a', cap', h1, h2, h3⟩))
  · have := (Ip.decode_any W (some ⟨b, off, none⟩) 50 cap liveG hB hcap).2 20 live_mok
    rw [show liveG.getD 2 0 * 256 + liveG.getD 3 0 = 50 by decide +kernel, show Ip.ipF liveG 20 = .agg #[.int .i64 0, .int .i64 0, .int .i64 16384, .int .i64 64, .int .i64 17, .int .u32 1, .int .u32 2, .string (strOfNums [])] by kernel_rfl] at this
    exact this
  · have hE : BS W (some ⟨b, off + 20, none⟩) (50 - 20) liveU := by
      rw [← live_drop]
      exact (hB.drop (by omega) 20 (by omega)).take (50 - 20) (by omega)
    have := decode_any 1 2 17 (by omega) (by omega) (some ⟨b, off + 20, none⟩) (50 - 20) (cap - 20) liveU (by omega) (fun x e => ⟨b, off + 20, by cases e; rfl⟩) (fun e => by cases e) W hE
    rw [show kindV 17 = 2 from rfl, live_dec.1, live_dec.2] at this
    exact this
  · have := read_nil g 0 liveP.length c liveP W hB hc (by rw [liveP_len]; omega) (by decide +kernel)
    rw [show num ((liveP.drop 4).take 3) = 5 by decide +kernel, show (bits .and .u8 (liveP.getD 1 0) 128 != 0) = false by decide +kernel, show strOfNums (liveP.drop 8) = ⟨#[102, 111, 117, 114, 116, 101, 101, 110, 32, 98, 121, 116, 101, 115]⟩ by kernel_rfl] at this
    exact this
set_option maxHeartbeats 4000000 in
theorem glives_any (w : World) : Calls Try.prog 9 #[] w fun e w' => e = .returned (.bool true) ∧ Below w.heap.size w w' := by
  go_enter Try.func9, Try.ntmps9
  go_wp2_with fail
  refine (live_encap w).mono ?_
  rintro e W1 ⟨a', cap', rfl, hB, hb, hcap⟩
  obtain ⟨b, off, rfl, _⟩ := hB.cells.resolve_left (by omega)
  have S1 : Hid _ := hB
  have B1 : Hid _ := hb
  clear hB hb
  go_wp2_with fail
  refine (live_decap W1 b off cap' S1.out hcap).mono ?_
  rintro e W2 ⟨rfl, hb⟩
  have B2 : Hid (Below w.heap.size w W2) := B1.out.trans (hb.mono B1.out.size)
  have S2 : Hid _ := S1.out.below hb
  have hne : ¬ cap' = 28 := by omega
  have i1 : (50 : Int) ≤ (cap' : Int) := by omega
  have i2 : (36 : Int) ≤ (cap' : Int) := by omega
  have i3 : (28 : Int) ≤ (cap' : Int) := by omega
  have cv := run_conv_bs (P := Try.prog) (w := W2.alloc (.cells #[.int .u32 1, .int .u32 2, .int .i64 0, .int .i64 5, .bool false, .slice none 0 0, .string ⟨#[102, 111, 117, 114, 116, 101, 101, 110, 32, 98, 121, 116, 101, 115]⟩] 25)) (cap' - 28) (((S2.out.drop (by omega) 28 (by omega)).take 8 (by omega)).below (below1 W2 _)) 26 9 5 Try.underlying26 Try.underlying5 Try.underlying9
  rw [show strOfNums ((liveG.drop 28).take 8) = ⟨#[0, 0, 101, 88, 0, 0, 5, 0]⟩ by kernel_rfl] at cv
  clear hb S1 B1 S2
  go_wp2
  go_ret
  exact ⟨rfl, B2.out.alloc B2.out.size _⟩
end Go.Proofs.Ytgonckbdkgiddaa
