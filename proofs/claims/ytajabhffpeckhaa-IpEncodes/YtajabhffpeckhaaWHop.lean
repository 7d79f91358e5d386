/- What Hop of package ip answers on any bytes. Condition: a slice of at most 2^47 bytes. -/
import Derived.Test.YtajabhffpeckhaaWMsr
import Derived.Test.YtajabhffpeckhaaWEnc2
import Derived.Laws.CopyOwn
import Derived.Sort.AtCall
namespace Go.Proofs.Ytajabhffpeckhaa
open Go.RowKit

def hopNo : Value := .tuple #[.slice none 0 0, .bool false]

theorem measure_from {w W : World} (hW : Below w.heap.size w W) (a : Option Addr) (n cap : Nat) (zs : List Int) (room : Int) (h : BS w a n zs) (hcap : n ≤ cap) :
    Calls Try.prog 25 #[.slice a n cap, .int .i64 room] W fun e w' => e = .returned (msrV (msr zs room)) ∧ ∃ nq, w' = W.drewN nq := measure_any W a n cap zs room (h.below hW) hcap

set_option maxHeartbeats 1000000 in
theorem hop_no1 (w : World) (a : Option Addr) (n cap : Nat) (zs : List Int) (h : BS w a n zs) (hcap : n ≤ cap) (f : Int) (hf : f = 20 ∨ f = 21 ∨ f = 30) (hm : msr zs 65535 = (0, 0, f)) :
    Calls Try.prog 18 #[.slice a n cap] w fun e w' => e = .returned hopNo ∧ Below w.heap.size w w' := by
  have hf0 : (f != 0) = true := by simp; omega
  go_enter Try.func18, Try.ntmps18
  go_wp2_with fail
  refine (measure_any _ a n cap zs 65535 h hcap).mono ?_
  rintro e w1 ⟨rfl, nq, rfl⟩
  rw [hm]
  unfold msrV
  clear h hm
  go_wp2
  go_ret2
  exact ⟨rfl, below_drewN (Below.refl _ _) _⟩

set_option maxHeartbeats 1000000 in
theorem hop_no2 (w : World) (b off n cap : Nat) (zs : List Int) (h : BS w (some ⟨b, off, none⟩) n zs) (hcap : n ≤ cap) (m : Nat) (hm : MOk zs 65535 m) (h8 : zs.getD 8 0 ≤ 1) :
    Calls Try.prog 18 #[.slice (some ⟨b, off, none⟩) n cap] w fun e w' => e = .returned hopNo ∧ Below w.heap.size w w' := by
  have hms := msr_yes hm
  have hl := h.len
  have h20 : 20 ≤ n := by have := hm.len; have := hm.twenty; omega
  have hc8 : w.cell? ⟨b, off + 8, none⟩ = some (.int .u8 (zs.getD 8 0)) := by
    rcases h.cells with h0 | ⟨b', off', e, hc⟩
    · omega
    · cases e
      exact hc 8 (by omega)
  have hnI : (8 : Int) < n := by omega
  have hf8 := h.fits 8
  go_enter Try.func18, Try.ntmps18
  go_wp2_with fail
  refine (measure_any _ _ n cap zs 65535 h hcap).mono ?_
  rintro e w1 ⟨rfl, nq, rfl⟩
  rw [hms]
  unfold msrV
  clear h hm hms
  generalize zs.getD 8 0 = z8 at *
  generalize zs.getD 2 0 * 256 + zs.getD 3 0 = T at *
  go_wp2
  go_ret2
  exact ⟨rfl, below_drewN (Below.refl _ _) _⟩

theorem make_full (w : World) (c : Nat) (hc : c ≤ 281474976710656) : (Instr.makeSlice 22 (.int .i64 (c : Int)) (.int .i64 (c : Int))).run Try.prog w = .ok (.slice (some ⟨w.heap.size, 0, none⟩) c c) (w.alloc (.cells (madeCells #[.int .u8 0] c) 5)) := by
  obtain ⟨i0, hi, hz0, hz1, hz2⟩ := info_parts info5
  have := run_make (P := Try.prog) w 22 5 i0 (.int .u8 0) Try.underlying22 hi hz0 .i64 .i64 (c : Int) (c : Int) (by omega) (by omega) (by rw [hz2]; omega) (by omega)
  rw [hz1] at this
  simpa [Value.cells] using this

/-- A row that was filled whole. -/
theorem encS_filled (w V : World) (g n : Nat) (B : List Int) (hg : w.heap.size ≤ g) (hb : Below w.heap.size w V) (hr : V.heap[g]? = some (.cells (B.map (Value.int .u8)).toArray 5 (0, 0))) (hl : B.length = n) (hf : ∀ i, 0 ≤ B.getD i 0 ∧ B.getD i 0 ≤ 255) (hn : n ≤ 281474976710656) : EncS w V g n n B := by
  refine ⟨⟨by simpa using hl, .inr ⟨g, n, _, rfl, hg, hr, Nat.le_refl _, by unfold maxLen; omega, by simpa using hl, ?_⟩⟩, hb, hf, hn⟩
  have : (B.map (Value.int .u8)).length = n := by simpa using hl
  rw [List.take_of_length_le (by simp; omega)]

set_option maxHeartbeats 2000000 in
theorem hop_yes (w : World) (b off n cap : Nat) (zs : List Int) (h : BS w (some ⟨b, off, none⟩) n zs) (hcap : n ≤ cap) (m : Nat) (hm : MOk zs 65535 m) (h8 : ¬ zs.getD 8 0 ≤ 1) :
    Calls Try.prog 18 #[.slice (some ⟨b, off, none⟩) n cap] w fun e w' => ∃ g, e = .returned (.tuple #[.slice (some ⟨g, 0, none⟩) n n, .bool true]) ∧ EncS w w' g n n (hopB zs) := by
  have hms := msr_yes hm
  have hl := h.len
  have hroom := h.room
  have h20 : 20 ≤ n := by have := hm.len; have := hm.twenty; omega
  have hcells : ∀ i, i < n → w.cell? ⟨b, off + i, none⟩ = some (.int .u8 (zs.getD i 0)) := by
    rcases h.cells with h0 | ⟨b', off', e, hc⟩
    · omega
    · cases e
      exact fun i hi => hc i (by omega)
  have hc8 := hcells 8 (by omega)
  have hbl : b < w.heap.size := cell_lt hc8
  have hnI : (8 : Int) < n := by omega
  have hnI2 : (n : Int) ≤ 281474976710656 := by omega
  have hf8 := h.fits 8
  have hmk := fun W => make_full W n hroom
  have hW8 := num_two zs 8 (by omega)
  have hW10 := num_two zs 10 (by omega)
  have hf9 := h.fits 9
  have hf10 := h.fits 10
  have hf11 := h.fits 11
  have Hfits : Hid _ := h.fits
  have H : Hid _ := h
  have HC : Hid _ := hcells
  have hhop : Hid (hopB zs = ((zs.set 8 (zs.getD 8 0 - 1)).set 10 (hopC zs / 256)).set 11 (hopC zs % 256)) := rfl
  have hhC : Hid (65535 - fld (fld (65535 - (zs.getD 10 0 * 256 + zs.getD 11 0) + (65535 - (zs.getD 8 0 * 256 + zs.getD 9 0))) + ((zs.getD 8 0 - 1) * 256 + zs.getD 9 0)) = hopC zs) := rfl
  have hCb := hopC_bd zs h.fits (by omega)
  go_enter Try.func18, Try.ntmps18
  go_wp2_with fail
  refine (measure_any _ _ n cap zs 65535 h hcap).mono ?_
  rintro e w1 ⟨rfl, nq, rfl⟩
  rw [hms]
  unfold msrV
  have hS8 : num (((zs.set 8 (zs.getD 8 0 - 1)).drop 8).take 2) = (zs.getD 8 0 - 1) * 256 + zs.getD 9 0 := by
    rw [num_two _ 8 (by simp; omega), getD_set_eq _ _ _ (by omega), getD_set_ne _ _ _ _ (by omega)]
  clear h hm hms hcells
  generalize zs.getD 2 0 * 256 + zs.getD 3 0 = T at *
  generalize hopC zs = C at *
  generalize hz8 : zs.getD 8 0 = z8 at *
  generalize zs.getD (8 + 1) 0 = z9 at *
  generalize zs.getD 10 0 = z10 at *
  generalize zs.getD (10 + 1) 0 = z11 at *
  have HZ8 : Hid (zs.getD 8 0 = z8) := hz8
  clear hz8
  have hs5 : (Try.prog.info? 5).map (·.size) = some 1 := by kernel_rfl
  have hg0 : Hid (((w.drewN nq).alloc (.cells (madeCells #[.int .u8 0] n) 5)).heap[w.heap.size]? = some (.cells (madeCells #[.int .u8 0] n) 5 (0, 0))) := heap_alloc_new (w.drewN nq) _
  have hmin : Hid ((zs.map (Value.int .u8)).length = Nat.min n n) := by
    show _ = _
    rw [List.length_map, hl]; exact (Nat.min_self n).symm
  have hfit : Hid (0 + (zs.map (Value.int .u8)).length ≤ (madeCells #[.int .u8 0] n).size) := by
    show _ ≤ _
    rw [List.length_map, hl, size_madeCells]; omega
  have hsrc : ∀ j v, (zs.map (Value.int .u8))[j]? = some v → ((w.drewN nq).alloc (.cells (madeCells #[.int .u8 0] n) 5)).cell? ((⟨b, off, none⟩ : Addr).add j) = some v := by
    intro j v hv
    obtain ⟨hj, rfl⟩ := map_get hv
    rw [plain_add]
    exact ((below_drewN (Below.refl w.heap.size w) nq).alloc (Nat.le_refl _) _ |>.cell hbl).trans (HC.out j (by omega))
  obtain ⟨V, hcp, hrow, hbel⟩ : ∃ V, (Builtin.copy_ #[22, 22] 3 #[.slice (some ⟨w.heap.size, 0, none⟩) n n, .slice (some ⟨b, off, none⟩) n cap]).run Try.prog ((w.drewN nq).alloc (.cells (madeCells #[.int .u8 0] n) 5)) = .ok (.int .i64 n) V ∧ Hid (V.heap[w.heap.size]? = some (.cells (zs.map (Value.int .u8)).toArray 5 (0, 0))) ∧ Below w.heap.size w V := by
    refine ⟨_, (run_copy_row (P := Try.prog) ((w.drewN nq).alloc (.cells (madeCells #[.int .u8 0] n) 5)) 22 22 3 5 w.heap.size 0 n n ⟨b, off, none⟩ n cap (madeCells #[.int .u8 0] n) 5 (zs.map (Value.int .u8)) Try.underlying22 hs5 hg0.out hmin.out hsrc hfit.out (ints_oneCell _ _)).trans (by rw [List.length_map, hl]; rfl), ?_, ?_⟩
    · show _ = _
      rw [setRow_heap _ _ _ _ 5 _ hg0.out]
      rw [List.drop_eq_nil_of_le (by rw [Array.length_toList, size_madeCells]; omega)]
      simp
    · exact below_setRow ((below_drewN (Below.refl w.heap.size w) nq).alloc (Nat.le_refl _) _) (Nat.le_refl _) _
  clear hsrc hfit hmin hs5
  have hE := encS_filled w V w.heap.size n zs (Nat.le_refl _) hbel hrow.out hl Hfits.out hroom
  have HE : Hid _ := hE
  have hy8 := hE.cell 8 (by omega)
  rw [HZ8.out] at hy8
  have hz8f := hE.own.frozenAt 8
  have hE1 : Hid (EncS w (V.setCell ⟨w.heap.size, 8, none⟩ (.int .u8 (z8 - 1))) w.heap.size n n (zs.set 8 (z8 - 1))) := hE.set 8 (z8 - 1) (by omega)
  have hB1 : Hid (BS (V.setCell ⟨w.heap.size, 8, none⟩ (.int .u8 (z8 - 1))) (some ⟨b, off, none⟩) n zs) := H.out.below hE1.out.bel
  clear hE hrow HE H
  go_wp2_with (first
    | (go_at_call_has 40 (Value.slice (some ⟨w.heap.size, 0, none⟩) n n); refine (word_any _ w.heap.size 0 n n 8 (zs.set 8 (z8 - 1)) hE1.out.bs (by omega) (Nat.le_refl _)).mono ?_; rintro e w' ⟨rfl, rfl⟩)
    | (go_at_call_has 40 (Value.int .i64 10); refine (word_any _ b off n cap 10 zs hB1.out (by omega) hcap).mono ?_; rintro e w' ⟨rfl, rfl⟩)
    | (go_at_call 40; refine (word_any _ b off n cap 8 zs hB1.out (by omega) hcap).mono ?_; rintro e w' ⟨rfl, rfl⟩)
    | fail)
  refine (update_any _ _ _ (by omega) (by omega) (by omega) (by omega) (by omega) (by omega) _).mono ?_
  rintro e w' ⟨rfl, rfl⟩
  rw [hhC.out]
  go_wp2_with fail
  refine (setWord_row hE1.out 10 C (by omega) (by omega)).mono ?_
  rintro e V2 ⟨rfl, rfl, hE2⟩
  have HE2 : Hid _ := hE2
  clear hE2
  go_wp2
  go_ret2
  refine ⟨w.heap.size, rfl, ?_⟩
  rw [hhop.out]
  exact HE2.out

theorem hop_any (w : World) (a : Option Addr) (n cap : Nat) (zs : List Int) (h : BS w a n zs) (hcap : n ≤ cap) :
    ((¬ ∃ m, MOk zs 65535 m ∧ 2 ≤ zs.getD 8 0) → Calls Try.prog 18 #[.slice a n cap] w fun e w' => e = .returned hopNo ∧ Below w.heap.size w w') ∧
    (∀ m, MOk zs 65535 m → 2 ≤ zs.getD 8 0 → Calls Try.prog 18 #[.slice a n cap] w fun e w' => ∃ g, e = .returned (.tuple #[.slice (some ⟨g, 0, none⟩) n n, .bool true]) ∧ EncS w w' g n n (hopB zs)) := by
  have hs : ∀ m, MOk zs 65535 m → ∃ b off, a = some ⟨b, off, none⟩ := fun m hm => by
    rcases h.cells with h0 | ⟨b, off, e, _⟩
    · have := hm.len; have := hm.twenty; have := h.len; omega
    · exact ⟨b, off, e⟩
  refine ⟨fun hno => ?_, fun m hm h8 => ?_⟩
  · rcases msr_cases zs 65535 h.fits with ⟨f, hf, hm⟩ | ⟨m, hm⟩
    · exact hop_no1 w a n cap zs h hcap f hf hm
    · obtain ⟨b, off, rfl⟩ := hs m hm
      refine hop_no2 w b off n cap zs h hcap m hm ?_
      rcases Int.lt_or_le (zs.getD 8 0) 2 with h8 | h8
      · omega
      · exact absurd ⟨m, hm, h8⟩ hno
  · obtain ⟨b, off, rfl⟩ := hs m hm
    exact hop_yes w b off n cap zs h hcap m hm (by omega)
end Go.Proofs.Ytajabhffpeckhaa
