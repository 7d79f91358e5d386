/- lives of the laws of Programs. No condition. -/
import Derived.Test.YtnahhmcmahbnkaaGreatDoorXM
import Derived.Test.YtnahhmcmahbnkaaGreatDoorGXJtoXN
import Derived.Lib.Hide
import Derived.Test.YtnahhmcmahbnkaaGreatDoorGMDtoMI
import Derived.ProofKit
import Derived.ShutString
import Derived.ChangeOld
import Derived.SizedLaws
import Derived.Deep.Slices
import Derived.LaidMore
import Derived.Stop.Joined
import Derived.MakeChecks
import Derived.Lib.LaidTab
import Derived.Stop.LaidErr
namespace Go.Proofs.YtnahhmcmahbnkaaGreatDoor
open Go.RowKit
/-- The State of lives: an IPv4 packet of Ttl 9. -/
def stL : Array Value := (zeroC.setIfInBounds 11 (.bool true)).setIfInBounds 15 (.int .i64 9)
theorem stL_st : St stL := by
  have h1 := st_put zeroSt 11 (.bool true) (by decide) rfl (fun h => absurd h (by decide)) (fun h => absurd h (by decide)) (fun h => absurd h (by decide)) (fun _ => ⟨true, rfl⟩) (fun h => absurd h (by decide))
  exact st_put h1 15 (.int .i64 9) (by decide) rfl (fun h => absurd h (by decide)) (fun _ => ⟨9, rfl, by omega, by omega⟩) (fun h => absurd h (by decide)) (fun h => absurd h (by decide)) (fun h => absurd h (by decide))
def ipL : Array Value := stL.extract 12 20
def pkL : Array Value := stL.extract 0 36
theorem built_ipL : Tryz.prog.built 29 [(3, .int .i64 9)] = some ipL := by kernel_rfl
theorem built_pkL : Tryz.prog.built 33 [(3, .bool true), (4, .agg ipL)] = some pkL := by kernel_rfl
theorem built_stL : Tryz.prog.built 38 [(0, .agg pkL)] = some stL := by kernel_rfl
theorem built_out (p : Int) : Tryz.prog.built 49 [(0, .int .i64 6), (6, .int .i64 p)] = some (Ac.outA p) := by kernel_rfl
theorem built_go (t : Int) : Tryz.prog.built 49 [(0, .int .i64 4), (5, .int .i64 t)] = some (Ac.goA t) := by kernel_rfl
theorem built_hop : Tryz.prog.built 49 [(0, .int .i64 3)] = some (Ac.leafA 3) := by kernel_rfl
theorem built_clone (a : Option Addr) (n c : Nat) : Tryz.prog.built 49 [(0, .int .i64 5), (7, .slice a n c)] = some (Ac.cloneA (.slice a n c)) := by kernel_rfl
theorem built_flow (t : Int) (a : Option Addr) (n c : Nat) : Tryz.prog.built 52 [(0, .int .i64 t), (3, .slice a n c)] = some (flC t 0 (.slice none 0 0) (.slice a n c)) := by kernel_rfl
def listL : Nat → List AOp := two [.clone [1], .go 1] [.hop, .out 2]
def sentL : SentL := [(1, stL), (2, Ac.hopR stL)]
theorem runL : runO listL 20 (listL 0) stL 0 [] = some (true, 1, sentL) := by kernel_rfl
theorem cellsL : (sentsC sentL)[1]? = some (.int .i64 1) ∧ (sentsC sentL)[17]? = some (.int .i64 9) ∧ (sentsC sentL)[52]? = some (.int .i64 2) ∧ (sentsC sentL)[68]? = some (.int .i64 8) := by
  refine ⟨?_, ?_, ?_, ?_⟩ <;> kernel_rfl
abbrev actsL0 (k : Nat) : Array Value := Ac.cloneA (.slice (some ⟨k, 0, none⟩) 1 1) ++ Ac.goA 1
abbrev actsL1 : Array Value := Ac.leafA 3 ++ Ac.outA 2
abbrev flowsL (k : Nat) : Array Value := flC 0 0 (.slice none 0 0) (.slice (some ⟨k + 1, 0, none⟩) 2 2) ++ flC 1 0 (.slice none 0 0) (.slice (some ⟨k + 1 + 1, 0, none⟩) 2 2)
theorem sent_cells {W : World} {C n : Nat} {sv : Value} {xs : List Value} (h : W.ownsRow C 66 51 sv n xs) (hn : 1 ≤ n) : ∃ g cap, sv = .slice (some ⟨g, 0, none⟩) n cap ∧ ∀ j, j < n * 51 → W.cell? ⟨g, j, none⟩ = xs[j]? := by
  rcases h.2 with ⟨_, h0⟩ | ⟨g, cap, cur, e, _, hc, _, _, _, htk⟩
  · omega
  · refine ⟨g, cap, e, fun j hj => ?_⟩
    rw [cell_row hc j, ← htk, List.getElem?_take_of_lt hj, Array.getElem?_toList]
theorem new_lives (w : World) : Calls Tryz.prog 7 #[.slice (some ⟨w.heap.size + 1 + 1 + 1, 0, none⟩) 2 2] ((((w.alloc (.cells (Ac.outA 1) 49)).alloc (.cells (actsL0 w.heap.size) 49)).alloc (.cells actsL1 49)).alloc (.cells (flowsL w.heap.size) 52)) fun e w' => ∃ pb Z m g' cap D, e = .returned (.tuple #[.pointer (some ⟨pb, 0, none⟩), .int .i64 0]) ∧ PrgAt w' pb 2 (two 0 1) (fun _ => 0) (fun i => ActsAt 2 (two 0 1) (listL i)) Z m g' cap D ∧ Below w.heap.size w w' := by
  have s1 : (w.alloc (.cells (Ac.outA 1) 49)).heap.size = w.heap.size + 1 := by simp
  have s2 : ((w.alloc (.cells (Ac.outA 1) 49)).alloc (.cells (actsL0 w.heap.size) 49)).heap.size = w.heap.size + 1 + 1 := by simp
  have s3 : (((w.alloc (.cells (Ac.outA 1) 49)).alloc (.cells (actsL0 w.heap.size) 49)).alloc (.cells actsL1 49)).heap.size = w.heap.size + 1 + 1 + 1 := by simp
  have b4 : Below w.heap.size w ((((w.alloc (.cells (Ac.outA 1) 49)).alloc (.cells (actsL0 w.heap.size) 49)).alloc (.cells actsL1 49)).alloc (.cells (flowsL w.heap.size) 52)) := (below3 _ _ _ _).alloc (by rw [s3]; omega) _
  have h0 := heap_alloc_new w (.cells (Ac.outA 1) 49)
  have h1 := heap_alloc_new (w.alloc (.cells (Ac.outA 1) 49)) (.cells (actsL0 w.heap.size) 49)
  have h2 := heap_alloc_new ((w.alloc (.cells (Ac.outA 1) 49)).alloc (.cells (actsL0 w.heap.size) 49)) (.cells actsL1 49)
  have h3 := heap_alloc_new (((w.alloc (.cells (Ac.outA 1) 49)).alloc (.cells (actsL0 w.heap.size) 49)).alloc (.cells actsL1 49)) (.cells (flowsL w.heap.size) 52)
  rw [s1] at h1
  rw [s2] at h2
  rw [s3] at h3
  generalize hV : (((w.alloc (.cells (Ac.outA 1) 49)).alloc (.cells (actsL0 w.heap.size) 49)).alloc (.cells actsL1 49)).alloc (.cells (flowsL w.heap.size) 52) = V at *
  have g0 : V.heap[w.heap.size]? = some (.cells (Ac.outA 1) 49 (0, 0)) := by rw [← hV, heap_alloc_old _ _ (by rw [s3]; omega), heap_alloc_old _ _ (by rw [s2]; omega), heap_alloc_old _ _ (by rw [s1]; omega)]; exact h0
  have g1 : V.heap[w.heap.size + 1]? = some (.cells (actsL0 w.heap.size) 49 (0, 0)) := by rw [← hV, heap_alloc_old _ _ (by rw [s3]; omega), heap_alloc_old _ _ (by rw [s2]; omega)]; exact h1
  have g2 : V.heap[w.heap.size + 1 + 1]? = some (.cells actsL1 49 (0, 0)) := by rw [← hV, heap_alloc_old _ _ (by rw [s3]; omega)]; exact h2
  clear hV h0 h1 h2 s1 s2 s3
  have A0 : ActsSrc 2 (two 0 1) V (w.heap.size + 1) (actsL0 w.heap.size) [.clone [1], .go 1] := acts_two g1 ⟨w.heap.size, Ac.outA 1, 1, rfl, outs_one V w.heap.size 1 g0 (by omega) (by omega)⟩ ⟨rfl, by omega, by decide⟩ (by kernel_rfl)
  have A1 : ActsSrc 2 (two 0 1) V (w.heap.size + 1 + 1) actsL1 [.hop, .out 2] := acts_two g2 rfl ⟨rfl, by omega, by omega⟩ (by kernel_rfl)
  refine Calls.mono (new_two (w.heap.size + 1 + 1 + 1) (w.heap.size + 1) (w.heap.size + 1 + 1) 2 2 2 0 1 (actsL0 w.heap.size) actsL1 [.clone [1], .go 1] [.hop, .out 2] ⟨#[48]⟩ ⟨#[49]⟩ V h3 A0 A1 (by omega) (by omega) (by omega) itoa_0 itoa_1 (by decide) (by decide) (by decide)) ?_
  rintro e w' ⟨pb, Z, m, g', cap, D, he, hp, hb⟩
  exact ⟨pb, Z, m, g', cap, D, he, hp, b4.trans (hb.mono b4.size)⟩
set_option linter.unusedSimpArgs false in
set_option maxRecDepth 100000 in
set_option maxHeartbeats 8000000 in
theorem lives_yes (w : World) : Calls Tryz.prog 6 #[] w fun e w' => e = .returned (.bool true) ∧ Below w.heap.size w w' := by
  have HNEW : Hid _ := new_lives w
  have q1 := eql_pprog
  have q2 := eql_pcttab
  go_enter Tryz.func6, Tryz.ntmps6
  go_wp2_with fail
  refine Calls.mono HNEW.out ?_
  rintro e W1 ⟨pb, Z, m, g', cap, D, rfl, hp, hb1⟩
  have HP : Hid (PrgAt W1 pb 2 (two 0 1) (fun _ => 0) (fun i => ActsAt 2 (two 0 1) (listL i)) Z m g' cap D) := hp
  have B1 : Hid (Below w.heap.size w W1) := hb1
  clear hp hb1 HNEW
  go_wp2_with fail
  refine Calls.mono (ctnew_any 2 (by omega) (by omega) W1) ?_
  rintro e W2 ⟨rfl, hb2⟩
  have B2 : Hid (Below w.heap.size w W2) := B1.out.trans (hb2.mono B1.out.size)
  have HP2 : Hid (PrgAt W2 pb 2 (two 0 1) (fun _ => 0) (fun i => ActsAt 2 (two 0 1) (listL i)) Z m g' cap D) := HP.out.of (fun i => acts_lasts 2 (two 0 1) _) hb2
  obtain ⟨tb, htb⟩ : ∃ tb, W1.heap.size + 1 = tb := ⟨_, rfl⟩
  rw [htb]
  have HRUN : Hid (Calls Tryz.prog 9 #[.pointer (some ⟨pb, 0, none⟩), .pointer (some ⟨tb, 0, none⟩), .int .i64 0, .agg stL] W2 fun e w' => (∃ sv, e = .returned (.tuple #[sv, .int .i64 1, .int .i64 0]) ∧ w'.ownsRow W2.heap.size 66 51 sv 2 (sentsC sentL)) ∧ Below W2.heap.size W2 w') :=
    run_prg HP2.out (by omega) (lt_two (by decide) (by decide)) ⟨tb, 0, none⟩ 0 (by omega) stL stL_st 20 true 1 sentL runL (by decide)
  clear hb2 HP B1 htb
  go_wp2_with fail
  refine Calls.mono HRUN.out ?_
  rintro e W3 ⟨⟨sv, rfl, ho⟩, hb3⟩
  have B3 : Hid (Below w.heap.size w W3) := B2.out.trans (hb3.mono B2.out.size)
  obtain ⟨gs, cs, rfl, hcell⟩ := sent_cells ho (by omega)
  obtain ⟨k1, k17, k52, k68⟩ := cellsL
  have c1 : W3.cell? ⟨gs, 1, none⟩ = some (.int .i64 1) := (hcell 1 (by omega)).trans k1
  have c17 : W3.cell? ⟨gs, 17, none⟩ = some (.int .i64 9) := (hcell 17 (by omega)).trans k17
  have c52 : W3.cell? ⟨gs, 52, none⟩ = some (.int .i64 2) := (hcell 52 (by omega)).trans k52
  have c68 : W3.cell? ⟨gs, 68, none⟩ = some (.int .i64 8) := (hcell 68 (by omega)).trans k68
  clear ho hb3 hcell k1 k17 k52 k68 HRUN HP2 B2
  go_wp2
  go_ret
  exact ⟨rfl, B3.out⟩
end Go.Proofs.YtnahhmcmahbnkaaGreatDoor
/- Terms among a law's arguments can be read; what the listed table of trailing zeros holds. Laws of the frame; no condition. -/
namespace Go.Proofs.YtnahhmcmahbnkaaGreatDoor
open Go.ChangeShapes Go.WideShapes Go.ChangeAt Go.RowKit
theorem own : ownKnob Tryz.prog.godebug = none := by kernel_rfl
theorem laidOut : laidOutB Tryz.prog = true := by kernel_rfl
theorem cellsTerm : Tryz.prog.cellsOf 118 = 3 := by kernel_rfl
theorem cellsU64 : Tryz.prog.cellsOf 22 = 1 := by kernel_rfl
theorem cellsInt : Tryz.prog.cellsOf 3 = 1 := by kernel_rfl
theorem bytesTerm : Tryz.prog.bytesOf 118 = 24 := by kernel_rfl
theorem toNat_of {x : Int} (h0 : 0 ≤ x) (h1 : x ≤ 18446744073709551615) : ∃ b : BitVec 64, x = (b.toNat : Int) := ⟨bv x, (toNat_bv h0 h1).symm⟩
set_option maxRecDepth 100000 in
theorem open_term {H : Type} {enc : TypeId × Value → H} {W : World} {n : Nat} {a : Addr} {i : Nat} {cs : List Value} {x : DataW H × List MemPlace}
    (h1 : W.cells? 0 (a.add (i * Tryz.prog.cellsOf 118)) (Tryz.prog.cellsOf 118) = some cs) (h2 : DataW.trod enc Tryz.prog W 0 (fun _ => true) true n 118 cs = some x) :
    ∃ t : Tm, W.cell? (a.add (i * 3)) = some (.int .i64 t.f) ∧ W.cell? (a.add (i * 3 + 1)) = some (.int .u64 (t.v.toNat : Int)) ∧ W.cell? (a.add (i * 3 + 2)) = some (.int .u64 (t.m.toNat : Int)) := by
  rw [cellsTerm] at h1
  obtain ⟨_, hlen, hcell⟩ := World.cells?_some h1
  obtain ⟨xs, k, _, _, _, hxl, hf⟩ := DataW.trod_struct Tryz.underlying118 h2
  match xs, hxl, cs, hlen with
  | [y0, y1, y2], _, [v0, v1, v2], _ =>
    have g0 : DataW.trod enc Tryz.prog W 0 (fun _ => true) true k 3 (([v0, v1, v2].drop 0).take (Tryz.prog.cellsOf 3)) = some y0 := hf 0 _ rfl
    have g1 : DataW.trod enc Tryz.prog W 0 (fun _ => true) true k 22 (([v0, v1, v2].drop 1).take (Tryz.prog.cellsOf 22)) = some y1 := hf 1 _ rfl
    have g2 : DataW.trod enc Tryz.prog W 0 (fun _ => true) true k 22 (([v0, v1, v2].drop 2).take (Tryz.prog.cellsOf 22)) = some y2 := hf 2 _ rfl
    rw [cellsInt] at g0
    rw [cellsU64] at g1 g2
    obtain ⟨x0, e0, _, _⟩ := DataW.trod_int Tryz.underlying3 g0
    obtain ⟨x1, e1, _, w1⟩ := DataW.trod_int Tryz.underlying22 g1
    obtain ⟨x2, e2, _, w2⟩ := DataW.trod_int Tryz.underlying22 g2
    have b1 := bounds_u64 w1
    have b2 := bounds_u64 w2
    obtain ⟨p1, rfl⟩ := toNat_of b1.1 b1.2
    obtain ⟨p2, rfl⟩ := toNat_of b2.1 b2.2
    simp at e0 e1 e2
    subst e0 e1 e2
    have q0 := hcell 0 (by omega)
    have q1 := hcell 1 (by omega)
    have q2 := hcell 2 (by omega)
    rw [Deep.add_add] at q0 q1 q2
    exact ⟨⟨x0, p1, p2⟩, by simpa using q0, by simpa using q1, by simpa using q2⟩
set_option maxRecDepth 100000 in
theorem open_terms {H : Type} {enc : TypeId × Value → H} {W : World} {v : Value} {d : DataW H} {p : List MemPlace} {r : Reach} {base : Nat} {ts : List TypeId} {ds : List (DataW H)} (j : Nat)
    (hv : Value.okWide Tryz.prog W r base 50 v) (h : DataW.Trod enc Tryz.prog W 0 (fun _ => true) true 50 v d p) (hsz : (DataW.weightsEach Tryz.prog ts ds).all (· ≤ reachBytes) = true) (ht : ts[j]? = some 50) (hd : ds[j]? = some d) :
    ∃ l : List Tm, TV W v l := by
  obtain ⟨a, len, cap, rfl⟩ := okWide_slice Tryz.underlying50 hv
  obtain ⟨fuel, hf⟩ := h
  have hf' : DataW.trod enc Tryz.prog W 0 (fun _ => true) true fuel 50 [.slice a len cap] = some (d, p) := hf
  rcases Deep.open_slice Tryz.underlying50 hf' with ⟨e9, _⟩ | ⟨ad, len', cap', m, k, D, Pl, e9, _, hl, hmx, hm, hy9, hel⟩
  · simp at e9
    obtain ⟨rfl, rfl, rfl⟩ := e9
    exact ⟨[], TV.nil⟩
  · simp at e9
    obtain ⟨rfl, rfl, rfl⟩ := e9
    simp at hm
    subst hm
    have hroom : m * 24 ≤ 140737488351232 := by
      have hd2 : d = _ := congrArg Prod.fst hy9
      have hs := sized_slice hsz ht (by rw [hd, hd2]) Tryz.underlying50
      rw [bytesTerm] at hs
      simp only [List.length_map, List.length_range, reachBytes] at hs
      omega
    have each : ∀ i, i < m → ∃ t : Tm, W.cell? (ad.add (i * 3)) = some (.int .i64 t.f) ∧ W.cell? (ad.add (i * 3 + 1)) = some (.int .u64 (t.v.toNat : Int)) ∧ W.cell? (ad.add (i * 3 + 2)) = some (.int .u64 (t.m.toNat : Int)) := fun i hi => by
      obtain ⟨cs', q1, q2⟩ := hel i hi
      exact open_term q1 q2
    haveI : Inhabited Tm := ⟨⟨0, 0, 0⟩⟩
    obtain ⟨q, hq⟩ := Deep.choose_lt each
    refine ⟨(List.range len).map q, some ad, len, m, rfl, hl, by simp, by omega, ?_⟩
    by_cases h0 : len = 0
    · exact .inl h0
    · obtain ⟨b, off, spot⟩ := ad
      have hspot : spot = none := by
        have := (hq 0 (by omega)).1
        simpa [Addr.add] using World.cell?_spot this
      subst hspot
      refine .inr ⟨b, off, rfl, fun i t hi => ?_⟩
      rw [List.getElem?_map] at hi
      have hi' : i < len := by
        rcases Nat.lt_or_ge i len with h | h
        · exact h
        · simp [h] at hi
      simp [hi'] at hi
      subst hi
      obtain ⟨r0, r1, r2⟩ := hq i (by omega)
      rw [plain_add3] at r0 r1 r2
      exact ⟨r0, by rw [Nat.add_assoc]; exact r1, by rw [Nat.add_assoc]; exact r2⟩
/-- The three tables as the row lists them. -/
def laid3 {H : Type} : List (String × DataW H) := [("math/bits.deBruijn32tab", Rows.laid_math_bits_deBruijn32tab), ("math/bits.deBruijn64tab", Rows.laid_math_bits_deBruijn64tab), ("internal/strconv.uint64pow10", Rows.laid_internal_strconv_uint64pow10)]
theorem door_met (os : Os) (args : Array Value) : laidMetH Tryz.prog laid3 ((World.doorLaid Tryz.prog 400 os).forCall (fun _ _ => 0) ⟨#[], args, []⟩).memory :=
  laidMetH_of_parts3 (fuel := 8) (laidMet_of_run' 8 (by kernel_rfl) (by kernel_rfl)) (by kernel_rfl) (by kernel_rfl)
def tab64 : List Int := [0, 1, 56, 2, 57, 49, 28, 3, 61, 58, 42, 50, 38, 29, 17, 4, 62, 47, 59, 36, 45, 43, 51, 22, 53, 39, 33, 30, 24, 18, 12, 5, 63, 55, 48, 27, 60, 41, 37, 16, 46, 35, 44, 21, 52, 32, 23, 11, 54, 26, 40, 15, 34, 20, 31, 10, 25, 14, 19, 9, 13, 8, 7, 6]
theorem table_15 {W : World} (h : laidMetH Tryz.prog laid3 W) : W.cell? ⟨2, 15, none⟩ = some (.int .u8 4) := by
  rw [MakeChecks.laidMetH_plain Tryz.prog laid3 W (by kernel_rfl)] at h
  have h2 := laidMet.tail h
  have h3 : Lib.TabIs Tryz.prog W "math/bits.deBruijn64tab" .u8 tab64 := Lib.tabIs_of_head (g := 2) (t := 331) (e := 5) (n := 64) (by kernel_rfl) (by kernel_rfl) Tryz.underlying331 Tryz.underlying5 (by kernel_rfl) (by kernel_rfl) h2
  exact h3.cell (by kernel_rfl) 15 (by decide)
end Go.Proofs.YtnahhmcmahbnkaaGreatDoor
