/- DpathEnds: its walk. Conditions: the State's cells are of their kinds. -/
import Derived.Test.YtnahhmcmahbnkaaGreatDoorXO
import Derived.Test.YtnahhmcmahbnkaaGreatDoorXP
import Derived.Lib.Hide
import Derived.Test.YtnahhmcmahbnkaaGreatDoorGMDtoMI
import Derived.ProofKit
import Derived.ShutString
import Derived.ChangeOld
import Derived.SizedLaws
import Derived.Deep.Slices
import Derived.LaidMore
import Derived.Stop.Joined
import Derived.MakeChecks
import Derived.Lib.LaidTab
import Derived.Stop.LaidErr
namespace Go.Proofs.YtnahhmcmahbnkaaGreatDoor
open Go.RowKit
def listE : Nat → List AOp := two [.go 1] [.clone [7], .go 0]
theorem ends_run (s : Array Value) : ∀ j : Nat, j ≤ 2048 → ∀ o : SentL, o.length + j = 2048 → ∃ o', runO listE (3 * j + 9) (listE 0) s (4096 - 2 * j) o = some (false, 4096, o') ∧ o'.length = 2048
  | 0, _, o, ho => ⟨o, rfl, by omega⟩
  | j + 1, hj, o, ho => by
    obtain ⟨o', h1, h2⟩ := ends_run s j (by omega) (o ++ [(7, s)]) (by simp; omega)
    refine ⟨o', ?_, h2⟩
    have e1 : 3 * (j + 1) + 9 = 3 * j + 11 + 1 := by omega
    have e2 : 4096 - 2 * (j + 1) = 4094 - 2 * j := by omega
    have e3 : 4096 - 2 * j = 4094 - 2 * j + 1 + 1 := by omega
    rw [e3] at h1
    rw [e1, e2]
    show (if 4094 - 2 * j = 4096 then some (false, 4094 - 2 * j, o) else runO listE (3 * j + 11) (listE 1) s (4094 - 2 * j + 1) o) = _
    rw [if_neg (by omega)]
    show (if 4094 - 2 * j + 1 = 4096 then some (false, 4094 - 2 * j + 1, o ++ [(7, s)]) else runO listE (3 * j + 9) (listE 0) s (4094 - 2 * j + 1 + 1) (o ++ [(7, s)])) = _
    rw [if_neg (by omega)]
    exact h1
theorem new_ends (a b : Nat) (ha : a < 64) (hb : b < 64) (hab : a ≠ b) (w : World) : Calls Tryz.prog 7 #[.slice (some ⟨w.heap.size + 1 + 1 + 1, 0, none⟩) 2 2] ((((w.alloc (.cells (Ac.goA b) 49)).alloc (.cells (Ac.outA 7) 49)).alloc (.cells (Ac.cloneA (.slice (some ⟨w.heap.size + 1, 0, none⟩) 1 1) ++ Ac.goA a) 49)).alloc (.cells (flC a 0 (.slice none 0 0) (.slice (some ⟨w.heap.size, 0, none⟩) 1 1) ++ flC b 0 (.slice none 0 0) (.slice (some ⟨w.heap.size + 1 + 1, 0, none⟩) 2 2)) 52)) fun e w' => ∃ pb Z m g' cap D, e = .returned (.tuple #[.pointer (some ⟨pb, 0, none⟩), .int .i64 0]) ∧ PrgAt w' pb 2 (two a b) (fun _ => 0) (fun i => ActsAt 2 (two a b) (listE i)) Z m g' cap D ∧ Below w.heap.size w w' := by
  have s1 : (w.alloc (.cells (Ac.goA b) 49)).heap.size = w.heap.size + 1 := by simp
  have s2 : ((w.alloc (.cells (Ac.goA b) 49)).alloc (.cells (Ac.outA 7) 49)).heap.size = w.heap.size + 1 + 1 := by simp
  have s3 : (((w.alloc (.cells (Ac.goA b) 49)).alloc (.cells (Ac.outA 7) 49)).alloc (.cells (Ac.cloneA (.slice (some ⟨w.heap.size + 1, 0, none⟩) 1 1) ++ Ac.goA a) 49)).heap.size = w.heap.size + 1 + 1 + 1 := by simp
  have b4 : Below w.heap.size w ((((w.alloc (.cells (Ac.goA b) 49)).alloc (.cells (Ac.outA 7) 49)).alloc (.cells (Ac.cloneA (.slice (some ⟨w.heap.size + 1, 0, none⟩) 1 1) ++ Ac.goA a) 49)).alloc (.cells (flC a 0 (.slice none 0 0) (.slice (some ⟨w.heap.size, 0, none⟩) 1 1) ++ flC b 0 (.slice none 0 0) (.slice (some ⟨w.heap.size + 1 + 1, 0, none⟩) 2 2)) 52)) := (below3 _ _ _ _).alloc (by rw [s3]; omega) _
  have h0 := heap_alloc_new w (.cells (Ac.goA b) 49)
  have h1 := heap_alloc_new (w.alloc (.cells (Ac.goA b) 49)) (.cells (Ac.outA 7) 49)
  have h2 := heap_alloc_new ((w.alloc (.cells (Ac.goA b) 49)).alloc (.cells (Ac.outA 7) 49)) (.cells (Ac.cloneA (.slice (some ⟨w.heap.size + 1, 0, none⟩) 1 1) ++ Ac.goA a) 49)
  have h3 := heap_alloc_new (((w.alloc (.cells (Ac.goA b) 49)).alloc (.cells (Ac.outA 7) 49)).alloc (.cells (Ac.cloneA (.slice (some ⟨w.heap.size + 1, 0, none⟩) 1 1) ++ Ac.goA a) 49)) (.cells (flC a 0 (.slice none 0 0) (.slice (some ⟨w.heap.size, 0, none⟩) 1 1) ++ flC b 0 (.slice none 0 0) (.slice (some ⟨w.heap.size + 1 + 1, 0, none⟩) 2 2)) 52)
  rw [s1] at h1
  rw [s2] at h2
  rw [s3] at h3
  generalize hV : (((w.alloc (.cells (Ac.goA b) 49)).alloc (.cells (Ac.outA 7) 49)).alloc (.cells (Ac.cloneA (.slice (some ⟨w.heap.size + 1, 0, none⟩) 1 1) ++ Ac.goA a) 49)).alloc (.cells (flC a 0 (.slice none 0 0) (.slice (some ⟨w.heap.size, 0, none⟩) 1 1) ++ flC b 0 (.slice none 0 0) (.slice (some ⟨w.heap.size + 1 + 1, 0, none⟩) 2 2)) 52) = V at *
  have g0 : V.heap[w.heap.size]? = some (.cells (Ac.goA b) 49 (0, 0)) := by rw [← hV, heap_alloc_old _ _ (by rw [s3]; omega), heap_alloc_old _ _ (by rw [s2]; omega), heap_alloc_old _ _ (by rw [s1]; omega)]; exact h0
  have g1 : V.heap[w.heap.size + 1]? = some (.cells (Ac.outA 7) 49 (0, 0)) := by rw [← hV, heap_alloc_old _ _ (by rw [s3]; omega), heap_alloc_old _ _ (by rw [s2]; omega)]; exact h1
  have g2 : V.heap[w.heap.size + 1 + 1]? = some (.cells (Ac.cloneA (.slice (some ⟨w.heap.size + 1, 0, none⟩) 1 1) ++ Ac.goA a) 49 (0, 0)) := by rw [← hV, heap_alloc_old _ _ (by rw [s3]; omega)]; exact h2
  clear hV h0 h1 h2 s1 s2 s3
  have A0 : ActsSrc 2 (two a b) V w.heap.size (Ac.goA b) [.go 1] := acts_one g0 ⟨rfl, by omega, hb⟩ (by kernel_rfl)
  have A1 : ActsSrc 2 (two a b) V (w.heap.size + 1 + 1) (Ac.cloneA (.slice (some ⟨w.heap.size + 1, 0, none⟩) 1 1) ++ Ac.goA a) [.clone [7], .go 0] := acts_two g2 ⟨w.heap.size + 1, Ac.outA 7, 1, rfl, outs_one V (w.heap.size + 1) 7 g1 (by omega) (by omega)⟩ ⟨rfl, by omega, ha⟩ (by kernel_rfl)
  refine Calls.mono (new_two (w.heap.size + 1 + 1 + 1) w.heap.size (w.heap.size + 1 + 1) 2 1 2 a b (Ac.goA b) _ [.go 1] [.clone [7], .go 0] (It.decS a) (It.decS b) V h3 A0 A1 ha hb hab (It.itoa_lt a ha) (It.itoa_lt b hb) (It.decS_size a) (It.decS_size b) (It.name_ne ha hb hab)) ?_
  rintro e w' ⟨pb, Z, m, g', cap, D, he, hp, hb⟩
  exact ⟨pb, Z, m, g', cap, D, he, hp, b4.trans (hb.mono b4.size)⟩
set_option linter.unusedSimpArgs false in
set_option maxRecDepth 100000 in
set_option maxHeartbeats 8000000 in
theorem ends_no (s : Array Value) (a b : Int) (h : a < 0 ∨ 63 < a ∨ b < 0 ∨ 63 < b ∨ a = b) (w : World) : Calls Tryz.prog 3 #[.agg s, .int .i64 a, .int .i64 b] w fun e w' => e = .returned (.bool true) ∧ Below w.heap.size w w' := by
  have HL : Hid (∀ W, Calls Tryz.prog 6 #[] W fun e w' => e = .returned (.bool true) ∧ Below W.heap.size W w') := lives_yes
  have B0 : Hid (Below w.heap.size w (w.alloc (.cells s 38))) := below1 _ _
  have HH : Hid (a < 0 ∨ 63 < a ∨ b < 0 ∨ 63 < b ∨ a = b) := h
  clear h
  go_enter Tryz.func3, Tryz.ntmps3
  go_wp2_with fail
  refine Calls.mono (HL.out _) ?_
  rintro e W1 ⟨rfl, hb⟩
  have B1 : Hid (Below w.heap.size w W1) := B0.out.trans (hb.mono B0.out.size)
  clear hb B0 HL
  by_cases h1 : a < 0
  · go_wp2
    go_ret
    exact ⟨rfl, B1.out⟩
  by_cases h2 : 63 < a
  · go_wp2
    go_ret
    exact ⟨rfl, B1.out⟩
  by_cases h3 : b < 0
  · go_wp2
    go_ret
    exact ⟨rfl, B1.out⟩
  by_cases h4 : 63 < b
  · go_wp2
    go_ret
    exact ⟨rfl, B1.out⟩
  have h5 : a = b := by have := HH.out; omega
  subst h5
  clear HH
  go_wp2
  go_ret
  exact ⟨rfl, B1.out⟩
set_option linter.unusedSimpArgs false in
set_option maxRecDepth 100000 in
set_option maxHeartbeats 8000000 in
theorem ends_yes (s : Array Value) (hs : St s) (a b : Nat) (ha : a < 64) (hb : b < 64) (hab : a ≠ b) (w : World) : Calls Tryz.prog 3 #[.agg s, .int .i64 a, .int .i64 b] w fun e w' => e = .returned (.bool true) ∧ Below w.heap.size w w' := by
  have HL : Hid (∀ W, Calls Tryz.prog 6 #[] W fun e w' => e = .returned (.bool true) ∧ Below W.heap.size W w') := lives_yes
  have B0 : Hid (Below w.heap.size w (w.alloc (.cells s 38))) := below1 _ _
  have S0 : Hid ((w.alloc (.cells s 38)).heap[w.heap.size]? = some (.cells s 38 (0, 0))) := heap_alloc_new _ _
  have HS : Hid _ := info_size hs.size
  have HST : Hid (St s) := hs
  have HNEW : Hid (∀ w, _) := new_ends a b ha hb hab
  have HAB : Hid (a < 64 ∧ b < 64) := ⟨ha, hb⟩
  have h1 : ¬ (a : Int) < 0 := by omega
  have h2 : ¬ (63 : Int) < (a : Int) := by omega
  have h3 : ¬ (b : Int) < 0 := by omega
  have h4 : ¬ (63 : Int) < (b : Int) := by omega
  have h5 : ¬ (a : Int) = (b : Int) := by omega
  have h6 : ¬ a = b := hab
  have h7 : ¬ 63 < a := by omega
  have h8 : ¬ 63 < b := by omega
  have hcond : (decide ((a : Int) < 0) || decide (63 < (a : Int)) || decide ((b : Int) < 0) || decide (63 < (b : Int)) || ((a : Int) == (b : Int))) = false := by simp [h1, h2, h3, h4, h5, h6, h7, h8]; try omega
  have q1 := eql_pprog
  have q2 := eql_pcttab
  clear ha hb hab hs
  go_enter Tryz.func3, Tryz.ntmps3
  go_wp2_with fail
  refine Calls.mono (HL.out _) ?_
  rintro e W1 ⟨rfl, hb⟩
  have B1 : Hid (Below w.heap.size w W1) := B0.out.trans (hb.mono B0.out.size)
  have S1 : Hid _ := (hb.block _ (lt_of_heap S0.out)).trans S0.out
  have HN1 : Hid _ := HNEW.out W1
  clear hb B0 S0 HL HNEW
  go_wp2_with fail
  refine Calls.mono HN1.out ?_
  rintro e W2 ⟨pb, Z, m, g', cap, D, rfl, hp, hb2⟩
  have HP : Hid (PrgAt W2 pb 2 (two a b) (fun _ => 0) (fun i => ActsAt 2 (two a b) (listE i)) Z m g' cap D) := hp
  have B2 : Hid (Below w.heap.size w W2) := B1.out.trans (hb2.mono B1.out.size)
  have S2 : Hid _ := (hb2.block _ (lt_of_heap S1.out)).trans S1.out
  clear hp hb2 HN1 B1 S1
  go_wp2_with fail
  refine Calls.mono (ctnew_any 1 (by omega) (by omega) W2) ?_
  rintro e W3 ⟨rfl, hb3⟩
  have B3 : Hid (Below w.heap.size w W3) := B2.out.trans (hb3.mono B2.out.size)
  have S3 : Hid _ := (hb3.block _ (lt_of_heap S2.out)).trans S2.out
  have HP3 : Hid (PrgAt W3 pb 2 (two a b) (fun _ => 0) (fun i => ActsAt 2 (two a b) (listE i)) Z m g' cap D) := HP.out.of (fun i => acts_lasts 2 (two a b) _) hb3
  obtain ⟨tb, htb⟩ : ∃ tb, W2.heap.size + 1 = tb := ⟨_, rfl⟩
  rw [htb]
  obtain ⟨o', hr, hl⟩ := ends_run s 2048 (by omega) [] rfl
  have HLEN : Hid (o'.length = 2048) := hl
  have HRUN : Hid (Calls Tryz.prog 9 #[.pointer (some ⟨pb, 0, none⟩), .pointer (some ⟨tb, 0, none⟩), .int .i64 (a : Int), .agg s] W3 fun e w' => (∃ sv, e = .returned (.tuple #[sv, .int .i64 4096, .int .i64 130]) ∧ w'.ownsRow W3.heap.size 66 51 sv o'.length (sentsC o')) ∧ Below W3.heap.size W3 w') :=
    run_prg HP3.out (by omega) (lt_two HAB.out.1 HAB.out.2) ⟨tb, 0, none⟩ 0 (by omega) s HST.out (3 * 2048 + 9) false 4096 o' hr (by omega)
  clear hb3 HP B2 S2 htb hr hl
  go_wp2_with (first
    | refine wpList_load_row rfl 38 _ rfl w.heap.size rfl 38 s (0, 0) _ S3.out Tryz.underlying38 rfl HS.out ?_
    | fail)
  refine Calls.mono HRUN.out ?_
  rintro e W4 ⟨⟨sv, rfl, ho⟩, hb4⟩
  have B4 : Hid (Below w.heap.size w W4) := B3.out.trans (hb4.mono B3.out.size)
  rw [HLEN.out] at ho
  obtain ⟨gs, cs, rfl, _⟩ := sent_cells ho (by omega)
  clear ho hb4 HRUN HP3 B3 S3 HLEN
  go_wp2
  go_ret
  exact ⟨rfl, B4.out⟩
theorem ends_any (s : Array Value) (hs : St s) (a b : Int) (w : World) : Calls Tryz.prog 3 #[.agg s, .int .i64 a, .int .i64 b] w fun e w' => e = .returned (.bool true) ∧ Below w.heap.size w w' := by
  by_cases h : a < 0 ∨ 63 < a ∨ b < 0 ∨ 63 < b ∨ a = b
  · exact ends_no s a b h w
  · obtain ⟨a', rfl⟩ : ∃ n : Nat, a = n := ⟨a.toNat, by omega⟩
    obtain ⟨b', rfl⟩ : ∃ n : Nat, b = n := ⟨b.toNat, by omega⟩
    exact ends_yes s hs a' b' (by omega) (by omega) (by omega) w
end Go.Proofs.YtnahhmcmahbnkaaGreatDoor
/- Terms among a law's arguments can be read; what the listed table of trailing zeros holds. Laws of the frame; no condition. -/
namespace Go.Proofs.YtnahhmcmahbnkaaGreatDoor
open Go.ChangeShapes Go.WideShapes Go.ChangeAt Go.RowKit
theorem own : ownKnob Tryz.prog.godebug = none := by kernel_rfl
theorem laidOut : laidOutB Tryz.prog = true := by kernel_rfl
theorem cellsTerm : Tryz.prog.cellsOf 118 = 3 := by kernel_rfl
theorem cellsU64 : Tryz.prog.cellsOf 22 = 1 := by kernel_rfl
theorem cellsInt : Tryz.prog.cellsOf 3 = 1 := by kernel_rfl
theorem bytesTerm : Tryz.prog.bytesOf 118 = 24 := by kernel_rfl
theorem toNat_of {x : Int} (h0 : 0 ≤ x) (h1 : x ≤ 18446744073709551615) : ∃ b : BitVec 64, x = (b.toNat : Int) := ⟨bv x, (toNat_bv h0 h1).symm⟩
set_option maxRecDepth 100000 in
theorem open_term {H : Type} {enc : TypeId × Value → H} {W : World} {n : Nat} {a : Addr} {i : Nat} {cs : List Value} {x : DataW H × List MemPlace}
    (h1 : W.cells? 0 (a.add (i * Tryz.prog.cellsOf 118)) (Tryz.prog.cellsOf 118) = some cs) (h2 : DataW.trod enc Tryz.prog W 0 (fun _ => true) true n 118 cs = some x) :
    ∃ t : Tm, W.cell? (a.add (i * 3)) = some (.int .i64 t.f) ∧ W.cell? (a.add (i * 3 + 1)) = some (.int .u64 (t.v.toNat : Int)) ∧ W.cell? (a.add (i * 3 + 2)) = some (.int .u64 (t.m.toNat : Int)) := by
  rw [cellsTerm] at h1
  obtain ⟨_, hlen, hcell⟩ := World.cells?_some h1
  obtain ⟨xs, k, _, _, _, hxl, hf⟩ := DataW.trod_struct Tryz.underlying118 h2
  match xs, hxl, cs, hlen with
  | [y0, y1, y2], _, [v0, v1, v2], _ =>
    have g0 : DataW.trod enc Tryz.prog W 0 (fun _ => true) true k 3 (([v0, v1, v2].drop 0).take (Tryz.prog.cellsOf 3)) = some y0 := hf 0 _ rfl
    have g1 : DataW.trod enc Tryz.prog W 0 (fun _ => true) true k 22 (([v0, v1, v2].drop 1).take (Tryz.prog.cellsOf 22)) = some y1 := hf 1 _ rfl
    have g2 : DataW.trod enc Tryz.prog W 0 (fun _ => true) true k 22 (([v0, v1, v2].drop 2).take (Tryz.prog.cellsOf 22)) = some y2 := hf 2 _ rfl
    rw [cellsInt] at g0
    rw [cellsU64] at g1 g2
    obtain ⟨x0, e0, _, _⟩ := DataW.trod_int Tryz.underlying3 g0
    obtain ⟨x1, e1, _, w1⟩ := DataW.trod_int Tryz.underlying22 g1
    obtain ⟨x2, e2, _, w2⟩ := DataW.trod_int Tryz.underlying22 g2
    have b1 := bounds_u64 w1
    have b2 := bounds_u64 w2
    obtain ⟨p1, rfl⟩ := toNat_of b1.1 b1.2
    obtain ⟨p2, rfl⟩ := toNat_of b2.1 b2.2
    simp at e0 e1 e2
    subst e0 e1 e2
    have q0 := hcell 0 (by omega)
    have q1 := hcell 1 (by omega)
    have q2 := hcell 2 (by omega)
    rw [Deep.add_add] at q0 q1 q2
    exact ⟨⟨x0, p1, p2⟩, by simpa using q0, by simpa using q1, by simpa using q2⟩
set_option maxRecDepth 100000 in
theorem open_terms {H : Type} {enc : TypeId × Value → H} {W : World} {v : Value} {d : DataW H} {p : List MemPlace} {r : Reach} {base : Nat} {ts : List TypeId} {ds : List (DataW H)} (j : Nat)
    (hv : Value.okWide Tryz.prog W r base 50 v) (h : DataW.Trod enc Tryz.prog W 0 (fun _ => true) true 50 v d p) (hsz : (DataW.weightsEach Tryz.prog ts ds).all (· ≤ reachBytes) = true) (ht : ts[j]? = some 50) (hd : ds[j]? = some d) :
    ∃ l : List Tm, TV W v l := by
  obtain ⟨a, len, cap, rfl⟩ := okWide_slice Tryz.underlying50 hv
  obtain ⟨fuel, hf⟩ := h
  have hf' : DataW.trod enc Tryz.prog W 0 (fun _ => true) true fuel 50 [.slice a len cap] = some (d, p) := hf
  rcases Deep.open_slice Tryz.underlying50 hf' with ⟨e9, _⟩ | ⟨ad, len', cap', m, k, D, Pl, e9, _, hl, hmx, hm, hy9, hel⟩
  · simp at e9
    obtain ⟨rfl, rfl, rfl⟩ := e9
    exact ⟨[], TV.nil⟩
  · simp at e9
    obtain ⟨rfl, rfl, rfl⟩ := e9
    simp at hm
    subst hm
    have hroom : m * 24 ≤ 140737488351232 := by
      have hd2 : d = _ := congrArg Prod.fst hy9
      have hs := sized_slice hsz ht (by rw [hd, hd2]) Tryz.underlying50
      rw [bytesTerm] at hs
      simp only [List.length_map, List.length_range, reachBytes] at hs
      omega
    have each : ∀ i, i < m → ∃ t : Tm, W.cell? (ad.add (i * 3)) = some (.int .i64 t.f) ∧ W.cell? (ad.add (i * 3 + 1)) = some (.int .u64 (t.v.toNat : Int)) ∧ W.cell? (ad.add (i * 3 + 2)) = some (.int .u64 (t.m.toNat : Int)) := fun i hi => by
      obtain ⟨cs', q1, q2⟩ := hel i hi
      exact open_term q1 q2
    haveI : Inhabited Tm := ⟨⟨0, 0, 0⟩⟩
    obtain ⟨q, hq⟩ := Deep.choose_lt each
    refine ⟨(List.range len).map q, some ad, len, m, rfl, hl, by simp, by omega, ?_⟩
    by_cases h0 : len = 0
    · exact .inl h0
    · obtain ⟨b, off, spot⟩ := ad
      have hspot : spot = none := by
        have := (hq 0 (by omega)).1
        simpa [Addr.add] using World.cell?_spot this
      subst hspot
      refine .inr ⟨b, off, rfl, fun i t hi => ?_⟩
      rw [List.getElem?_map] at hi
      have hi' : i < len := by
        rcases Nat.lt_or_ge i len with h | h
        · exact h
        · simp [h] at hi
      simp [hi'] at hi
      subst hi
      obtain ⟨r0, r1, r2⟩ := hq i (by omega)
      rw [plain_add3] at r0 r1 r2
      exact ⟨r0, by rw [Nat.add_assoc]; exact r1, by rw [Nat.add_assoc]; exact r2⟩
/-- The three tables as the row lists them. -/
def laid3 {H : Type} : List (String × DataW H) := [("math/bits.deBruijn32tab", Rows.laid_math_bits_deBruijn32tab), ("math/bits.deBruijn64tab", Rows.laid_math_bits_deBruijn64tab), ("internal/strconv.uint64pow10", Rows.laid_internal_strconv_uint64pow10)]
theorem door_met (os : Os) (args : Array Value) : laidMetH Tryz.prog laid3 ((World.doorLaid Tryz.prog 400 os).forCall (fun _ _ => 0) ⟨#[], args, []⟩).memory :=
  laidMetH_of_parts3 (fuel := 8) (laidMet_of_run' 8 (by kernel_rfl) (by kernel_rfl)) (by kernel_rfl) (by kernel_rfl)
def tab64 : List Int := [0, 1, 56, 2, 57, 49, 28, 3, 61, 58, 42, 50, 38, 29, 17, 4, 62, 47, 59, 36, 45, 43, 51, 22, 53, 39, 33, 30, 24, 18, 12, 5, 63, 55, 48, 27, 60, 41, 37, 16, 46, 35, 44, 21, 52, 32, 23, 11, 54, 26, 40, 15, 34, 20, 31, 10, 25, 14, 19, 9, 13, 8, 7, 6]
theorem table_15 {W : World} (h : laidMetH Tryz.prog laid3 W) : W.cell? ⟨2, 15, none⟩ = some (.int .u8 4) := by
  rw [MakeChecks.laidMetH_plain Tryz.prog laid3 W (by kernel_rfl)] at h
  have h2 := laidMet.tail h
  have h3 : Lib.TabIs Tryz.prog W "math/bits.deBruijn64tab" .u8 tab64 := Lib.tabIs_of_head (g := 2) (t := 331) (e := 5) (n := 64) (by kernel_rfl) (by kernel_rfl) Tryz.underlying331 Tryz.underlying5 (by kernel_rfl) (by kernel_rfl) h2
  exact h3.cell (by kernel_rfl) 15 (by decide)
end Go.Proofs.YtnahhmcmahbnkaaGreatDoor
