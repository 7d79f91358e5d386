/- The document's own numbering. Conditions: as said. -/
import Derived.Test.YthejehbhjkmeeaaNF
namespace Go.Proofs.Ythejehbhjkmeeaa
open Go.RowKit
/-- The least number from 1 on that is not among some. -/
def leastF (H : List Int) : Int := (nextN H (H.length + 1) 0).getD 0
theorem leastF_some (H : List Int) : ∃ n, nextN H (H.length + 1) 0 = some n ∧ leastF H = n := by
  cases h : nextN H (H.length + 1) 0 with
  | none =>
    exfalso
    have := count_le (H := H) (n := H.length + 1) (fun m h1 h2 => nextN_none h m (by omega) (by omega))
    omega
  | some n => exact ⟨n, rfl, by unfold leastF; rw [h]; rfl⟩
theorem leastF_spec (H : List Int) : 1 ≤ leastF H ∧ leastF H ≤ H.length + 1 ∧ leastF H ∉ H ∧ ∀ m, 1 ≤ m → m < leastF H → m ∈ H := by
  obtain ⟨n, h1, h2⟩ := leastF_some H
  obtain ⟨q1, q2, q3, q4⟩ := nextN_some h1
  rw [h2]
  exact ⟨by omega, by omega, q3, fun m h3 h4 => q4 m (by omega) h4⟩
/-- Keys of names, with the numbers that were had behind. -/
def rnum (l : List Ky) : List Int → List ByteArray → List Ky × List Int
  | H, [] => ([], H)
  | H, n :: r => match findK l n with
    | some v => (⟨n, v⟩ :: (rnum l H r).1, (rnum l H r).2)
    | none => (⟨n, leastF H⟩ :: (rnum l (H ++ [leastF H]) r).1, (rnum l (H ++ [leastF H]) r).2)
theorem rnum_some {l : List Ky} {H : List Int} {n : ByteArray} {r : List ByteArray} {v : Int} (h : findK l n = some v) : rnum l H (n :: r) = (⟨n, v⟩ :: (rnum l H r).1, (rnum l H r).2) := by
  show (match findK l n with | some v => _ | none => _) = _
  rw [h]
theorem rnum_none {l : List Ky} {H : List Int} {n : ByteArray} {r : List ByteArray} (h : findK l n = none) : rnum l H (n :: r) = (⟨n, leastF H⟩ :: (rnum l (H ++ [leastF H]) r).1, (rnum l (H ++ [leastF H]) r).2) := by
  show (match findK l n with | some v => _ | none => _) = _
  rw [h]
/-- The numbers that are had: as they came in, or a row of one's own. -/
def HadOk (w wr : World) (b : Option Addr) (m d : Nat) (Z : List Int) : Prop := IS w b m Z ∨ (wr.ownsRow w.heap.size 3 1 (.slice b m d) Z.length (Z.map (Value.int .i64)))
theorem HadOk.is {w wr : World} {b : Option Addr} {m d : Nat} {Z : List Int} (h : HadOk w wr b m d Z) (hb : Below w.heap.size w wr) : IS wr b m Z := by
  rcases h with h | h
  · exact h.below hb
  · exact (own_is h).1
theorem HadOk.below {w wr wr' : World} {b : Option Addr} {m d : Nat} {Z : List Int} (h : HadOk w wr b m d Z) (hb : Below wr.heap.size wr wr') : HadOk w wr' b m d Z := by
  rcases h with h | h
  · exact .inl h
  · exact .inr (own_below h hb)
theorem HadOk.grow {w wr wr' : World} {b : Option Addr} {m d : Nat} {Z : List Int} {v : Value} {n : Nat} {xs : List Value} (h : HadOk w wr b m d Z) (ho : wr.ownsRow w.heap.size 37 2 v n xs) (hg : wr.grownBy wr' v.ownBlock) : HadOk w wr' b m d Z := by
  rcases h with h | h
  · exact .inl h
  · refine .inr ⟨h.1, ?_⟩
    rcases h.2 with h' | ⟨g, cap, cur, e1, e2, e3, e4⟩
    · exact .inl h'
    · refine .inr ⟨g, cap, cur, e1, e2, (hg.block g (lt_of_heap e3) (fun e => ?_)).trans e3, e4⟩
      obtain ⟨cur', hc⟩ := own_type ho e.symm
      rw [e3] at hc
      simp at hc
set_option maxRecDepth 20000 in
set_option maxHeartbeats 4000000 in
theorem rnumber_any (a : Option Addr) (n c : Nat) (ks : List Ky) (a2 : Option Addr) (n2 c2 : Nat) (N : List ByteArray) (a3 : Option Addr) (n3 c3 : Nat) (H : List Int) (w : World) (hK : KS w a n ks) (hN : SS w a2 n2 N) (hH : IS w a3 n3 H) (hn : n2 ≤ 1034834473201) (hn3 : n3 ≤ 4034834473201) (hsh : ∀ x ∈ N, x.size ≤ maxLen) :
    Calls Try.prog 30 #[.slice a n c, .slice a2 n2 c2, .slice a3 n3 c3] w fun e w' => ∃ v b m d, e = .returned (.tuple #[v, .slice b m d]) ∧ w'.ownsRow w.heap.size 37 2 v (rnum ks H N).1.length (rowK (rnum ks H N).1) ∧ IS w' b m (rnum ks H N).2 ∧ m ≤ n3 + n2 ∧ Below w.heap.size w w' := by
  have hl := hN.len
  have HK : Hid _ := hK
  have HN : Hid _ := hN
  have HSH : Hid _ := hsh
  have HI : Hid _ := hH
  clear hK hN hsh hH
  go_enter Try.func30, Try.ntmps30
  go_wp2_with fail
  go_loopw [2, 8, 9] (fun had out i wr => ∃ (k : Nat) (O : List Ky) (Z : List Int) (a' : Option Addr) (c' : Nat) (b' : Option Addr) (m' d' : Nat), k ≤ n2 ∧ i = .int .i64 k ∧ out = .slice a' k c' ∧ O.length = k ∧ had = .slice b' m' d' ∧ m' ≤ n3 + k ∧ Hid (rnum ks H N = (O ++ (rnum ks Z (N.drop k)).1, (rnum ks Z (N.drop k)).2)) ∧ Hid (wr.ownsRow w.heap.size 37 2 (.slice a' k c') O.length (rowK O)) ∧ Hid (HadOk w wr b' m' d' Z) ∧ Hid (Below w.heap.size w wr)) (fun _ _ i _ => n2 - (intOf i).toNat)
  case atStart => exact ⟨0, [], H, none, 0, a3, n3, c3, by omega, rfl, rfl, rfl, rfl, by omega, (by show _ = _; simp), ⟨rfl, .inl ⟨rfl, rfl⟩⟩, .inl HI.out, Below.refl _ _⟩
  case round =>
    obtain ⟨k, O, Z, a', c', b', m', d', hk, rfl, rfl, hO, rfl, hm', HQ, HO, HZ, HB⟩ := hrel
    by_cases hlt : k < n2
    · have hkI : (k : Int) < n2 := by omega
      obtain ⟨nm, hnm⟩ := getK (os := N) (k := k) (by omega)
      obtain ⟨b, off, rfl, c0, hbl⟩ := (HN.out.below HB.out).at hnm
      have HD : Hid _ := drop_cons hnm
      have HSZ : Hid _ := HSH.out nm (List.mem_of_getElem? hnm)
      clear hnm
      go_wp2_with fail
      refine (rfind_any _ _ _ ks nm _ (HK.out.below HB.out)).mono ?_
      rintro e W1 ⟨rfl, hb1⟩
      have HB1 : Hid (Below w.heap.size w W1) := HB.out.trans (hb1.mono HB.out.size)
      have HO1 : Hid (W1.ownsRow w.heap.size 37 2 (.slice a' k c') O.length (rowK O)) := own_below HO.out hb1
      have HZ1 : Hid (HadOk w W1 b' m' d' Z) := HadOk.below HZ.out hb1
      have c1 := (hb1.cell (p := ⟨b, off + k, none⟩) hbl).trans c0
      have hbl1 : b < W1.heap.size := Nat.lt_of_lt_of_le hbl hb1.size
      clear hb1 c0 hbl
      cases hf : findK ks nm with
      | some v =>
        rw [show findV ks nm = .tuple #[.int .i64 v, .bool true] from by unfold findV; rw [hf]]
        have HQ2 : Hid (rnum ks H N = ((O ++ [⟨nm, v⟩]) ++ (rnum ks Z (N.drop (k + 1))).1, (rnum ks Z (N.drop (k + 1))).2)) := by show _ = _; rw [HQ.out, HD.out, rnum_some hf]; simp
        have hx1 : (W1.alloc (.cells #[.string nm, .int .i64 v] 37)).ownsRow w.heap.size 37 2 (.slice a' k c') O.length (rowK O) := own_below HO1.out (below1 _ _)
        obtain ⟨a5, c5, w5, hap, hrow5, hgr5⟩ := run_append_ks _ w.heap.size _ O hx1 _ 1 1 [⟨nm, v⟩] (ks_one W1 ⟨nm, v⟩ HSZ.out) (by omega) (by have := HB1.out.size; simp; omega)
        have HB5 : Hid (Below w.heap.size w w5) := (HB1.out.alloc HB1.out.size _).grown hgr5 (by have := HB1.out.size; simp; omega) (fun q hq => (World.ownsRow.lt hx1 q hq).1)
        have HZ5 : Hid (HadOk w w5 b' m' d' Z) := HadOk.grow (HadOk.below HZ1.out (below1 _ _)) hx1 hgr5
        rw [hO] at hap hrow5
        have HAP : Hid _ := hap
        have HR5 : Hid (w5.ownsRow w.heap.size 37 2 (.slice a5 (k + 1) c5) (O ++ [(⟨nm, v⟩ : Ky)]).length (rowK (O ++ [⟨nm, v⟩]))) := hrow5
        clear hf hx1 hap hrow5 hgr5
        go_wp2_with (first
          | (at_builtin; refine wpList_append_run rfl _ _ 22 rfl _ _ rfl rfl _ HAP.out ?_)
          | fail)
        go_roundw
        case rel => exact ⟨k + 1, O ++ [(⟨nm, v⟩ : Ky)], Z, a5, c5, b', m', d', by omega, by go_num, rfl, by simp [hO], rfl, by omega, HQ2, HR5, HZ5, HB5⟩
        case measure => simp [intOf]; omega
      | none =>
        rw [show findV ks nm = .tuple #[.int .i64 0, .bool false] from by unfold findV; rw [hf]]
        have HQ2 : Hid (rnum ks H N = ((O ++ [⟨nm, leastF Z⟩]) ++ (rnum ks (Z ++ [leastF Z]) (N.drop (k + 1))).1, (rnum ks (Z ++ [leastF Z]) (N.drop (k + 1))).2)) := by show _ = _; rw [HQ.out, HD.out, rnum_none hf]; simp
        obtain ⟨q1, q2, q3, q4⟩ := leastF_spec Z
        have HQ3 : Hid _ := q3
        have HQ4 : Hid _ := q4
        have hzl := (HadOk.is HZ1.out HB1.out).len
        obtain ⟨lf, hlf⟩ : ∃ lf, leastF Z = lf := ⟨_, rfl⟩
        have HLF : Hid _ := hlf
        rw [hlf] at HQ2 q1 q2 HQ3 HQ4
        clear hf q3 q4 hlf
        go_wp2_with fail
        rename World => wo
        go_loopw [10] (fun i wr => ∃ j : Int, i = .int .i64 j ∧ 1 ≤ j ∧ j ≤ lf ∧ Hid (Below wo.heap.size wo wr)) (fun i _ => (lf - intOf i).toNat)
        case atStart => exact ⟨1, rfl, by omega, q1, Below.refl _ _⟩
        case round =>
          obtain ⟨j, rfl, hj1, hj2, HB2⟩ := hrel
          have HBW : Hid (Below w.heap.size w wr) := HB1.out.trans (HB2.out.mono HB1.out.size)
          have HZ2 : Hid (HadOk w wr b' m' d' Z) := HadOk.below HZ1.out HB2.out
          have HO2 : Hid (wr.ownsRow w.heap.size 37 2 (.slice a' k c') O.length (rowK O)) := own_below HO1.out HB2.out
          go_wp2_with fail
          refine (has_any _ _ _ Z j _ (HadOk.is HZ2.out HBW.out) (by omega)).mono ?_
          rintro e W3 ⟨rfl, hb3⟩
          by_cases hjl : j = lf
          · rw [show decide (j ∈ Z) = false from decide_eq_false (by rw [hjl]; exact HQ3.out)]
            have HB3 : Hid (Below w.heap.size w W3) := HBW.out.trans (hb3.mono HBW.out.size)
            have HZ3 : Hid (HadOk w W3 b' m' d' Z) := HadOk.below HZ2.out hb3
            have HO3 : Hid (W3.ownsRow w.heap.size 37 2 (.slice a' k c') O.length (rowK O)) := own_below HO2.out hb3
            have c3' : W3.cell? ⟨b, off + k, none⟩ = some (.string nm) := ((HB2.out.trans (hb3.mono HB2.out.size)).cell (p := ⟨b, off + k, none⟩) hbl1).trans c1
            have hIS : IS (W3.alloc (.cells #[] 3)) b' m' Z := (HadOk.is HZ3.out HB3.out).below (below1 _ _)
            obtain ⟨e5, f5, V5, r5, o5, g5⟩ := run_append_is _ W3.heap.size _ [] (empty_i W3 W3.heap.size (Nat.le_refl _)) b' m' d' Z hIS (by simp; omega) (by simp)
            simp only [List.length_nil, Nat.zero_add, List.nil_append] at r5 o5
            have B5 : Below W3.heap.size W3 V5 := (below1 _ _).grown g5 (by simp) (fun q hq => (World.ownsRow.lt (empty_i W3 W3.heap.size (Nat.le_refl _)) q hq).1)
            have o5' : (V5.alloc (.cells #[.int .i64 lf] 3)).ownsRow W3.heap.size 3 1 (.slice e5 m' f5) Z.length (Z.map (Value.int .i64)) := own_below o5 (below1 _ _)
            obtain ⟨e6, f6, V6, r6, o6, g6⟩ := run_append_is _ W3.heap.size _ Z o5' _ 1 1 [lf] (is_one V5 lf) (by omega) (by have := B5.size; simp; omega)
            have B6 : Below W3.heap.size W3 V6 := (B5.alloc B5.size _).grown g6 (by have := B5.size; simp; omega) (fun q hq => (World.ownsRow.lt o5' q hq).1)
            rw [hzl] at r6 o6
            have HO6 := own_below HO3.out B6
            have HZ6 : HadOk w V6 e6 (m' + 1) f6 (Z ++ [lf]) := .inr (own_base o6 HB3.out.size)
            have BW6 : Below w.heap.size w V6 := HB3.out.trans (B6.mono HB3.out.size)
            have hx1 : (V6.alloc (.cells #[.string nm, .int .i64 lf] 37)).ownsRow w.heap.size 37 2 (.slice a' k c') O.length (rowK O) := own_below HO6 (below1 _ _)
            obtain ⟨a7, c7, w7, hap, hrow7, hgr7⟩ := run_append_ks _ w.heap.size _ O hx1 _ 1 1 [⟨nm, lf⟩] (ks_one V6 ⟨nm, lf⟩ HSZ.out) (by omega) (by have := BW6.size; simp; omega)
            have HB7 : Hid (Below w.heap.size w w7) := (BW6.alloc BW6.size _).grown hgr7 (by have := BW6.size; simp; omega) (fun q hq => (World.ownsRow.lt hx1 q hq).1)
            have HZ7 : Hid (HadOk w w7 e6 (m' + 1) f6 (Z ++ [lf])) := HadOk.grow (HadOk.below HZ6 (below1 _ _)) hx1 hgr7
            rw [hO] at hap hrow7
            have c6 : V6.cell? ⟨b, off + k, none⟩ = some (.string nm) := (B6.cell (p := ⟨b, off + k, none⟩) (cell_lt c3')).trans c3'
            have A5 : Hid _ := r5
            have A6 : Hid _ := r6
            have A7 : Hid _ := hap
            have HR7 : Hid (w7.ownsRow w.heap.size 37 2 (.slice a7 (k + 1) c7) (O ++ [(⟨nm, lf⟩ : Ky)]).length (rowK (O ++ [⟨nm, lf⟩]))) := hrow7
            clear hb3 hIS r5 o5 g5 B5 o5' r6 o6 g6 B6 HO6 HZ6 BW6 hx1 hap hrow7 hgr7 c3'
            rw [hjl]
            clear hjl hj1 hj2
            go_wp2_with (first
              | (at_builtin; refine wpList_append_run rfl _ _ 69 rfl _ _ rfl rfl _ A5.out ?_)
              | (at_builtin; refine wpList_append_run rfl _ _ 69 rfl _ _ rfl rfl _ A6.out ?_)
              | (at_builtin; refine wpList_append_run rfl _ _ 22 rfl _ _ rfl rfl _ A7.out ?_)
              | fail)
            go_roundw
            case rel => exact ⟨k + 1, O ++ [(⟨nm, lf⟩ : Ky)], Z ++ [lf], a7, c7, e6, m' + 1, f6, by omega, by go_num, rfl, by simp [hO], rfl, by omega, HQ2, HR7, HZ7, HB7⟩
            case measure => simp [intOf]; omega
          · rw [show decide (j ∈ Z) = true from decide_eq_true (HQ4.out j hj1 (by omega))]
            have HB3 : Hid (Below wo.heap.size wo W3) := HB2.out.trans (hb3.mono HB2.out.size)
            have hw1 : IntKind.i64.wrap (j + 1) = j + 1 := by simp [IntKind.wrap, IntKind.bits, IntKind.signed]; omega
            clear hb3
            go_wp2_with fail
            go_roundw
            case rel => exact ⟨j + 1, rfl, by omega, by omega, HB3⟩
            case measure => simp [intOf]; omega
    · obtain rfl : n2 = k := by omega
      have HF : Hid (rnum ks H N = (O, Z)) := by show _ = _; rw [HQ.out, List.drop_of_length_le (by omega)]; simp [rnum]
      go_wp2
      go_ret2
      refine ⟨_, _, _, _, rfl, ?_, ?_, hm', HB.out⟩
      · rw [HF.out]; exact HO.out
      · rw [HF.out]; exact HadOk.is HZ.out HB.out
end Go.Proofs.Ythejehbhjkmeeaa
