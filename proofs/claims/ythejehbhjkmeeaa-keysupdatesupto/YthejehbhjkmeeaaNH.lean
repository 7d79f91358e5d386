/- The document's own pair. Conditions: as said. -/
import Derived.Test.YthejehbhjkmeeaaNG
import Derived.OwnWalk
namespace Go.Proofs.Ythejehbhjkmeeaa
open Go.RowKit
theorem rnum_names {l : List Ky} : ∀ {N : List ByteArray} {H : List Int}, (rnum l H N).1.map (·.n) = N
  | [], H => rfl
  | n :: r, H => by
    cases h : findK l n with
    | some v => rw [rnum_some h]; simp [rnum_names]
    | none => rw [rnum_none h]; simp [rnum_names]
theorem rnum_len {l : List Ky} {N : List ByteArray} {H : List Int} : (rnum l H N).1.length = N.length := by
  have := congrArg List.length (rnum_names (l := l) (N := N) (H := H))
  simpa using this
theorem own_rnum {w : World} {B : Nat} {v : Value} {l : List Ky} {N : List ByteArray} {H : List Int} (h : w.ownsRow B 37 2 v (rnum l H N).1.length (rowK (rnum l H N).1)) (hn : N.length ≤ 1034834473201) (hs : ∀ x ∈ N, x.size ≤ maxLen) : KV w v (rnum l H N).1 := by
  refine own_kv h (by rw [rnum_len]; omega) (fun k hk => hs k.n ?_)
  have : k.n ∈ (rnum l H N).1.map (·.n) := List.mem_map_of_mem hk
  rw [rnum_names] at this; exact this
/-- Two lists of one row of numbers. -/
def pairH (a b : List Ky) (X Y : List ByteArray) : List Int := keptN a X ++ keptN b Y
def pairP (a b : List Ky) (X Y : List ByteArray) : List Ky × List Int := rnum a (pairH a b X Y) X
def pairQ (a b : List Ky) (X Y : List ByteArray) : List Ky × List Int := rnum b (pairP a b X Y).2 Y
def pairB (a b : List Ky) (X Y : List ByteArray) (most : Int) : Bool := (pairQ a b X Y).2.all (fun h => decide (h ≤ most))
theorem all_take {p : Int → Bool} {l : List Int} {k : Nat} {o : Int} (h : l[k]? = some o) : (l.take (k + 1)).all p = ((l.take k).all p && p o) := by rw [take_snoc h, List.all_append]; simp
set_option maxRecDepth 20000 in
set_option maxHeartbeats 4000000 in
theorem pair_any (v1 v2 : Value) (a b : List Ky) (x1 : Option Addr) (m1 d1 : Nat) (X : List ByteArray) (x2 : Option Addr) (m2 d2 : Nat) (Y : List ByteArray) (most : Int) (w : World) (h1 : KV w v1 a) (h2 : KV w v2 b) (hX : SS w x1 m1 X) (hY : SS w x2 m2 Y) (hm1 : m1 ≤ 1034834473201) (hm2 : m2 ≤ 1034834473201) (hsX : ∀ x ∈ X, x.size ≤ maxLen) (hsY : ∀ x ∈ Y, x.size ≤ maxLen) :
    Calls Try.prog 21 #[v1, v2, .slice x1 m1 d1, .slice x2 m2 d2, .int .i64 most] w fun e w' => ∃ p q, e = .returned (.tuple #[p, q, .bool (pairB a b X Y most)]) ∧ KV w' p (pairP a b X Y).1 ∧ KV w' q (pairQ a b X Y).1 ∧ Below w.heap.size w w' := by
  obtain ⟨a1, n1, c1, rfl, _, k1⟩ := h1
  obtain ⟨a2, n2, c2, rfl, _, k2⟩ := h2
  have hlX := hX.len
  have hlY := hY.len
  have K1 : Hid _ := k1
  have K2 : Hid _ := k2
  have HX : Hid _ := hX
  have HY : Hid _ := hY
  have SX : Hid _ := hsX
  have SY : Hid _ := hsY
  clear k1 k2 hX hY hsX hsY
  go_enter Try.func21, Try.ntmps21
  go_wp2_with fail
  refine (rkept_any _ _ _ a _ _ _ X _ K1.out HX.out hm1).mono ?_
  rintro e W1 ⟨u1, rfl, o1, hb1⟩
  obtain ⟨s1, t1, rfl, _⟩ := own_form3 o1
  have HB1 : Hid _ := hb1
  have HO1 : Hid _ := o1
  clear hb1 o1
  go_wp2_with fail
  refine (rkept_any _ _ _ b _ _ _ Y _ (K2.out.below HB1.out) (HY.out.below HB1.out) hm2).mono ?_
  rintro e W2 ⟨u2, rfl, o2, hb2⟩
  obtain ⟨s2, t2, rfl, _⟩ := own_form3 o2
  have HB2 : Hid (Below w.heap.size w W2) := HB1.out.trans (hb2.mono HB1.out.size)
  have o1' := own_below HO1.out hb2
  have hl1 := keptN_len a X
  have hl2 := keptN_len b Y
  obtain ⟨s3, t3, W3, r3, o3, g3⟩ := run_append_is _ w.heap.size _ (keptN a X) o1' _ _ t2 (keptN b Y) (own_is o2).1 (by omega) HB2.out.size
  have HB3 : Hid (Below w.heap.size w W3) := HB2.out.grown g3 HB2.out.size (fun q hq => (World.ownsRow.lt o1' q hq).1)
  have HH : Hid (IS W3 s3 ((keptN a X).length + (keptN b Y).length) (pairH a b X Y)) := (own_is o3).1
  obtain ⟨h9, hh9⟩ : ∃ h9, (keptN a X).length + (keptN b Y).length = h9 := ⟨_, rfl⟩
  rw [hh9] at HH r3
  have hle9 : h9 ≤ m1 + m2 := by omega
  have A3 : Hid _ := r3
  clear r3 o3 g3 o1' o2 hb2
  go_wp2_with (first
    | (at_builtin; refine wpList_append_run rfl _ _ 69 rfl _ _ rfl rfl _ A3.out ?_)
    | fail)
  refine (rnumber_any _ _ _ a _ _ _ X _ _ _ (pairH a b X Y) _ (K1.out.below HB3.out) (HX.out.below HB3.out) HH.out hm1 (by omega) SX.out).mono ?_
  rintro e W4 ⟨p4, b4, e4, f4, rfl, o4, i4, l4, hb4⟩
  obtain ⟨s4, t4, rfl, _⟩ := own_form3 o4
  have HB4 : Hid (Below w.heap.size w W4) := HB3.out.trans (hb4.mono HB3.out.size)
  have HP4 : Hid (KV W4 _ (pairP a b X Y).1) := own_rnum o4 (by omega) SX.out
  have HI4 : Hid (IS W4 b4 e4 (pairP a b X Y).2) := i4
  clear hb4 o4 i4
  go_wp2_with fail
  refine (rnumber_any _ _ _ b _ _ _ Y _ _ _ (pairP a b X Y).2 _ (K2.out.below HB4.out) (HY.out.below HB4.out) HI4.out hm2 (by omega) SY.out).mono ?_
  rintro e W5 ⟨p5, b5, e5, f5, rfl, o5, i5, l5, hb5⟩
  obtain ⟨s5, t5, rfl, _⟩ := own_form3 o5
  have HB5 : Hid (Below w.heap.size w W5) := HB4.out.trans (hb5.mono HB4.out.size)
  have HP5 : Hid (KV W5 _ (pairP a b X Y).1) := KV.below HP4.out hb5
  have HQ5 : Hid (KV W5 _ (pairQ a b X Y).1) := own_rnum o5 (by omega) SY.out
  have HI5 : Hid (IS W5 b5 e5 (pairQ a b X Y).2) := i5
  have hlen5 := i5.len
  have hl5 : (pairQ a b X Y).2.length = e5 := i5.len
  obtain ⟨QH, hQH⟩ : ∃ QH, (pairQ a b X Y).2 = QH := ⟨_, rfl⟩
  rw [hQH] at hl5 HI5
  have HPB : Hid (pairB a b X Y most = QH.all (fun h => decide (h ≤ most))) := by show _ = _; unfold pairB; rw [hQH]
  clear hb5 o5 i5 hlen5 hQH
  go_wp2_with fail
  go_loopw [16, 17] (fun ok i wr => ∃ (k : Nat), k ≤ e5 ∧ i = .int .i64 k ∧ ok = .bool ((QH.take k).all (fun h => decide (h ≤ most))) ∧ Hid (Below W5.heap.size W5 wr)) (fun _ i _ => e5 - (intOf i).toNat)
  case atStart => exact ⟨0, by omega, rfl, by simp, Below.refl _ _⟩
  case round =>
    obtain ⟨k, hk, rfl, rfl, HB⟩ := hrel
    by_cases hlt : k < e5
    · have hkI : (k : Int) < e5 := by omega
      obtain ⟨o, ho⟩ := getK (os := QH) (k := k) (by omega)
      obtain ⟨bb, off, rfl, c0, hbl⟩ := (HI5.out.below HB.out).at ho
      have HA : Hid _ := all_take (p := fun h => decide (h ≤ most)) ho
      clear ho
      cases hp : (QH.take k).all (fun h => decide (h ≤ most))
      · rw [hp] at HA
        go_wp2_with fail
        go_roundw
        case rel => exact ⟨k + 1, by omega, by go_num, by rw [HA.out]; rfl, HB⟩
        case measure => simp [intOf]; omega
      · rw [hp] at HA
        go_wp2_with fail
        go_roundw
        case rel => exact ⟨k + 1, by omega, by go_num, by rw [HA.out]; rfl, HB⟩
        case measure => simp [intOf]; omega
    · obtain rfl : e5 = k := by omega
      have HF : Hid ((QH.take e5).all (fun h => decide (h ≤ most)) = pairB a b X Y most) := by show _ = _; rw [HPB.out, List.take_of_length_le (by omega)]
      rw [HF.out]
      go_wp2
      go_ret3
      exact ⟨_, _, rfl, KV.below HP5.out HB.out, KV.below HQ5.out HB.out, HB5.out.trans (HB.out.mono HB5.out.size)⟩
end Go.Proofs.Ythejehbhjkmeeaa
