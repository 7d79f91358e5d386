/- Both ways of numbering keys answer the same: plain facts. No condition. -/
import Derived.Test.YthejehbhjkmeeaaNH
namespace Go.Proofs.Ythejehbhjkmeeaa
open Go.RowKit
/-- Keys of names as a list has them: 0, where it has none. -/
def asIn (l : List Ky) (N : List ByteArray) : List Ky := N.map fun n => ⟨n, (findK l n).getD 0⟩
theorem kept_asIn {old : List Ky} {kind : Int} {rs : List Rw} (h : (old.map (·.n)).Nodup) : keptS old kind rs = asIn old (srt (namesOf kind rs)) := by
  unfold keptS asIn
  apply List.map_congr_left
  intro n hn
  rw [valL_eq (srt_mem.1 hn) h]
theorem asIn_vals {l : List Ky} (h0 : ∀ n v, findK l n = some v → v ≠ 0) : ∀ (N : List ByteArray), ((asIn l N).map (·.v)).filter (· ≠ 0) = keptN l N
  | [] => rfl
  | n :: r => by
    have ih := asIn_vals h0 r
    show (((findK l n).getD 0) :: (asIn l r).map (·.v)).filter (· ≠ 0) = keptN l (n :: r)
    unfold keptN at ih ⊢
    cases hf : findK l n with
    | none => rw [List.filter_cons_of_neg (by simp), List.filterMap_cons_none hf]; exact ih
    | some v => rw [List.filter_cons_of_pos (by simpa using h0 n v hf), List.filterMap_cons_some hf, ih]; rfl
theorem rnum_sub {l : List Ky} : ∀ {N : List ByteArray} {H : List Int} {h : Int}, h ∈ H → h ∈ (rnum l H N).2
  | [], H, h, hh => hh
  | n :: r, H, h, hh => by
    cases hf : findK l n with
    | some v => rw [rnum_some hf]; exact rnum_sub hh
    | none => rw [rnum_none hf]; exact rnum_sub (List.mem_append_left _ hh)
theorem fill_rnum {most : Int} {l : List Ky} (h0 : ∀ n v, findK l n = some v → v ≠ 0) : ∀ (N : List ByteArray) (L : Int) (H : List Int), 0 ≤ L → L ≤ most → (∀ m, 1 ≤ m → m ≤ L → m ∈ H) →
    (∀ x, fill most L H (asIn l N) = some x → rnum l H N = (x.2.2, x.2.1)) ∧ (fill most L H (asIn l N) = none → ∃ h ∈ (rnum l H N).2, most < h)
  | [], L, H, _, _, _ => ⟨fun x h => by simp [asIn, fill] at h; rw [← h]; rfl, fun h => by simp [asIn, fill] at h⟩
  | n :: r, L, H, hL0, hL, hi => by
    have hcons : asIn l (n :: r) = ⟨n, (findK l n).getD 0⟩ :: asIn l r := rfl
    rw [hcons]
    cases hf : findK l n with
    | some v =>
      have hv : ¬ (v = 0) := h0 n v hf
      obtain ⟨i1, i2⟩ := fill_rnum h0 r L H hL0 hL hi
      have e : fill most L H (⟨n, (some v).getD 0⟩ :: asIn l r) = (fill most L H (asIn l r)).map fun x => (x.1, x.2.1, ⟨n, v⟩ :: x.2.2) := by
        show (if v = 0 then _ else _) = _
        rw [if_neg hv]; rfl
      rw [e, rnum_some hf]
      refine ⟨fun x hx => ?_, fun hx => i2 (Option.map_eq_none_iff.1 hx)⟩
      obtain ⟨y, hy, rfl⟩ := Option.map_eq_some_iff.1 hx
      rw [i1 y hy]
    | none =>
      obtain ⟨p1, p2, p3, p4⟩ := leastF_spec H
      have e : fill most L H (⟨n, (none : Option Int).getD 0⟩ :: asIn l r) = match nextN H (most - L).toNat L with
          | none => none
          | some m => (fill most m (H ++ [m]) (asIn l r)).map fun x => (x.1, x.2.1, ⟨n, m⟩ :: x.2.2) := by
        show (if (0 : Int) = 0 then _ else _) = _
        rw [if_pos rfl]
        cases nextN H (most - L).toNat L <;> rfl
      rw [e, rnum_none hf]
      cases hn : nextN H (most - L).toNat L with
      | none =>
        refine ⟨fun x hx => by simp at hx, fun _ => ⟨leastF H, rnum_sub (by simp), ?_⟩⟩
        by_cases hle : leastF H ≤ most
        · exfalso
          by_cases hl : leastF H ≤ L
          · exact p3 (hi _ p1 hl)
          · exact p3 (nextN_none hn _ (by omega) (by omega))
        · omega
      | some m =>
        obtain ⟨q1, q2, q3, q4⟩ := nextN_some hn
        have em : leastF H = m := by
          have a1 : ¬ leastF H < m := fun hlt => p3 (by
            by_cases hl : leastF H ≤ L
            · exact hi _ p1 hl
            · exact q4 _ (by omega) hlt)
          have a2 : ¬ m < leastF H := fun hlt => q3 (p4 m (by omega) hlt)
          omega
        rw [em]
        obtain ⟨i1, i2⟩ := fill_rnum (most := most) h0 r m (H ++ [m]) (by omega) (by omega) (fun k hk1 hk2 => by
          by_cases hl : k ≤ L
          · exact List.mem_append_left _ (hi k hk1 hl)
          · by_cases he : k = m
            · rw [he]; simp
            · exact List.mem_append_left _ (q4 k (by omega) (by omega)))
        dsimp only
        refine ⟨fun x hx => ?_, fun hx => i2 (Option.map_eq_none_iff.1 hx)⟩
        obtain ⟨y, hy, rfl⟩ := Option.map_eq_some_iff.1 hx
        rw [i1 y hy]
theorem right_found {most : Int} {a b : List Ky} (h : Right most a b) : (∀ n v, findK a n = some v → v ≠ 0) ∧ (∀ n v, findK b n = some v → v ≠ 0) :=
  ⟨fun n v hf => by have := h.bd _ (List.mem_append_left _ ((findK_iff (rising_names h.ra)).1 hf)); dsimp only at this; omega, fun n v hf => by have := h.bd _ (List.mem_append_right _ ((findK_iff (rising_names h.rb)).1 hf)); dsimp only at this; omega⟩
theorem pair_eq {most : Int} (hm : 0 ≤ most) {a b : List Ky} (h : Right most a b) (k1 k2 : Int) (rs : List Rw) :
    match accF most (two (keptS a k1 rs) (keptS b k2 rs)) 2 with
    | some x => pairB a b (srt (namesOf k1 rs)) (srt (namesOf k2 rs)) most = true ∧ (pairP a b (srt (namesOf k1 rs)) (srt (namesOf k2 rs))).1 = x.2.2 0 ∧ (pairQ a b (srt (namesOf k1 rs)) (srt (namesOf k2 rs))).1 = x.2.2 1
    | none => pairB a b (srt (namesOf k1 rs)) (srt (namesOf k2 rs)) most = false := by
  obtain ⟨na, nb⟩ := right_names h
  obtain ⟨za, zb⟩ := right_found h
  have hh := kept_half h k1 k2 rs
  have hd := had_two hh
  rw [kept_asIn na, kept_asIn nb] at hd hh ⊢
  generalize srt (namesOf k1 rs) = X at *
  generalize srt (namesOf k2 rs) = Y at *
  rw [List.map_append, List.filter_append, asIn_vals za, asIn_vals zb] at hd
  have hd2 : hadA most (two (asIn a X) (asIn b Y)) 2 = pairH a b X Y := hd
  have hbH : ∀ v ∈ pairH a b X Y, v ≤ most := fun v hv => by
    have : v ∈ ((asIn a X ++ asIn b Y).map (·.v)).filter (· ≠ 0) := by
      rw [List.map_append, List.filter_append, asIn_vals za, asIn_vals zb]; exact hv
    obtain ⟨m1, m2⟩ := List.mem_filter.1 this
    obtain ⟨k, hk, rfl⟩ := List.mem_map.1 m1
    exact ((hh.bd k hk).resolve_left (by simpa using m2)).2
  simp only [accF, Option.bind_some, show two (asIn a X) (asIn b Y) 0 = asIn a X from rfl, show two (asIn a X) (asIn b Y) 1 = asIn b Y from rfl, hd2]
  obtain ⟨i1, i2⟩ := fill_rnum (most := most) za X 0 (pairH a b X Y) (by omega) hm (fun m h1 h2 => by omega)
  have bad : ∀ v, v ∈ (pairQ a b X Y).2 → most < v → pairB a b X Y most = false := fun v hv hlt => by
    unfold pairB
    rw [List.all_eq_false]
    exact ⟨v, hv, by simp; omega⟩
  cases hA : fill most 0 (pairH a b X Y) (asIn a X) with
  | none =>
    obtain ⟨v, hv, hlt⟩ := i2 hA
    simp only [Option.map_none, Option.bind_none]
    exact bad v (rnum_sub hv) hlt
  | some y =>
    have hy := i1 y hA
    have hyl := fill_le (by omega) hm hA
    have hyi := fill_inv (by omega) (fun m h1 h2 => by omega) hA
    obtain ⟨n1, p1, p2, p3, p4⟩ := fill_perm hA
    obtain ⟨j1, j2⟩ := fill_rnum (most := most) zb Y y.1 y.2.1 hyl.1 hyl.2 hyi.1
    have hP : pairP a b X Y = (y.2.2, y.2.1) := hy
    simp only [Option.map_some, Option.bind_some]
    cases hB : fill most y.1 y.2.1 (asIn b Y) with
    | none =>
      obtain ⟨v, hv, hlt⟩ := j2 hB
      simp only [Option.map_none]
      refine bad v ?_ hlt
      unfold pairQ; rw [hP]; exact hv
    | some z =>
      have hz := j1 z hB
      obtain ⟨n2, q1, q2, q3, q4⟩ := fill_perm hB
      have hQ : pairQ a b X Y = (z.2.2, z.2.1) := by unfold pairQ; rw [hP]; exact hz
      simp only [Option.map_some]
      refine ⟨?_, by rw [hP]; rfl, by rw [hQ]; rfl⟩
      unfold pairB
      rw [hQ, List.all_eq_true]
      intro v hv
      rw [q1, p1] at hv
      rcases List.mem_append.1 hv with hv | hv
      · rcases List.mem_append.1 hv with hv | hv
        · exact decide_eq_true (hbH v hv)
        · exact decide_eq_true ((p4 v hv).2.2 (by omega) hm)
      · exact decide_eq_true ((q4 v hv).2.2 hyl.1 hyl.2)
end Go.Proofs.Ythejehbhjkmeeaa
