/- How many numbers there are: plain facts. No condition. -/
import Derived.Test.YthejehbhjkmeeaaKX
namespace Go.Proofs.Ythejehbhjkmeeaa
open Go.RowKit
theorem len_sub : ∀ {l H : List Int}, l.Nodup → (∀ x ∈ l, x ∈ H) → l.length ≤ H.length
  | [], _, _, _ => Nat.zero_le _
  | a :: l, H, hn, hs => by
    rw [List.nodup_cons] at hn
    have ha := hs a (by simp)
    have := len_sub (l := l) (H := H.erase a) hn.2 (fun x hx => (List.mem_erase_of_ne (fun e => hn.1 (by rw [← e]; exact hx))).2 (hs x (by simp [hx])))
    rw [List.length_erase_of_mem ha] at this
    have h0 : 0 < H.length := List.length_pos_of_mem ha
    simp only [List.length_cons]; omega
theorem count_le {H : List Int} {n : Nat} (h : ∀ m : Int, 1 ≤ m → m ≤ n → m ∈ H) : n ≤ H.length := by
  have := len_sub (l := (List.range n).map (fun i : Nat => (i : Int) + 1)) (H := H) ?_ ?_
  · simpa using this
  · rw [List.nodup_iff_pairwise_ne, List.pairwise_map]
    exact List.nodup_range.imp (fun hne e => hne (by omega))
  · intro x hx
    obtain ⟨i, hi, rfl⟩ := List.mem_map.1 hx
    have := List.mem_range.1 hi
    exact h _ (by omega) (by omega)
theorem fill_none {most : Nat} : ∀ {ks : List Ky} {L : Int} {H : List Int}, 0 ≤ L → L ≤ most → (∀ m, 1 ≤ m → m ≤ L → m ∈ H) → fill most L H ks = none → most < H.length + ks.length
  | [], L, H, _, _, _, h => by simp [fill] at h
  | k :: r, L, H, h0, hL, hi, h => by
    unfold fill at h
    split at h
    · split at h
      · rename_i hn
        have hc := count_le (H := H) (n := most) (fun m h1 h2 => by
          by_cases hm : m ≤ L
          · exact hi m h1 hm
          · exact nextN_none hn m (by omega) (by omega))
        simp only [List.length_cons]; omega
      · rename_i n hn
        obtain ⟨q1, q2, q3, q4⟩ := nextN_some hn
        have := fill_none (by omega) (by omega) (fun m h1 h2 => by
          by_cases hm : m ≤ L
          · exact List.mem_append_left _ (hi m h1 hm)
          · by_cases he : m = n
            · rw [he]; simp
            · exact List.mem_append_left _ (q4 m (by omega) (by omega))) (Option.map_eq_none_iff.1 h)
        simp only [List.length_append, List.length_cons, List.length_nil] at this ⊢; omega
    · have := fill_none h0 hL hi (Option.map_eq_none_iff.1 h)
      simp only [List.length_cons]; omega
theorem fill_inv {most : Int} : ∀ {ks : List Ky} {L : Int} {H : List Int} {x : Int × List Int × List Ky}, 0 ≤ L → (∀ m, 1 ≤ m → m ≤ L → m ∈ H) → fill most L H ks = some x → (∀ m, 1 ≤ m → m ≤ x.1 → m ∈ x.2.1) ∧ x.2.1.length ≤ H.length + ks.length
  | [], L, H, x, _, hi, h => by simp [fill] at h; rw [← h]; exact ⟨hi, by simp⟩
  | k :: r, L, H, x, h0, hi, h => by
    unfold fill at h
    split at h
    · split at h
      · cases h
      · rename_i n hn
        obtain ⟨y, hy, rfl⟩ := Option.map_eq_some_iff.1 h
        obtain ⟨q1, q2, q3, q4⟩ := nextN_some hn
        have := fill_inv (x := y) (by omega) (fun m h1 h2 => by
          by_cases hm : m ≤ L
          · exact List.mem_append_left _ (hi m h1 hm)
          · by_cases he : m = n
            · rw [he]; simp
            · exact List.mem_append_left _ (q4 m (by omega) (by omega))) hy
        refine ⟨this.1, ?_⟩
        have h2 := this.2
        simp only [List.length_append, List.length_cons, List.length_nil] at h2 ⊢; omega
    · obtain ⟨y, hy, rfl⟩ := Option.map_eq_some_iff.1 h
      have := fill_inv (x := y) h0 hi hy
      refine ⟨this.1, ?_⟩
      have h2 := this.2
      simp only [List.length_cons] at h2 ⊢; omega
theorem accF_full {most : Nat} {a b : List Ky} (ha : ∀ k ∈ a, k.v = 0) (hb : ∀ k ∈ b, k.v = 0) (h : accF most (two a b) 2 = none) : most < a.length + b.length := by
  have hz : ((a ++ b).map (·.v)).filter (· ≠ 0) = [] := by
    rw [List.filter_eq_nil_iff]
    intro v hv
    obtain ⟨k, hk, rfl⟩ := List.mem_map.1 hv
    rcases List.mem_append.1 hk with hk | hk
    · simp [ha k hk]
    · simp [hb k hk]
  have hh : Half most a b := ⟨fun k hk => by
    rcases List.mem_append.1 hk with hk | hk
    · exact .inl (ha k hk)
    · exact .inl (hb k hk), by rw [hz]; simp⟩
  have hd := had_two hh
  rw [hz] at hd
  simp only [accF, Option.bind_some, show two a b 0 = a from rfl, show two a b 1 = b from rfl, hd] at h
  cases h1 : fill most 0 [] a with
  | none =>
    have := fill_none (most := most) (L := 0) (H := []) (by omega) (by omega) (fun m h1 h2 => by omega) h1
    simp at this; omega
  | some y =>
    rw [h1] at h
    simp only [Option.map_some, Option.bind_some] at h
    have h2 := Option.map_eq_none_iff.1 h
    have hi := fill_inv (L := 0) (H := []) (by omega) (fun m h1 h2 => by omega) h1
    have hl := fill_le (most := most) (by omega) (by omega) h1
    have := fill_none (most := most) hl.1 hl.2 hi.1 h2
    have h3 := hi.2
    simp at h3; omega
theorem valL_nil (D : List ByteArray) (n : ByteArray) : valL D [] n = 0 := rfl
theorem kept_zero {kind : Int} {rs : List Rw} : ∀ k ∈ keptS [] kind rs, k.v = 0 := by
  intro k hk
  unfold keptS at hk
  obtain ⟨n, _, rfl⟩ := List.mem_map.1 hk
  rfl
theorem names_two {k1 k2 : Int} (h : k1 ≠ k2) (rs : List Rw) : (namesOf k1 rs).length + (namesOf k2 rs).length ≤ rs.length := by
  unfold namesOf
  suffices hq : ∀ (rs : List Rw) (D E : List ByteArray), (rs.foldl (fun D r => if r.k = k1 then addN D r.n else D) D).length + (rs.foldl (fun D r => if r.k = k2 then addN D r.n else D) E).length ≤ D.length + E.length + rs.length by simpa using hq rs [] []
  have hadd : ∀ (D : List ByteArray) (n : ByteArray), (addN D n).length ≤ D.length + 1 := fun D n => by unfold addN; split <;> simp
  intro rs
  induction rs with
  | nil => intro D E; simp
  | cons r t ih =>
    intro D E
    rw [List.foldl_cons, List.foldl_cons]
    have := ih (if r.k = k1 then addN D r.n else D) (if r.k = k2 then addN E r.n else E)
    have h1 := hadd D r.n
    have h2 := hadd E r.n
    by_cases e1 : r.k = k1
    · have e2 : ¬ r.k = k2 := fun e => h (by rw [← e1, e])
      rw [if_pos e1, if_neg e2] at this ⊢
      simp only [List.length_cons]; omega
    · by_cases e2 : r.k = k2
      · rw [if_neg e1, if_pos e2] at this ⊢
        simp only [List.length_cons]; omega
      · rw [if_neg e1, if_neg e2] at this ⊢
        simp only [List.length_cons]; omega
theorem kept_len (old : List Ky) (kind : Int) (rs : List Rw) : (keptS old kind rs).length = (namesOf kind rs).length := by unfold keptS; rw [List.length_map, srt_length]
theorem upd_full {rs : List Rw} (h : updS [] [] [] [] rs = none) : 65535 < rs.length := by
  unfold updS at h
  rw [if_pos (by decide)] at h
  cases h1 : accF 16777215 (two (keptS [] 1 rs) (keptS [] 3 rs)) 2 with
  | none =>
    have := accF_full (most := 16777215) kept_zero kept_zero h1
    rw [kept_len, kept_len] at this
    have h2 := names_two (k1 := 1) (k2 := 3) (by decide) rs
    omega
  | some x =>
    rw [h1] at h
    simp only [Option.bind_some] at h
    have := accF_full (most := 65535) kept_zero kept_zero (Option.map_eq_none_iff.1 h)
    rw [kept_len, kept_len] at this
    have h2 := names_two (k1 := 2) (k2 := 4) (by decide) rs
    omega
theorem nameK_of : ∀ {ks : List Ky}, (ks.map (·.v)).Nodup → ∀ {k : Ky}, k ∈ ks → nameK ks k.v = some k.n
  | [], _, k, hk => by simp at hk
  | y :: r, hn, k, hk => by
    rw [List.map_cons, List.nodup_cons] at hn
    show (if y.v = k.v then some y.n else nameK r k.v) = _
    rcases List.mem_cons.1 hk with e | hk
    · rw [e, if_pos rfl]
    · rw [if_neg (fun e => hn.1 (by rw [e]; exact List.mem_map_of_mem hk))]
      exact nameK_of hn.2 hk
theorem upd_lens {a b c d : List Ky} {rs : List Rw} {x : List Ky × List Ky × List Ky × List Ky} (h : updS a b c d rs = some x) : x.1.length + x.2.1.length ≤ rs.length ∧ x.2.2.1.length + x.2.2.2.length ≤ rs.length := by
  obtain ⟨_, p, q, hp, hq, rfl⟩ := updS_some h
  have np := accF_names hp
  have nq := accF_names hq
  have l1 := congrArg List.length np.1
  have l2 := congrArg List.length np.2
  have l3 := congrArg List.length nq.1
  have l4 := congrArg List.length nq.2
  simp only [List.length_map, kept_len] at l1 l2 l3 l4
  have h1 := names_two (k1 := 1) (k2 := 3) (by decide) rs
  have h2 := names_two (k1 := 2) (k2 := 4) (by decide) rs
  dsimp only
  omega
end Go.Proofs.Ythejehbhjkmeeaa
