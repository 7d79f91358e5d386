/- KeysUpdates where what it reads is of bulk at most 1048576: what Update of package keys answers for any keys and any rows that come and go, again and again, is what the document says. -/
import Derived.Test.YthejehbhjkmeeaaKT
import Derived.Test.YthejehbhjkmeeaaNL
import Derived.Deep.CondSized
namespace Go.Proofs.Ythejehbhjkmeeaa
open Go.ChangeShapes Go.WideShapes Go.ChangeAt Go.RowKit
theorem bulk_len {H : Type} (l : List (DataW H)) : l.length ≤ Rows.uptoBulkAll l := by
  induction l with
  | nil => simp [Rows.uptoBulkAll]
  | cons x r ih =>
    have h1 : 1 ≤ Rows.uptoBulk x := by
      cases x with
      | lit l => cases l <;> simp [Rows.uptoBulk]
      | nil => simp [Rows.uptoBulk]
      | ptr d => simp [Rows.uptoBulk]
      | slice elems spare => simp [Rows.uptoBulk]
      | agg parts => simp [Rows.uptoBulk]
      | iface t d => simp [Rows.uptoBulk]
      | map entries => simp [Rows.uptoBulk]
      | held h => simp [Rows.uptoBulk]
    simp only [Rows.uptoBulkAll, List.length_cons]
    omega
theorem ks_bulk {H : Type} {enc : TypeId × Value → H} {W : World} {fuel : Nat} {a : Option Addr} {n c : Nat} {y : DataW H × List MemPlace} (h : DataW.trod enc Try.prog W 0 (fun _ => true) true fuel 22 [.slice a n c] = some y) : n ≤ Rows.uptoBulk y.1 := by
  rcases Deep.open_slice Try.underlying22 h with ⟨e9, _⟩ | ⟨ad, len, cap, m, k, D, Pl, e9, _, hl, hmx, hm, hy9, hel⟩
  · simp at e9
    obtain ⟨rfl, rfl, rfl⟩ := e9
    exact Nat.zero_le _
  · simp at e9
    obtain ⟨rfl, rfl, rfl⟩ := e9
    rw [hy9]
    have := bulk_len (H := H) ((List.range n).map D)
    simp only [List.length_map, List.length_range] at this
    simp only [Rows.uptoBulk]
    omega
set_option maxRecDepth 20000 in
theorem open_few {H : Type} {enc : TypeId × Value → H} {W : World} {v : Value} {d : DataW H} {p : List MemPlace} {r : Reach} {base : Nat} {ts : List TypeId} {ds : List (DataW H)} (j : Nat)
    (hv : Value.okWide Try.prog W r base 24 v) (h : DataW.Trod enc Try.prog W 0 (fun _ => true) true 24 v d p) (hsz : (DataW.weightsEach Try.prog ts ds).all (· ≤ reachBytes) = true) (ht : ts[j]? = some 24) (hd : ds[j]? = some d) (hk : Rows.uptoBulk d ≤ 1048576) :
    ∃ v1 v2 v3 v4 A B C D, v = .agg #[v1, v2, v3, v4] ∧ KV W v1 A ∧ KV W v2 B ∧ KV W v3 C ∧ KV W v4 D ∧ Few A B C D := by
  obtain ⟨v1, v2, v3, v4, A, B, C, D, rfl, k1, k2, k3, k4⟩ := open_keysv j hv h hsz ht hd
  obtain ⟨a1, n1, c1, rfl, l1, q1⟩ := k1
  obtain ⟨a2, n2, c2, rfl, l2, q2⟩ := k2
  obtain ⟨a3, n3, c3, rfl, l3, q3⟩ := k3
  obtain ⟨a4, n4, c4, rfl, l4, q4⟩ := k4
  obtain ⟨fuel, hf⟩ := h
  obtain ⟨xs, n, _, hx, _, hlen, hx2⟩ := DataW.trod_struct Try.underlying24 hf
  match xs, hlen with
  | [y0, y1, y2, y3], _ =>
    have hd2 : d = .agg [y0.1, y1.1, y2.1, y3.1] := by
      have := congrArg Prod.fst hx
      simpa using this
    have g0 : DataW.trod enc Try.prog W 0 (fun _ => true) true n 22 (([Value.slice a1 n1 c1, .slice a2 n2 c2, .slice a3 n3 c3, .slice a4 n4 c4].drop 0).take (Try.prog.cellsOf 22)) = some y0 := hx2 0 _ rfl
    have g1 : DataW.trod enc Try.prog W 0 (fun _ => true) true n 22 (([Value.slice a1 n1 c1, .slice a2 n2 c2, .slice a3 n3 c3, .slice a4 n4 c4].drop 1).take (Try.prog.cellsOf 22)) = some y1 := hx2 1 _ rfl
    have g2 : DataW.trod enc Try.prog W 0 (fun _ => true) true n 22 (([Value.slice a1 n1 c1, .slice a2 n2 c2, .slice a3 n3 c3, .slice a4 n4 c4].drop 2).take (Try.prog.cellsOf 22)) = some y2 := hx2 2 _ rfl
    have g3 : DataW.trod enc Try.prog W 0 (fun _ => true) true n 22 (([Value.slice a1 n1 c1, .slice a2 n2 c2, .slice a3 n3 c3, .slice a4 n4 c4].drop 3).take (Try.prog.cellsOf 22)) = some y3 := hx2 3 _ rfl
    rw [cellsSl] at g0 g1 g2 g3
    have b0 := ks_bulk g0
    have b1 := ks_bulk g1
    have b2 := ks_bulk g2
    have b3 := ks_bulk g3
    rw [hd2] at hk
    simp only [Rows.uptoBulk, Rows.uptoBulkAll] at hk
    have e1 := q1.len
    have e2 := q2.len
    have e3 := q3.len
    have e4 := q4.len
    exact ⟨_, _, _, _, A, B, C, D, rfl, ⟨a1, n1, c1, rfl, l1, q1⟩, ⟨a2, n2, c2, rfl, l2, q2⟩, ⟨a3, n3, c3, rfl, l3, q3⟩, ⟨a4, n4, c4, rfl, l4, q4⟩, by omega, by omega⟩
theorem all_mem {H : Type} {e : TypeId} : ∀ {l : List (DataW H)} {d : DataW H}, d ∈ l → ∀ x ∈ DataW.weights Try.prog e d, x ∈ DataW.weightsAll Try.prog e l
  | [], d, h, _, _ => by simp at h
  | y :: r, d, h, x, hx => by
    simp only [DataW.weightsAll, List.mem_append]
    rcases List.mem_cons.1 h with e' | h
    · exact .inl (by rw [← e']; exact hx)
    · exact .inr (all_mem h x hx)
theorem bytes31 : Try.prog.bytesOf 31 = 24 := by kernel_rfl
theorem cells31 : Try.prog.cellsOf 31 = 1 := by kernel_rfl
set_option maxRecDepth 20000 in
theorem open_rl {H : Type} {enc : TypeId × Value → H} {W : World} {v : Value} {d : DataW H} {p : List MemPlace} {r : Reach} {base : Nat} {ts : List TypeId} {ds : List (DataW H)} (j : Nat)
    (hv : Value.okWide Try.prog W r base 25 v) (h : DataW.Trod enc Try.prog W 0 (fun _ => true) true 25 v d p) (hsz : (DataW.weightsEach Try.prog ts ds).all (· ≤ reachBytes) = true) (ht : ts[j]? = some 25) (hd : ds[j]? = some d) :
    ∃ a n c l, v = .slice a n c ∧ RL W a n l := by
  obtain ⟨a, len, cap, rfl⟩ := okWide_slice Try.underlying25 hv
  obtain ⟨fuel, hf⟩ := h
  have hw := weights_arg hsz ht hd
  have hf' : DataW.trod enc Try.prog W 0 (fun _ => true) true fuel 25 [.slice a len cap] = some (d, p) := hf
  rcases Deep.open_slice1 Try.underlying25 cells31 hf' with ⟨e9, _⟩ | ⟨ad, len', cap', m, k, V, D, Pl, e9, _, hl, hmx, hm, hy9, hel⟩
  · simp at e9
    obtain ⟨rfl, rfl, rfl⟩ := e9
    exact ⟨none, 0, 0, [], rfl, rfl, by omega, by simp⟩
  · simp at e9
    obtain ⟨rfl, rfl, rfl⟩ := e9
    simp at hm
    subst hm
    have hd2 : d = .slice ((List.range len).map D) ((List.range (m - len)).map fun j => D (len + j)) := congrArg Prod.fst hy9
    have each : ∀ i, i < len → ∃ l : List Rw, ∃ b off a' n' c', ad = ⟨b, off, none⟩ ∧ W.cell? ⟨b, off + i, none⟩ = some (.slice a' n' c') ∧ n' ≤ c' ∧ RS W a' n' l := fun i hi => by
      obtain ⟨q1, q2⟩ := hel i (by omega)
      obtain ⟨a', n', c', l, e', hle, hrs, _⟩ := open_rs q2 (fun x hx => hw x (by
        rw [hd2]
        simp only [DataW.weights, Try.underlying25]
        have hm : D i ∈ (List.range len).map D := List.mem_map.2 ⟨i, List.mem_range.2 hi, rfl⟩
        have := all_mem hm x hx
        simp [this]))
      have q0 := (hel 0 (by omega)).1
      obtain ⟨b, off, spot⟩ := ad
      have hspot : spot = none := by simpa [Addr.add] using World.cell?_spot q0
      subst hspot
      rw [plain_add3] at q1
      exact ⟨l, b, off, a', n', c', rfl, by rw [q1, e'], hle, hrs⟩
    obtain ⟨q, hq⟩ := Deep.choose_lt each
    refine ⟨some ad, len, m, (List.range len).map q, rfl, by simp, ?_, fun i l hi => ?_⟩
    · have := hw ((((List.range len).map D).length + ((List.range (m - len)).map fun j => D (len + j)).length) * 24) (by
        rw [hd2]
        simp [DataW.weights, Try.underlying25, bytes31])
      simp only [List.length_map, List.length_range, reachBytes] at this
      omega
    · rw [List.getElem?_map] at hi
      have hi' : i < len := by
        rcases Nat.lt_or_ge i len with h | h
        · exact h
        · simp [h] at hi
      simp [hi'] at hi
      subst hi
      obtain ⟨b, off, a', n', c', e', h1, h2, h3⟩ := hq i hi'
      exact ⟨b, off, a', n', c', by rw [e'], h1, h2, h3⟩
theorem few_bulk {H : Type} {d0 d1 : DataW H} (hk : Rows.uptoSmall H ([d0, d1] ++ []) = true) : Rows.uptoBulk d0 ≤ 1048576 := by
  have h : Rows.uptoBulkAll [d0, d1] ≤ 1048576 := of_decide_eq_true hk
  simp only [Rows.uptoBulkAll] at h
  omega
set_option maxRecDepth 100000 in
theorem keysUpdates_lifted (os : Os) (started : os.Started) (H : Type) (enc : TypeId × Value → H) (F : Stop.Interp) :
    ReturnsInHanded {} Try.checked os 3 .any ((Rows.OpenSpec.upto Rows.keysUpdatesSpec).pre6 enc Try.prog Try.f3 Rows.keysUpdatesUptoRow.domain false) (((Rows.OpenSpec.upto Rows.keysUpdatesSpec).at F).post enc Try.prog Try.f3 false true false false) := by
  refine returnsInHanded_of_cond_sized (C := Try.checked) (s := Rows.OpenSpec.upto Rows.keysUpdatesSpec) (k := Rows.uptoSmall) rfl own started (by kernel_rfl) Try.func3
    (OpenSpec.witness (enc := enc) (C := Try.checked) (s := Rows.OpenSpec.upto Rows.keysUpdatesSpec) (k := Rows.uptoSmall) rfl false ⟨#[], #[.agg #[.slice none 0 0, .slice none 0 0, .slice none 0 0, .slice none 0 0], .slice none 0 0], []⟩ 8 (by kernel_rfl) (by kernel_rfl) (by kernel_rfl)
      (x := ([.agg [.nil, .nil, .nil, .nil], .nil], [], [])) (by kernel_rfl) rfl (by kernel_rfl)) ?_
  intro W base args ds gs before hval0 hW _ hk hsz0 _
  have hsz : (DataW.weightsEach Try.prog (Try.f3.params.toList ++ Rows.keysUpdatesSpec.plain.varTypes Try.prog) (ds ++ gs)).all (· ≤ reachBytes) = true := hsz0
  clear hsz0
  have hval : ∀ (j : Nat) t v, Try.f3.params[j]? = some t → args[j]? = some v → Value.okWide Try.prog W .any base t v := hval0
  have hW' := hW
  obtain ⟨p, q, hA0, hV, rfl, _, _⟩ := hW
  have hA : DataW.TrodAll enc Try.prog W 0 (fun _ => true) true Try.f3.params.toList args.toList ds p := hA0
  rw [Try.params3] at hA hval hsz
  obtain ⟨v0, vs0, d0, ds0, p0, q0, hargs, rfl, rfl, h0, r0⟩ := trodAll_cons hA
  obtain ⟨v1, vs1, d1, ds1, p1, q1, rfl, rfl, rfl, h1, r1⟩ := trodAll_cons r0
  obtain ⟨rfl, rfl, rfl⟩ := trodAll_nil r1
  obtain rfl : args = #[v0, v1] := by cases args; simp_all
  obtain ⟨rfl, rfl⟩ := trodVars_none hV
  have k0 := h0
  have lt0 : ∀ x ∈ p0, x.block < W.heap.size := by obtain ⟨m, hm⟩ := k0; exact DataW.trod_lt m _ _ _ hm
  obtain ⟨x1, x2, x3, x4, A, B, C, D, rfl, J0, K0, L0, M0, F0⟩ := open_few 0 (hval 0 24 v0 rfl rfl) h0 hsz rfl rfl (few_bulk hk)
  have k1 := h1
  have lt1 : ∀ x ∈ p1, x.block < W.heap.size := by obtain ⟨m, hm⟩ := k1; exact DataW.trod_lt m _ _ _ hm
  obtain ⟨a1, n1, c1, l1, rfl, T1⟩ := open_rl 1 (hval 1 25 v1 rfl rfl) h1 hsz rfl rfl
  clear hA0 hval0
  refine (updates_any x1 x2 x3 x4 A B C D a1 n1 c1 l1 W J0 K0 L0 M0 T1 F0).mono fun e W' ⟨he, bel⟩ => ?_
  subst he
  exact ⟨_, rfl, _, _, _, [], _, [], hW', trodAll_mk1 (shut_bool Try.underlying4 _), (trodAll_cons_mk (Below.trod laidOut (by kernel_rfl) (of_decide_eq_true (by kernel_rfl)) k0 bel lt0) (trodAll_cons_mk (Below.trod laidOut (by kernel_rfl) (of_decide_eq_true (by kernel_rfl)) k1 bel lt1) trodAll_mk0)), rfl, bel.frame _, fun h => by cases h⟩
theorem keysUpdates_proved : Rows.KeysUpdatesUptoSaid :=
  OpenClaim.holds_of_cond 3 Try.f3 rfl rfl rfl rfl rfl rfl rfl ⟨rfl, rfl, rfl, rfl, rfl⟩ rfl rfl rfl rfl rfl (by kernel_rfl) Try.func3 (by kernel_rfl)
    (of_decide_eq_true (by kernel_rfl)) (by unfold Func.isWrapper; first | (rw [if_pos (by decide +kernel)]; kernel_rfl) | (rw [if_neg (by decide +kernel)]; exact ⟨rfl, rfl⟩))
    (fun os started H enc _ F => keysUpdates_lifted os started H enc F)
#print axioms keysUpdates_proved
end Go.Proofs.Ythejehbhjkmeeaa
