/- Find. Conditions: as said. -/
import Derived.Test.YtijeakggeichcaaGreatDoorQO
import Derived.Lib.Hide
namespace Go.Proofs.YtijeakggeichcaaGreatDoor
open Go.RowKit
theorem cmpI_neg (a b : Int) : cmpI a b < 0 ↔ a < b := by unfold cmpI; split <;> (try split) <;> omega
theorem cmpI_zero (a b : Int) : cmpI a b = 0 ↔ a = b := by unfold cmpI; split <;> (try split) <;> omega
theorem orI_neg (c : Int) (r : List Int) : orI (c :: r) < 0 ↔ c < 0 ∨ (c = 0 ∧ orI r < 0) := by
  have e : orI (c :: r) = if c = 0 then orI r else c := rfl
  rw [e]
  by_cases h : c = 0
  · simp [h]
  · simp [h]
theorem orI_nil : ¬ orI [] < 0 := by show ¬ (0 : Int) < 0; omega
theorem ordI_neg (p a q b : Int) : ordI p a q b < 0 ↔ q < p ∨ (q = p ∧ a < b) := by
  unfold ordI
  simp only [orI_neg, cmpI_neg, cmpI_zero, orI_nil, and_false, or_false]
theorem EntAt.one {w : World} {e : Nat} {p id q b : Int} {ts us : List Tm} (h : EntAt w e p id ts) (h2 : EntAt w e q b us) : p = q ∧ id = b := by
  obtain ⟨s, tb, at_, h1, _⟩ := h
  obtain ⟨s2, tb2, at2, h3, _⟩ := h2
  rw [h1] at h3
  injection h3 with h3
  injection h3 with h3 _ _
  have e0 := congrArg (fun A : Array Value => A[0]?) h3
  have e2 := congrArg (fun A : Array Value => A[2]?) h3
  simp at e0 e2
  exact ⟨e0, e2⟩
theorem Ahead.trans {w : World} {x y z : Nat} (h : Ahead w x y) (h2 : Ahead w y z) : Ahead w x z := by
  obtain ⟨p, a, ts, q, b, us, h3, h4, h5⟩ := h
  obtain ⟨p', a', ts', q', b', us', h6, h7, h8⟩ := h2
  obtain ⟨rfl, rfl⟩ := h4.one h6
  refine ⟨p, a, ts, q', b', us', h3, h7, ?_⟩
  rw [ordI_neg] at *
  omega
theorem Ahead.irrefl {w : World} {x : Nat} (h : Ahead w x x) : False := by
  obtain ⟨p, a, ts, q, b, us, h3, h4, h5⟩ := h
  obtain ⟨rfl, rfl⟩ := h3.one h4
  rw [ordI_neg] at h5
  omega
theorem FirstR.back {w w' : World} {cs : Array Value} {x : ByteArray × Value × Nat} {sh : List Tm} {lq : List (ByteArray × Value × Nat)} {r : Option Addr} (h : FirstR w' cs sh lq r) (ht : TupOk w x sh lq) (hb : Below w.heap.size w w') : FirstR w cs sh lq r := by
  rcases h with h | ⟨zs, h1, h2 | ⟨i, v, e, h3, h4, h5⟩⟩
  · exact .inl h
  · exact .inr ⟨zs, h1, .inl h2⟩
  · obtain ⟨b9, _, hb9⟩ := findG_at h3
    obtain ⟨_, _, _, _, _, _, _, _, _, _, _, h7⟩ := ht
    obtain ⟨e0, f1, _⟩ := h7 _ (List.mem_of_getElem? hb9)
    dsimp only at f1
    have := FirstQ.back f1 h4 hb
    subst this
    exact .inr ⟨zs, h1, .inr ⟨i, v, e, h3, f1, h5⟩⟩
theorem FirstR.ent {w : World} {cs : Array Value} {x : ByteArray × Value × Nat} {sh : List Tm} {lq : List (ByteArray × Value × Nat)} {e : Nat} (h : FirstR w cs sh lq (some ⟨e, 0, none⟩)) (ht : TupOk w x sh lq) : ∃ p id ts, EntAt w e p id ts := by
  rcases h with ⟨_, h⟩ | ⟨zs, h1, ⟨_, h2⟩ | ⟨i, v, e', h3, h4, h5⟩⟩
  · cases h
  · cases h2
  · cases h5
    obtain ⟨b9, _, hb9⟩ := findG_at h3
    obtain ⟨_, _, _, _, _, _, _, _, _, _, _, h7⟩ := ht
    obtain ⟨e0, f1, q⟩ := h7 _ (List.mem_of_getElem? hb9)
    dsimp only at f1
    have := FirstQ.back f1 h4 (Below.refl _ _)
    subst this
    exact q
theorem FirstR.form {w : World} {cs : Array Value} {sh : List Tm} {lq : List (ByteArray × Value × Nat)} {r : Option Addr} (h : FirstR w cs sh lq r) : r = none ∨ ∃ e, r = some ⟨e, 0, none⟩ := by
  rcases h with ⟨_, h⟩ | ⟨zs, h1, ⟨_, h2⟩ | ⟨i, v, e', h3, h4, h5⟩⟩
  · exact .inl h
  · exact .inl h2
  · exact .inr ⟨e', h5⟩
theorem FirstR.one {w : World} {cs : Array Value} {sh : List Tm} {lq : List (ByteArray × Value × Nat)} {r r' : Option Addr} (h : FirstR w cs sh lq r) (h2 : FirstR w cs sh lq r') : r = r' := by
  rcases h with ⟨h1, rfl⟩ | ⟨zs, h1, h3⟩
  · rcases h2 with ⟨_, rfl⟩ | ⟨zs2, h4, _⟩
    · rfl
    · rw [h1] at h4; cases h4
  · rcases h2 with ⟨h4, _⟩ | ⟨zs2, h4, h5⟩
    · rw [h1] at h4; cases h4
    · rw [h1] at h4
      cases h4
      rcases h3 with ⟨h6, rfl⟩ | ⟨i, v, e, h6, h7, rfl⟩
      · rcases h5 with ⟨_, rfl⟩ | ⟨i', v', e', h8, _⟩
        · rfl
        · rw [h6] at h8; cases h8
      · rcases h5 with ⟨h8, _⟩ | ⟨i', v', e', h8, h9, rfl⟩
        · rw [h6] at h8; cases h8
        · rw [h6] at h8
          cases h8
          rw [FirstQ.back h7 h9 (Below.refl _ _)]
theorem nodup_eq {K : Type} : ∀ {l : List (K × Value × Nat)} (_ : (l.map (·.2.2)).Nodup) {x y : K × Value × Nat}, x ∈ l → y ∈ l → x.2.2 = y.2.2 → x = y
  | [], _, _, _, h, _, _ => by simp at h
  | z :: r, hn, x, y, hx, hy, e => by
    rw [List.map_cons, List.nodup_cons] at hn
    rcases List.mem_cons.1 hx with h1 | h1
    · rcases List.mem_cons.1 hy with h2 | h2
      · rw [h1, h2]
      · have h9 := List.mem_map_of_mem (f := fun z : K × Value × Nat => z.2.2) h2
        rw [← e, h1] at h9
        exact absurd h9 hn.1
    · rcases List.mem_cons.1 hy with h2 | h2
      · have h9 := List.mem_map_of_mem (f := fun z : K × Value × Nat => z.2.2) h1
        rw [e, h2] at h9
        exact absurd h9 hn.1
      · exact nodup_eq hn.2 h1 h2 e
section
variable {w : World} {cs : Array Value} {sh : ByteArray × Value × Nat → List Tm} {lq : ByteArray × Value × Nat → List (ByteArray × Value × Nat)} {l : List (ByteArray × Value × Nat)} {seen : Array Nat} {x : ByteArray × Value × Nat}
theorem seen_push {y b : Nat} (h : (seen.push b).contains y = true) : seen.contains y = true ∨ y = b := by
  rw [contains_push] at h
  simpa using h
theorem seen_old {y b : Nat} (h : seen.contains y = true) : (seen.push b).contains y = true := by rw [contains_push, h]; rfl
theorem seen_new (b : Nat) : (seen.push b).contains b = true := by rw [contains_push]; simp
/-- A tuple that has nothing to say. -/
theorem Best.skip {r : Option Nat} (h : Best w cs sh lq l seen r) (hnb : (l.map (·.2.2)).Nodup) (hx : x ∈ l) (hf : FirstR w cs (sh x) (lq x) none) : Best w cs sh lq l (seen.push x.2.2) r := by
  refine ⟨fun y hy hs e' he => ?_, fun e he => ?_⟩
  · rcases seen_push hs with h1 | h1
    · exact h.1 y hy h1 e' he
    · obtain rfl : y = x := nodup_eq hnb hy hx h1
      have := hf.one he
      cases this
  · obtain ⟨y, hy, h1, h2⟩ := h.2 e he
    exact ⟨y, hy, seen_old h1, h2⟩
/-- A tuple whose first one is now the first one. -/
theorem Best.take {r : Option Nat} {e : Nat} (h : Best w cs sh lq l seen r) (hnb : (l.map (·.2.2)).Nodup) (hx : x ∈ l) (hf : FirstR w cs (sh x) (lq x) (some ⟨e, 0, none⟩)) (hr : ∀ e0, r = some e0 → Ahead w e e0) : Best w cs sh lq l (seen.push x.2.2) (some e) := by
  refine ⟨fun y hy hs e' he => ?_, fun e0 he => ?_⟩
  · rcases seen_push hs with h1 | h1
    · obtain ⟨e0, h2, h3⟩ := h.1 y hy h1 e' he
      exact ⟨e, rfl, fun h4 => h3 (h4.trans (hr e0 h2))⟩
    · obtain rfl : y = x := nodup_eq hnb hy hx h1
      have := hf.one he
      cases this
      exact ⟨e, rfl, fun h4 => h4.irrefl⟩
  · cases he
    exact ⟨x, hx, seen_new _, hf⟩
/-- A tuple whose first one is not ahead. -/
theorem Best.leave {e0 e : Nat} (h : Best w cs sh lq l seen (some e0)) (hnb : (l.map (·.2.2)).Nodup) (hx : x ∈ l) (hf : FirstR w cs (sh x) (lq x) (some ⟨e, 0, none⟩)) (hr : ¬ Ahead w e e0) : Best w cs sh lq l (seen.push x.2.2) (some e0) := by
  refine ⟨fun y hy hs e' he => ?_, fun e1 he => ?_⟩
  · rcases seen_push hs with h1 | h1
    · exact h.1 y hy h1 e' he
    · obtain rfl : y = x := nodup_eq hnb hy hx h1
      have := hf.one he
      cases this
      exact ⟨e0, rfl, hr⟩
  · obtain ⟨y, hy, h1, h2⟩ := h.2 e1 he
    exact ⟨y, hy, seen_old h1, h2⟩
end
end Go.Proofs.YtijeakggeichcaaGreatDoor
