/- A table with one zone's connections, none or more, told as one. Conditions: as said. -/
import Derived.Test.YtjjehncnjcepkaaEL
import Derived.Lib.Hide
namespace Go.Proofs.Ytjjehncnjcepkaa
open Go.RowKit
def Tab (w : World) (B tb zb : Nat) (room z : Int) (E : List Nat) (O : Nat → Tup) : Prop :=
  (E = [] ∧ ∃ c q, Emp w B tb zb c room 0 q) ∨ (E ≠ [] ∧ ∃ q g1 g2 zs cz, TZ w B tb zb room q E z O g1 g2 zs cz)
section
variable {w w' : World} {B tb zb : Nat} {room z : Int} {E : List Nat} {O : Nat → Tup}
theorem Tab.of (h : Tab w B tb zb room z E O) (hb : Below w.heap.size w w') : Tab w' B tb zb room z E O := by
  rcases h with ⟨h, c, q, e⟩ | ⟨h, q, g1, g2, zs, cz, e⟩
  · exact .inl ⟨h, c, q, e.of hb⟩
  · exact .inr ⟨h, q, g1, g2, zs, cz, e.of hb.block⟩
theorem Tab.b (h : Tab w B tb zb room z E O) : B ≤ tb ∧ B ≤ zb := by
  rcases h with ⟨_, _, _, e⟩ | ⟨_, _, _, _, _, _, e⟩ <;> exact ⟨e.bt, e.bz⟩
theorem Tab.row (h : Tab w B tb zb room z E O) : ∃ q, w.heap[tb]? = some (.cells (tabV room 0 zb q) 65 (0, 0)) := by
  rcases h with ⟨_, _, q, e⟩ | ⟨_, q, _, _, _, _, e⟩
  · exact ⟨q, e.t⟩
  · exact ⟨q, e.qs.t⟩
theorem Tab.zones (h : Tab w B tb zb room z E O) : ∃ l c, w.heap[zb]? = some (.map (entG iv l).toArray c) ∧ ∀ y, y ≠ z → findG y l 0 = none := by
  rcases h with ⟨_, c, _, e⟩ | ⟨_, _, g1, g2, zs, cz, e⟩
  · exact ⟨_, c, e.zm, fun _ _ => rfl⟩
  · exact ⟨_, cz, e.zm, fun y hy => by simp [findG, hy]⟩
theorem kn_nil (O : Nat → Tup) (t : Tup) : kn [] O t = false := rfl
/-- Look in the zone. -/
theorem tab_look (h : Tab w B tb zb room z E O) (hz0 : 0 ≤ z) (hz1 : z ≤ 65535)
    (cs ps : Array Value) (hst : St cs) (hps : cs.extract 0 (0 + 36) = ps) {fr pr src dst k ty co re sp dp : Int} (hp : Pk ps true fr pr src dst k ty co re sp dp) (hT : hasT true fr k ty co = true)
    (t : Tup) (ht : (pr, src, dst, portT k re sp, portT k re dp) = t) :
    Calls Try.prog 8 #[.pointer (some ⟨tb, 0, none⟩), .int .i64 z, .agg cs] w fun e w' => (∃ ct, e = .returned (.tuple #[.agg (lookC cs t ct), .int .i64 0]) ∧ (kn E O t = false → ct = 1) ∧ (kn E O t = true → ct = 2 ∨ ct = 6)) ∧ Below w.heap.size w w' := by
  rcases h with ⟨rfl, c, q, e⟩ | ⟨_, q, g1, g2, zs, cz, e⟩
  · subst ht
    refine (look_emp e z hz0 hz1 cs ps hst hps hp hT).mono ?_
    rintro x w' ⟨rfl, hb⟩
    exact ⟨⟨1, rfl, fun _ => rfl, fun hk => by rw [kn_nil] at hk; cases hk⟩, hb⟩
  · exact tz_look e hz0 hz1 cs ps hst hps hp hT t ht
/-- Look in another zone. -/
theorem tab_look_other (h : Tab w B tb zb room z E O) (y : Int) (hy : y ≠ z) (hz0 : 0 ≤ y) (hz1 : y ≤ 65535)
    (cs ps : Array Value) (hst : St cs) (hps : cs.extract 0 (0 + 36) = ps) {fr pr src dst k ty co re sp dp : Int} (hp : Pk ps true fr pr src dst k ty co re sp dp) (hT : hasT true fr k ty co = true)
    (t : Tup) (ht : (pr, src, dst, portT k re sp, portT k re dp) = t) :
    Calls Try.prog 8 #[.pointer (some ⟨tb, 0, none⟩), .int .i64 y, .agg cs] w fun e w' => e = .returned (.tuple #[.agg (lookC cs t 1), .int .i64 0]) ∧ Below w.heap.size w w' := by
  obtain ⟨q, hq⟩ := h.row
  obtain ⟨l, c, hl, hf⟩ := h.zones
  subst ht
  refine look_new tb zb room 0 y hz0 hz1 q cs ps hst hps hp hT none none w hq ⟨fun W hW => ?_⟩ ⟨fun W _ => look_nil tupK Try.underlying58 _ zero_tup_ptr W _, fun W _ => look_nil tupK Try.underlying58 _ zero_tup_ptr W _⟩
  have := look_any intK Try.underlying61 (.agg #[.map none, .map none]) zero_zone ((hW.block _ (lt_of_heap hl)).trans hl) y
  simpa [hf y hy] using this
/-- What Commit of a packet that was looked at leaves. -/
def Then (w w' : World) (B tb zb : Nat) (room z : Int) (E : List Nat) (O : Nat → Tup) (t : Tup) (ans : Int) : Prop :=
  (kn E O t = true ∧ ans = 0 ∧ Below w.heap.size w w') ∨ (kn E O t = false ∧ room ≤ (E.length : Int) ∧ ans = 120 ∧ Below w.heap.size w w') ∨
    (kn E O t = false ∧ (E.length : Int) < room ∧ ans = 0 ∧ ∃ E' O', E'.length = E.length + 1 ∧ Tab w' B tb zb room z E' O' ∧ Below B w w')
theorem tab_commit (h : Tab w B tb zb room z E O) (hB : B ≤ w.heap.size) (hr : 1 ≤ room ∧ room ≤ 65536) (hz0 : 0 ≤ z) (hz1 : z ≤ 65535)
    (cs ps : Array Value) (hst : St cs) (hps : cs.extract 0 (0 + 36) = ps) {fr pr src dst k ty co re sp dp : Int} (hp : Pk ps true fr pr src dst k ty co re sp dp) (hT : hasT true fr k ty co = true)
    (t : Tup) (ht : (pr, src, dst, portT k re sp, portT k re dp) = t) (ho : cs.extract 44 (44 + 5) = tupC t.1 t.2.1 t.2.2.1 t.2.2.2.1 t.2.2.2.2) :
    Calls Try.prog 9 #[.pointer (some ⟨tb, 0, none⟩), .int .i64 z, .agg cs] w fun e w' => ∃ ans, e = .returned (.int .i64 ans) ∧ Then w w' B tb zb room z E O t ans := by
  rcases h with ⟨rfl, c, q, e⟩ | ⟨hne, q, g1, g2, zs, cz, e⟩
  · refine (commit_emp e hB hr.1 (by decide) z hz0 hz1 cs ps hst hps hp hT t ho (by rw [← ht])).mono ?_
    rintro x w' ⟨rfl, ⟨qg, qc, cur, eb, g1, g2, hc⟩, hb, _⟩
    rw [ht] at hc
    have hc' : HasC w' B tb zb c room 0 z t (turn t) false 30 qg qc cur eb g1 g2 := by simpa using hc
    exact ⟨0, rfl, .inr (.inr ⟨kn_nil _ _, by simp; omega, rfl, [eb], _, rfl, .inr ⟨by simp, _, _, _, _, _, hc'.tz⟩, hb⟩)⟩
  · cases hk : kn E O t with
    | true =>
      refine (tz_known e hz0 hz1 cs ps hst hps hp hT t ht ho hk).mono ?_
      rintro x w' ⟨rfl, hb⟩
      exact ⟨0, rfl, .inl ⟨hk, rfl, hb⟩⟩
    | false =>
      by_cases hlt : (E.length : Int) < room
      · refine (tz_new e hB hz0 hz1 cs ps hst hps hp hT t ht ho hk (by omega) hlt).mono ?_
        rintro x w' ⟨rfl, eb, q', _, ht', hb⟩
        exact ⟨0, rfl, .inr (.inr ⟨hk, hlt, rfl, _, _, by simp, .inr ⟨by simp, _, _, _, _, _, ht'⟩, hb⟩)⟩
      · refine (tz_full e hB hz0 hz1 cs ps hst hps hp hT t ht ho hk (by omega)).mono ?_
        rintro x w' ⟨rfl, hb⟩
        exact ⟨120, rfl, .inr (.inl ⟨hk, by omega, rfl, hb⟩)⟩
theorem tab_count (h : Tab w B tb zb room z E O) : Calls Try.prog 10 #[.pointer (some ⟨tb, 0, none⟩), .int .i64 z] w fun e w' => e = .returned (.int .i64 E.length) ∧ w' = w := by
  rcases h with ⟨rfl, c, q, e⟩ | ⟨hne, q, g1, g2, zs, cz, e⟩
  · exact count_emp e z
  · exact e.count
theorem tab_count_other (h : Tab w B tb zb room z E O) (y : Int) (hy : y ≠ z) : Calls Try.prog 10 #[.pointer (some ⟨tb, 0, none⟩), .int .i64 y] w fun e w' => e = .returned (.int .i64 0) ∧ w' = w := by
  obtain ⟨q, hq⟩ := h.row
  obtain ⟨l, c, hl, hf⟩ := h.zones
  have := look_any intK Try.underlying61 (.agg #[.map none, .map none]) zero_zone hl y
  exact count_any tb zb room 0 y q none none 0 w hq (by simpa [hf y hy] using this) (len_none w)
theorem tab_drop_other (h : Tab w B tb zb room z E O) (y : Int) (hy : y ≠ z) : Calls Try.prog 11 #[.pointer (some ⟨tb, 0, none⟩), .int .i64 y] w fun e w' => e = .returned (.int .i64 0) ∧ Below w.heap.size w w' := by
  obtain ⟨q, hq⟩ := h.row
  obtain ⟨l, c, hl, hf⟩ := h.zones
  exact drop_empty hq hl (hf y hy)
theorem rows9_born (f : Nat → Tup) : ∀ (E : List Nat) (i : Nat), (rows9 f E i).map (·.2.2) = List.range' i E.length
  | [], _ => rfl
  | e :: r, i => by simp [rows9, rows9_born f r (i + 1), List.range'_succ]
theorem rows9_mem {f : Nat → Tup} {x : Tup × Value × Nat} : ∀ {E : List Nat} {i : Nat}, x ∈ rows9 f E i → ∃ j e, E[j]? = some e ∧ x = (f e, .pointer (some ⟨e, 0, none⟩), i + j)
  | [], _, h => by simp [rows9] at h
  | e :: r, i, h => by
    simp only [rows9, List.mem_cons] at h
    rcases h with rfl | h
    · exact ⟨0, e, rfl, rfl⟩
    · obtain ⟨j, e', h1, h2⟩ := rows9_mem h
      exact ⟨j + 1, e', h1, by rw [h2, show i + 1 + j = i + (j + 1) by omega]⟩
/-- Drop of the zone: then nothing is there. -/
theorem tab_drop (h : Tab w B tb zb room z E O) (hB : B ≤ w.heap.size) : Calls Try.prog 11 #[.pointer (some ⟨tb, 0, none⟩), .int .i64 z] w fun e w' => e = .returned (.int .i64 E.length) ∧ (∃ q c, w'.heap[tb]? = some (.cells (tabV room 0 zb q) 65 (0, 0)) ∧ w'.heap[zb]? = some (.map (entG iv []).toArray c)) ∧ Below B w w' := by
  rcases h with ⟨rfl, c, q, e⟩ | ⟨hne, q, g1, g2, zs, cz, e⟩
  · refine (drop_empty e.t e.zm (z := z) rfl).mono ?_
    rintro x w' ⟨rfl, hb⟩
    exact ⟨rfl, ⟨q, c, (e.of hb).t, (e.of hb).zm⟩, hb.mono hB⟩
  · obtain ⟨qg, qc, Q, hq, bq, qb⟩ := e.qs.qb (List.length_pos_iff.2 hne)
    refine (drop_any qb e.zm e.m1 (Ne.symm e.nz1) (fun x hx => ?_) (by rw [rows9_born]; exact List.nodup_range') (fun x hx => ?_) (fun a ha b hb hab => ?_)).mono ?_
    · obtain ⟨j, y, h1, rfl⟩ := rows9_mem hx
      have := (List.getElem?_eq_some_iff.1 h1).1
      simp; omega
    · obtain ⟨j, y, h1, rfl⟩ := rows9_mem hx
      exact ⟨y, mem_get.2 ⟨j, h1⟩, rfl⟩
    · obtain ⟨j, y, h1, rfl⟩ := rows9_mem ha
      obtain ⟨j', y', h2, rfl⟩ := rows9_mem hb
      simp at hab
      subst hab
      rw [qb.inj h1 h2]
    · rintro x w' ⟨rfl, ⟨q', h1⟩, h2, h3⟩
      rw [rows9_len]
      exact ⟨rfl, ⟨q', cz, h1, h2⟩, h3 B hB e.bt bq e.bz e.be⟩
end
end Go.Proofs.Ytjjehncnjcepkaa
