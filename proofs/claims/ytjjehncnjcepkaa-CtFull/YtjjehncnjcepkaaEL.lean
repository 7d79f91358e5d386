/- A table with one zone's connections, none or more: Look, Commit, Count. Conditions: as said. -/
import Derived.Test.YtjjehncnjcepkaaEI
import Derived.Test.YtjjehncnjcepkaaEJ
import Derived.Test.YtjjehncnjcepkaaEK
import Derived.Test.YtjjehncnjcepkaaCV
import Derived.Lib.Hide
namespace Go.Proofs.Ytjjehncnjcepkaa
open Go.RowKit
def kn (E : List Nat) (O : Nat → Tup) (t : Tup) : Bool := (at9 O E t).isSome || (at9 (fun e => turn (O e)) E t).isSome
theorem at9_some (f : Nat → Tup) (t : Tup) : ∀ (E : List Nat), (at9 f E t).isSome = E.any fun e => decide (t = f e)
  | [] => rfl
  | e :: r => by
    have := at9_some f t r
    by_cases h : t = f e
    · simp [at9, h]
    · simpa [at9, h] using this
theorem turn_eq (a b : Tup) : turn a = b ↔ a = turn b := ⟨fun h => by rw [← h, turn_turn], fun h => by rw [h, turn_turn]⟩
theorem turn_inj (a b : Tup) : turn a = turn b ↔ a = b := ⟨fun h => by rw [turn_eq] at h; rw [h, turn_turn], fun h => by rw [h]⟩
theorem kn_turn (E : List Nat) (O : Nat → Tup) (t : Tup) : kn E O (turn t) = kn E O t := by
  unfold kn
  rw [at9_some, at9_some, at9_some, at9_some, Bool.or_comm]
  congr 1
  · congr 1; funext e; exact decide_eq_decide.2 (turn_inj _ _)
  · congr 1; funext e; exact decide_eq_decide.2 (turn_eq _ _)
theorem at9_mem {f : Nat → Tup} {t : Tup} {a : Addr} : ∀ {E : List Nat}, at9 f E t = some a → ∃ e ∈ E, a = ⟨e, 0, none⟩
  | [], h => by simp [at9] at h
  | e :: r, h => by
    by_cases h' : t = f e
    · simp [at9, h'] at h; exact ⟨e, by simp, h.symm⟩
    · obtain ⟨x, hx, hy⟩ := at9_mem (E := r) (by simpa [at9, h'] using h)
      exact ⟨x, List.mem_cons_of_mem _ hx, hy⟩
section
variable {w : World} {B tb zb : Nat} {room : Int} {q : Value} {E : List Nat} {z : Int} {O : Nat → Tup} {g1 g2 zs cz : Nat}
theorem TZ.lk (_h : TZ w B tb zb room q E z O g1 g2 zs cz) (W : World) (hW : W.heap[zb]? = some (.map (entG iv [(z, .agg #[.map (some g1), .map (some g2)], zs)]).toArray cz)) : (Instr.lookup 61 (.map (some zb)) (iv z) false).run Try.prog W = .ok (.agg #[.map (some g1), .map (some g2)]) W := by
  have := look_any intK Try.underlying61 (.agg #[.map none, .map none]) zero_zone hW z
  simpa [findG] using this
theorem tz_look (h : TZ w B tb zb room q E z O g1 g2 zs cz) (hz0 : 0 ≤ z) (hz1 : z ≤ 65535)
    (cs ps : Array Value) (hst : St cs) (hps : cs.extract 0 (0 + 36) = ps) {fr pr src dst k ty co re sp dp : Int} (hp : Pk ps true fr pr src dst k ty co re sp dp) (hT : hasT true fr k ty co = true)
    (t : Tup) (ht : (pr, src, dst, portT k re sp, portT k re dp) = t) :
    Calls Try.prog 8 #[.pointer (some ⟨tb, 0, none⟩), .int .i64 z, .agg cs] w fun e w' => (∃ ct, e = .returned (.tuple #[.agg (lookC cs t ct), .int .i64 0]) ∧ (kn E O t = false → ct = 1) ∧ (kn E O t = true → ct = 2 ∨ ct = 6)) ∧ Below w.heap.size w w' := by
  cases h1 : at9 O E t with
  | some a =>
    obtain ⟨e, he, rfl⟩ := at9_mem h1
    refine (look_list false h e he hz0 hz1 cs ps hst hps hp hT t ht h1).mono ?_
    rintro x w' ⟨rfl, hb⟩
    exact ⟨⟨2, rfl, fun hk => by simp [kn, h1] at hk, fun _ => .inl rfl⟩, hb⟩
  | none =>
    cases h2 : at9 (fun e => turn (O e)) E t with
    | some a =>
      obtain ⟨e, he, rfl⟩ := at9_mem h2
      refine (look_list true h e he hz0 hz1 cs ps hst hps hp hT t ht ⟨h1, h2⟩).mono ?_
      rintro x w' ⟨rfl, hb⟩
      exact ⟨⟨6, rfl, fun hk => by simp [kn, h2] at hk, fun _ => .inr rfl⟩, hb⟩
    | none =>
      subst ht
      refine (look_new tb zb room 0 z hz0 hz1 q cs ps hst hps hp hT (some g1) (some g2) w h.qs.t ⟨fun W hW => (h.of hW.block).zone⟩ ⟨fun W hW => by rw [← h1]; exact (h.of hW.block).tup1 _, fun W hW => by rw [← h2]; exact (h.of hW.block).tup2 _⟩).mono ?_
      rintro x w' ⟨rfl, hb⟩
      exact ⟨⟨1, rfl, fun _ => rfl, fun hk => by simp [kn, h1, h2] at hk⟩, hb⟩
theorem tz_known (h : TZ w B tb zb room q E z O g1 g2 zs cz) (hz0 : 0 ≤ z) (hz1 : z ≤ 65535)
    (cs ps : Array Value) (hst : St cs) (hps : cs.extract 0 (0 + 36) = ps) {fr pr src dst k ty co re sp dp : Int} (hp : Pk ps true fr pr src dst k ty co re sp dp) (hT : hasT true fr k ty co = true)
    (t : Tup) (ht : (pr, src, dst, portT k re sp, portT k re dp) = t) (ho : cs.extract 44 (44 + 5) = tupC t.1 t.2.1 t.2.2.1 t.2.2.2.1 t.2.2.2.2) (hk : kn E O t = true) :
    Calls Try.prog 9 #[.pointer (some ⟨tb, 0, none⟩), .int .i64 z, .agg cs] w fun e w' => e = .returned (.int .i64 0) ∧ Below w.heap.size w w' :=
  commit_known tb zb cz room 0 z (by decide) hz0 hz1 q _ cs ps hst hps hp hT t ho (by rw [← ht]) w h.qs.t h.zm (some g1) (some g2) h.lk (fun W hW => by
    have := (h.of hW.block).knows t
    unfold kn at hk
    rwa [hk] at this)
theorem tz_kno (h : TZ w B tb zb room q E z O g1 g2 zs cz) {t : Tup} (hk : kn E O t = false) : ∀ u, u = t ∨ u = turn t → ∀ W, Below w.heap.size w W → Calls Try.prog 27 #[.agg #[.map (some g1), .map (some g2)], tv u] W fun e w' => e = .returned (.bool false) ∧ Below W.heap.size W w' := by
  intro u hu W hW
  have hk' : kn E O u = false := by rcases hu with rfl | rfl; exact hk; rw [kn_turn]; exact hk
  have := (h.of hW.block).knows u
  unfold kn at hk'
  rwa [hk'] at this
theorem conn_add (t : Tup) : connC z t (turn t) (!decide (turn t = turn t)) (0 + 30) = connC z t (turn t) false 30 := by simp
theorem tz_new (h : TZ w B tb zb room q E z O g1 g2 zs cz) (hB : B ≤ w.heap.size) (hz0 : 0 ≤ z) (hz1 : z ≤ 65535)
    (cs ps : Array Value) (hst : St cs) (hps : cs.extract 0 (0 + 36) = ps) {fr pr src dst k ty co re sp dp : Int} (hp : Pk ps true fr pr src dst k ty co re sp dp) (hT : hasT true fr k ty co = true)
    (t : Tup) (ht : (pr, src, dst, portT k re sp, portT k re dp) = t) (ho : cs.extract 44 (44 + 5) = tupC t.1 t.2.1 t.2.2.1 t.2.2.2.1 t.2.2.2.2) (hk : kn E O t = false) (hn : E.length < 100000) (hr : (E.length : Int) < room) :
    Calls Try.prog 9 #[.pointer (some ⟨tb, 0, none⟩), .int .i64 z, .agg cs] w fun e w' => e = .returned (.int .i64 0) ∧ More w w' B tb zb room E z O g1 g2 zs cz t :=
  commit_gen tb zb cz room 0 z (by decide) hz0 hz1 q _ cs ps hst hps hp hT t ho (by rw [← ht]) w h.qs.t h.zm (some g1) (some g2) h.lk (turn t) (by rw [ht]) (tz_kno h hk) 0 (fun w' => More w w' B tb zb room E z O g1 g2 zs cz t) (fun W hW => by
    rw [conn_add]
    have k1 : at9 O E t = none := by unfold kn at hk; simp at hk; exact hk.1
    have k2 : at9 (fun e => turn (O e)) E (turn t) = none := by
      have := kn_turn E O t
      rw [hk] at this; unfold kn at this; simp at this; exact this.2
    refine (add_old (h.of hW.block) t hn hr k1 k2 (by have := hW.size; omega)).mono ?_
    rintro x w' ⟨rfl, hm⟩
    exact ⟨rfl, More.from hm (hW.mono hB)⟩)
theorem tz_full (h : TZ w B tb zb room q E z O g1 g2 zs cz) (hB : B ≤ w.heap.size) (hz0 : 0 ≤ z) (hz1 : z ≤ 65535)
    (cs ps : Array Value) (hst : St cs) (hps : cs.extract 0 (0 + 36) = ps) {fr pr src dst k ty co re sp dp : Int} (hp : Pk ps true fr pr src dst k ty co re sp dp) (hT : hasT true fr k ty co = true)
    (t : Tup) (ht : (pr, src, dst, portT k re sp, portT k re dp) = t) (ho : cs.extract 44 (44 + 5) = tupC t.1 t.2.1 t.2.2.1 t.2.2.2.1 t.2.2.2.2) (hk : kn E O t = false) (hr : room ≤ (E.length : Int)) :
    Calls Try.prog 9 #[.pointer (some ⟨tb, 0, none⟩), .int .i64 z, .agg cs] w fun e w' => e = .returned (.int .i64 120) ∧ Below w.heap.size w w' :=
  commit_gen tb zb cz room 0 z (by decide) hz0 hz1 q _ cs ps hst hps hp hT t ho (by rw [← ht]) w h.qs.t h.zm (some g1) (some g2) h.lk (turn t) (by rw [ht]) (tz_kno h hk) 120 (fun w' => Below w.heap.size w w') (fun W hW => by
    rw [conn_add]
    refine (add_full (h.of hW.block) t hr (by have := hW.size; omega)).mono ?_
    rintro x w' ⟨rfl, hm⟩
    exact ⟨rfl, hW.trans (hm.mono hW.size)⟩)
end
theorem HasC.tz {w : World} {B tb zb c : Nat} {room z : Int} {o : Tup} {qg qc : Nat} {cur : Array Value} {eb g1 g2 : Nat} (h : HasC w B tb zb c room 0 z o (turn o) false 30 qg qc cur eb g1 g2) : TZ w B tb zb room (.slice (some ⟨qg, 0, none⟩) 1 qc) [eb] z (fun _ => o) g1 g2 c (c + 1) := by
  refine ⟨⟨h.t, ⟨rfl, .inr ⟨qg, qc, cur, rfl, h.bq, h.q, h.q1, h.q2, by simpa using h.qs, ?_⟩⟩, by simp, fun i e hi => ?_⟩, h.zm, h.m1, h.m2, h.n12, ne_zone h.zm h.m1, ne_zone h.zm h.m2, h.bt, h.bz, h.b1, h.b2, fun e he => by simp at he; subst he; exact h.be⟩
  · apply List.ext_getElem?
    intro i
    by_cases hi : i = 0
    · subst hi
      rw [List.getElem?_take_of_lt (by simp)]
      simpa [ptrs] using h.q0
    · rw [List.getElem?_eq_none (by simp [List.length_take]; omega), List.getElem?_eq_none (by simp [ptrs]; omega)]
  · have h0 : i = 0 := by have := (List.getElem?_eq_some_iff.1 hi).1; simp at this; omega
    subst h0
    simp at hi
    subst hi
    exact h.en
end Go.Proofs.Ytjjehncnjcepkaa
