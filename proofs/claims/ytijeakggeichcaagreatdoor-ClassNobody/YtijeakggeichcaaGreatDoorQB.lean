/- Maps under whole numbers and under texts: looking up, storing. Plain laws; no condition. -/
import Derived.Test.YtijeakggeichcaaGreatDoorQA
import Derived.MapKept
import Derived.WideKeyRuns
namespace Go.Proofs.YtijeakggeichcaaGreatDoor
open Go.RowKit
/-- A world in which one block holds another object. -/
def putObj (w : World) (r : Nat) (o : Obj) : World := { w with heap := w.heap.setIfInBounds r o }
theorem putObj_same {w : World} {r : Nat} (h : r < w.heap.size) (o : Obj) : (putObj w r o).heap[r]? = some o := by
  unfold putObj; exact Array.getElem?_setIfInBounds_self_of_lt h
theorem putObj_other (w : World) {r k : Nat} (h : k ≠ r) (o : Obj) : (putObj w r o).heap[k]? = w.heap[k]? := by
  unfold putObj; exact Array.getElem?_setIfInBounds_ne (fun e => h e.symm)
theorem putObj_size (w : World) (r : Nat) (o : Obj) : (putObj w r o).heap.size = w.heap.size := by simp [putObj]
theorem putObj_below (w : World) (r : Nat) (o : Obj) : Below r w (putObj w r o) := ⟨rfl, rfl, rfl, by rw [putObj_size]; exact Nat.le_refl _, fun k hk => putObj_other w (by omega) o⟩
section
variable {K : Type} [DecidableEq K]
/-- The entries of a map: key, value, stamp. -/
def entG (kv : K → Value) (l : List (K × Value × Nat)) : List MapEntry := l.map fun x => { key := kv x.1, val := x.2.1, born := x.2.2 }
def findG (t : K) : List (K × Value × Nat) → Nat → Option (Nat × Value)
  | [], _ => none
  | x :: r, i => if t = x.1 then some (i, x.2.1) else findG t r (i + 1)
/-- What the model does with keys of a type. -/
structure KeyK (KT : TypeId) (kv : K → Value) : Prop where
  check : ∀ e t W, (Instr.checkKey e 10000 KT (kv t)).run Tryz.prog W = .ok () W
  find : ∀ t l W, (Instr.findKey KT (kv t) (entG kv l)).run Tryz.prog W = .ok (findG t l 0) W
  stays : ∀ t W, (Instr.keyThatStays (kv t) (kv t)).run Tryz.prog W = .ok (kv t) W
variable {KT MT ET : TypeId} {kv : K → Value}
theorem look_any (hK : KeyK KT kv) (hu : Tryz.prog.underlying MT = some (.map KT ET)) (z : Value) (hz : ∀ W, (zeroValue ET).run Tryz.prog W = .ok z W) {w : World} {r c : Nat} {l : List (K × Value × Nat)} (hb : w.heap[r]? = some (.map (entG kv l).toArray c)) (t : K) :
    (Instr.lookup MT (.map (some r)) (kv t) false).run Tryz.prog w = .ok (((findG t l 0).map (·.2)).getD z) w := by
  simp only [Instr.lookup, Sem.run_bind, run_underlying hu, Result.andThen_ok, MapKept.run_getObj_map hb, Sem.run_pure, hK.check, hK.find]
  cases findG t l 0 <;> simp [hz]
theorem look_ok (hK : KeyK KT kv) (hu : Tryz.prog.underlying MT = some (.map KT ET)) (z : Value) (hz : ∀ W, (zeroValue ET).run Tryz.prog W = .ok z W) {w : World} {r c : Nat} {l : List (K × Value × Nat)} (hb : w.heap[r]? = some (.map (entG kv l).toArray c)) (t : K) :
    (Instr.lookup MT (.map (some r)) (kv t) true).run Tryz.prog w = .ok (.tuple #[((findG t l 0).map (·.2)).getD z, .bool (findG t l 0).isSome]) w := by
  simp only [Instr.lookup, Sem.run_bind, run_underlying hu, Result.andThen_ok, MapKept.run_getObj_map hb, Sem.run_pure, hK.check, hK.find]
  cases findG t l 0 <;> simp [hz]
theorem put_new (hK : KeyK KT kv) (hu : Tryz.prog.underlying MT = some (.map KT ET)) {w : World} {r c : Nat} {l : List (K × Value × Nat)} (hb : w.heap[r]? = some (.map (entG kv l).toArray c)) (t : K) (hf : findG t l 0 = none) (v : Value) :
    (Instr.mapUpdate MT (.map (some r)) (kv t) v).run Tryz.prog w = .ok () (putObj w r (.map (entG kv (l ++ [(t, v, c)])).toArray (c + 1))) := by
  simp only [Instr.mapUpdate, Sem.run_bind, run_underlying hu, Result.andThen_ok, MapKept.run_getObj_map hb, hK.check, hK.find, hf, MapKept.run_setObj_map _ hb]
  simp [entG, putObj]
/-- The entries with another value under a key that is there. -/
def setG (t : K) (v : Value) : List (K × Value × Nat) → List (K × Value × Nat)
  | [] => []
  | x :: r => if t = x.1 then (x.1, v, x.2.2) :: r else x :: setG t v r
theorem findG_at {t : K} : ∀ {l : List (K × Value × Nat)} {i0 i : Nat} {v : Value}, findG t l i0 = some (i, v) → ∃ b, i0 ≤ i ∧ l[i - i0]? = some (t, v, b)
  | [], _, _, _, h => by simp [findG] at h
  | x :: r, i0, i, v, h => by
    unfold findG at h
    by_cases e : t = x.1
    · rw [if_pos e] at h; cases h
      exact ⟨x.2.2, Nat.le_refl _, by simp [e]⟩
    · rw [if_neg e] at h
      obtain ⟨b, h1, h2⟩ := findG_at h
      refine ⟨b, by omega, ?_⟩
      rw [show i - i0 = (i - (i0 + 1)) + 1 from by omega]; simpa using h2
theorem setG_eq {t : K} {v u : Value} : ∀ {l : List (K × Value × Nat)} {i0 i : Nat}, findG t l i0 = some (i, u) → (entG kv l).modify (i - i0) (fun e => { e with key := kv t, val := v }) = entG kv (setG t v l)
  | [], _, _, h => by simp [findG] at h
  | x :: r, i0, i, h => by
    unfold findG at h
    by_cases e : t = x.1
    · rw [if_pos e] at h; cases h
      simp [entG, setG, e]
    · rw [if_neg e] at h
      obtain ⟨b, h1, _⟩ := findG_at h
      have ih := setG_eq (v := v) h
      rw [show i - i0 = (i - (i0 + 1)) + 1 from by omega]
      simp only [entG, List.map_cons, setG, if_neg e, List.modify_succ_cons]
      congr 1
theorem put_old (hK : KeyK KT kv) (hu : Tryz.prog.underlying MT = some (.map KT ET)) {w : World} {r c : Nat} {l : List (K × Value × Nat)} (hb : w.heap[r]? = some (.map (entG kv l).toArray c)) (t : K) {i : Nat} {u : Value} (hf : findG t l 0 = some (i, u)) (v : Value) :
    (Instr.mapUpdate MT (.map (some r)) (kv t) v).run Tryz.prog w = .ok () (putObj w r (.map (entG kv (setG t v l)).toArray c)) := by
  obtain ⟨b, _, h2⟩ := findG_at hf
  have h2' : l[i]? = some (t, u, b) := by simpa using h2
  have he : (((entG kv l).toArray[i]?).map (·.key)).getD (kv t) = kv t := by simp [entG, h2']
  have hm : (entG kv l).toArray.modify i (fun e => { e with key := kv t, val := v }) = (entG kv (setG t v l)).toArray := by
    have := setG_eq (kv := kv) (v := v) hf
    apply Array.toList_inj.1
    simpa using this
  simp only [Instr.mapUpdate, Sem.run_bind, run_underlying hu, Result.andThen_ok, MapKept.run_getObj_map hb, hK.check, hK.find, hf, he, hK.stays, hm, MapKept.run_setObj_map _ hb]
  simp [putObj]
theorem findG_none {t : K} : ∀ {l : List (K × Value × Nat)} {i : Nat}, findG t l i = none ↔ t ∉ l.map (·.1)
  | [], _ => by simp [findG]
  | x :: r, i => by
    unfold findG
    by_cases e : t = x.1
    · simp [e]
    · rw [if_neg e, findG_none]; simp [e]
theorem setG_keys (t : K) (v : Value) : ∀ (l : List (K × Value × Nat)), (setG t v l).map (·.1) = l.map (·.1) ∧ (setG t v l).map (·.2.2) = l.map (·.2.2)
  | [] => ⟨rfl, rfl⟩
  | x :: r => by
    unfold setG
    by_cases e : t = x.1
    · simp [e]
    · rw [if_neg e]
      have := setG_keys t v r
      exact ⟨by simp [this.1], by simp [this.2]⟩
end
def iv (z : Int) : Value := .int .i64 z
theorem now_int (t : Int) : ∀ (l : List (Int × Value × Nat)) (i : Nat), Instr.findNow (.int .i64) (iv t) (entG iv l) i = some (findG t l i)
  | [], i => rfl
  | x :: r, i => by
    have ih := now_int t r (i + 1)
    simp only [entG, List.map_cons, Instr.findNow, iv, Instr.sameNow, findG, if_pos]
    by_cases h : t = x.1
    · simp [h]
    · have h' : (t == x.1) = false := by simp [h]
      rw [h', if_neg h]; exact ih
theorem intK : KeyK 3 iv := ⟨fun e t W => MapKept.run_checkKey Tryz.underlying3 (by simp [MapKept.IsKey, iv]) e 9999, fun t l W => MapKept.run_findKey Tryz.underlying3 (now_int t l 0), fun t W => by simp [Instr.keyThatStays, Instr.sameBits, iv]⟩
def sv (s : ByteArray) : Value := .string s
theorem now_str (t : ByteArray) : ∀ (l : List (ByteArray × Value × Nat)) (i : Nat), Instr.findNow .string (sv t) (entG sv l) i = some (findG t l i)
  | [], i => rfl
  | x :: r, i => by
    have ih := now_str t r (i + 1)
    simp only [entG, List.map_cons, Instr.findNow, sv, Instr.sameNow, findG]
    by_cases h : t = x.1
    · have h' : (t == x.1) = true := (MapKept.bytes_beq _ _).2 h
      rw [h', if_pos h]
    · have h' : (t == x.1) = false := by
        cases h2 : (t == x.1)
        · rfl
        · exact absurd ((MapKept.bytes_beq _ _).1 h2) h
      rw [h', if_neg h]; exact ih
theorem strK : KeyK 9 sv := ⟨fun e t W => MapKept.run_checkKey Tryz.underlying9 (by simp [MapKept.IsKey, sv]) e 9999, fun t l W => MapKept.run_findKey Tryz.underlying9 (now_str t l 0), fun t W => by
  have h : (t == t) = true := (MapKept.bytes_beq _ _).2 rfl
  simp [Instr.keyThatStays, Instr.sameBits, sv, h]⟩
end Go.Proofs.YtijeakggeichcaaGreatDoor
