/- Maps under tuples and under zones' numbers: looking up, storing, deleting. Plain laws; no condition. -/
import Derived.Test.YtjjehncnjcepkaaCC
import Derived.MapKept
import Derived.WideKeyRuns
namespace Go.Proofs.Ytjjehncnjcepkaa
open Go.RowKit
/-- A tuple: protocol, addresses, ports. -/
abbrev Tup := Int × Int × Int × Int × Int
def tv (t : Tup) : Value := .agg (tupC t.1 t.2.1 t.2.2.1 t.2.2.2.1 t.2.2.2.2)
theorem eq_tup (a b : Tup) (W : World) : (Op.equal 44 (tv a) (tv b)).run Try.prog W = .ok (decide (a = b)) W := by
  obtain ⟨a0, a1, a2, a3, a4⟩ := a
  obtain ⟨b0, b1, b2, b3, b4⟩ := b
  unfold tv tupC
  by_cases h0 : a0 = b0
  · by_cases h1 : a1 = b1
    · by_cases h2 : a2 = b2
      · by_cases h3 : a3 = b3
        · by_cases h4 : a4 = b4
          · subst h0 h1 h2 h3 h4; simp [Op.equal, Op.maxDepth, go_sem]
          · subst h0 h1 h2 h3; simp [Op.equal, Op.maxDepth, go_sem, h4]
        · subst h0 h1 h2; simp [Op.equal, Op.maxDepth, go_sem, h3]
      · subst h0 h1; simp [Op.equal, Op.maxDepth, go_sem, h2]
    · subst h0; simp [Op.equal, Op.maxDepth, go_sem, h1]
  · simp [Op.equal, Op.maxDepth, go_sem, h0]
theorem check_tup (e : Bool) (t : Tup) (W : World) : (Instr.checkKey e 10000 44 (tv t)).run Try.prog W = .ok () W := by
  obtain ⟨a0, a1, a2, a3, a4⟩ := t
  kernel_rfl
/-- A world in which one block holds another object. -/
def putObj (w : World) (r : Nat) (o : Obj) : World := { w with heap := w.heap.setIfInBounds r o }
theorem putObj_same {w : World} {r : Nat} (h : r < w.heap.size) (o : Obj) : (putObj w r o).heap[r]? = some o := by
  unfold putObj; exact Array.getElem?_setIfInBounds_self_of_lt h
theorem putObj_other (w : World) {r k : Nat} (h : k ≠ r) (o : Obj) : (putObj w r o).heap[k]? = w.heap[k]? := by
  unfold putObj; exact Array.getElem?_setIfInBounds_ne (fun e => h e.symm)
theorem putObj_size (w : World) (r : Nat) (o : Obj) : (putObj w r o).heap.size = w.heap.size := by simp [putObj]
theorem putObj_below (w : World) (r : Nat) (o : Obj) : Below r w (putObj w r o) := ⟨rfl, rfl, rfl, by rw [putObj_size]; exact Nat.le_refl _, fun k hk => putObj_other w (by omega) o⟩
theorem map_eraseIdx {A B : Type} (f : A → B) : ∀ (l : List A) (i : Nat), (l.map f).eraseIdx i = (l.eraseIdx i).map f
  | [], _ => rfl
  | _ :: _, 0 => rfl
  | x :: r, i + 1 => by simp [map_eraseIdx f r i]
section
variable {K : Type} [DecidableEq K]
/-- The entries of a map: key, value, stamp. -/
def entG (kv : K → Value) (l : List (K × Value × Nat)) : List MapEntry := l.map fun x => { key := kv x.1, val := x.2.1, born := x.2.2 }
def findG (t : K) : List (K × Value × Nat) → Nat → Option (Nat × Value)
  | [], _ => none
  | x :: r, i => if t = x.1 then some (i, x.2.1) else findG t r (i + 1)
/-- What the model does with keys of a type. -/
structure KeyK (KT : TypeId) (kv : K → Value) : Prop where
  check : ∀ e t W, (Instr.checkKey e 10000 KT (kv t)).run Try.prog W = .ok () W
  find : ∀ t l W, (Instr.findKey KT (kv t) (entG kv l)).run Try.prog W = .ok (findG t l 0) W
variable {KT MT ET : TypeId} {kv : K → Value}
theorem look_any (hK : KeyK KT kv) (hu : Try.prog.underlying MT = some (.map KT ET)) (z : Value) (hz : ∀ W, (zeroValue ET).run Try.prog W = .ok z W) {w : World} {r c : Nat} {l : List (K × Value × Nat)} (hb : w.heap[r]? = some (.map (entG kv l).toArray c)) (t : K) :
    (Instr.lookup MT (.map (some r)) (kv t) false).run Try.prog w = .ok (((findG t l 0).map (·.2)).getD z) w := by
  simp only [Instr.lookup, Sem.run_bind, run_underlying hu, Result.andThen_ok, MapKept.run_getObj_map hb, Sem.run_pure, hK.check, hK.find]
  cases findG t l 0 <;> simp [hz]
theorem look_nil (hK : KeyK KT kv) (hu : Try.prog.underlying MT = some (.map KT ET)) (z : Value) (hz : ∀ W, (zeroValue ET).run Try.prog W = .ok z W) (w : World) (t : K) :
    (Instr.lookup MT (.map none) (kv t) false).run Try.prog w = .ok z w := by
  have h := hK.find t [] w
  have h' : (Instr.findKey KT (kv t) []).run Try.prog w = .ok none w := h
  simp only [Instr.lookup, Sem.run_bind, run_underlying hu, Result.andThen_ok, Sem.run_pure, hK.check, h', hz]
  simp
theorem put_new (hK : KeyK KT kv) (hu : Try.prog.underlying MT = some (.map KT ET)) {w : World} {r c : Nat} {l : List (K × Value × Nat)} (hb : w.heap[r]? = some (.map (entG kv l).toArray c)) (t : K) (hf : findG t l 0 = none) (v : Value) :
    (Instr.mapUpdate MT (.map (some r)) (kv t) v).run Try.prog w = .ok () (putObj w r (.map (entG kv (l ++ [(t, v, c)])).toArray (c + 1))) := by
  simp only [Instr.mapUpdate, Sem.run_bind, run_underlying hu, Result.andThen_ok, MapKept.run_getObj_map hb, hK.check, hK.find, hf, MapKept.run_setObj_map _ hb]
  simp [entG, putObj]
theorem del_one (hK : KeyK KT kv) (hu : Try.prog.underlying MT = some (.map KT ET)) {w : World} {r c : Nat} {l : List (K × Value × Nat)} (hb : w.heap[r]? = some (.map (entG kv l).toArray c)) (t : K) {i : Nat} {v : Value} (hf : findG t l 0 = some (i, v)) (ty : TypeId) (ats : Array TypeId) (ha : ats[0]? = some MT) :
    (Builtin.delete_ ats ty #[.map (some r), kv t]).run Try.prog w = .ok (.tuple #[]) (putObj w r (.map (entG kv (l.eraseIdx i)).toArray c)) := by
  have e9 : (entG kv l).toArray.eraseIdxIfInBounds i = (entG kv (l.eraseIdx i)).toArray := by
    simp [entG, map_eraseIdx]
  simp only [Builtin.delete_, ha, List.getElem?_toArray, List.getElem?_cons_zero, List.getElem?_cons_succ, Sem.run_bind, run_underlying hu, Result.andThen_ok, MapKept.run_getObj_map hb, hK.check, hK.find, hf, MapKept.run_setObj_map _ hb, Sem.run_pure]
  rw [e9]; rfl
end
theorem asking_tup (t : Tup) : ∀ (l : List (Tup × Value × Nat)) (i : Nat) (W : World), (Instr.findAsking 44 (tv t) (entG tv l) i).run Try.prog W = .ok (findG t l i) W
  | [], i, W => by simp [entG, Instr.findAsking, findG]
  | x :: r, i, W => by
    have ih := asking_tup t r (i + 1) W
    simp only [entG, List.map_cons, Instr.findAsking, Sem.run_bind, eq_tup, Result.andThen_ok, findG]
    by_cases h : t = x.1
    · simp [h]
    · simp [h]; exact ih
theorem tupK : KeyK 44 tv := ⟨fun e t W => check_tup e t W, fun t l W => by rw [run_findKey_eq W (by kernel_rfl)]; exact asking_tup t l 0 W⟩
def iv (z : Int) : Value := .int .i64 z
theorem now_int (t : Int) : ∀ (l : List (Int × Value × Nat)) (i : Nat), Instr.findNow (.int .i64) (iv t) (entG iv l) i = some (findG t l i)
  | [], i => rfl
  | x :: r, i => by
    have ih := now_int t r (i + 1)
    simp only [entG, List.map_cons, Instr.findNow, iv, Instr.sameNow, findG, if_pos]
    by_cases h : t = x.1
    · simp [h]
    · have h' : (t == x.1) = false := by simp [h]
      rw [h', if_neg h]; exact ih
theorem intK : KeyK 3 iv := ⟨fun e t W => MapKept.run_checkKey Try.underlying3 (by simp [MapKept.IsKey, iv]) e 9999, fun t l W => MapKept.run_findKey Try.underlying3 (now_int t l 0)⟩
end Go.Proofs.Ytjjehncnjcepkaa
