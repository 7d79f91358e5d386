/- Rows that package l4 makes: the head of a packet, appended number by number; a row filled whole. Conditions: numbers that are not negative. -/
import Derived.Test.YtgonckbdkgiddaaL4c
import Derived.Lib.AppendStr
import Derived.Laws.MakeOwn
import Derived.Laws.CopyOwn
namespace Go.Proofs.Ytgonckbdkgiddaa
open Go.RowKit

set_option maxHeartbeats 1000000 in
theorem put_any (f : Nat) (hf : f = 65) (w0 W : World) (p : Nat) (xs : List Int) (h : Enc w0 W p xs) (hn : xs.length ≤ 1000000) (v : Int) (hv : 0 ≤ v ∧ v ≤ 9223372036854775807) (s : Nat) (hs : s ≤ 8) :
    Calls Try.prog f #[.int .i64 v, .int .i64 s, .pointer (some ⟨p, 0, none⟩)] W fun e w' => e = .returned (.tuple #[]) ∧ Enc w0 w' p (xs ++ be v s) := by
  subst hf
  obtain ⟨hb, hp, a, cap, hc, ho⟩ := h
  have hc0 := cell_of_one hc
  have hf0 := free_of_one hc
  have HC : Hid _ := hc
  have HO : Hid _ := ho
  have HB : Hid _ := hb
  clear hc ho hb
  go_enter Try.func65, Try.ntmps65
  go_wp2_with fail
  refine (appendNumber_any w0.heap.size W a xs.length cap xs HO.out HB.out.size hn v (by omega) s hs).mono ?_
  rintro e w1 ⟨a', cap', rfl, hr⟩
  have hap := row_apart HO.out HC.out
  have hc1 : w1.heap[p]? = some (.cells #[.slice a xs.length cap] 26 (0, 0)) := (hr.grown.block p (lt_of_block HC.out) (fun e => hap e.symm)).trans HC.out
  have hc1' := cell_of_one hc1
  have hf1 := free_of_one hc1
  have HC1 : Hid _ := hc1
  have HR : Hid _ := hr
  clear hc1 hr hap hc0 hf0
  go_wp2
  go_end0
  refine ⟨rfl, ?_, hp, a', cap', ?_, ?_⟩
  · exact (HB.out.grown HR.out.grown HB.out.size (fun k hk => (World.ownsRow.lt HO.out k hk).1)).setCell hp _
  · rw [one_setCell HC1.out]; simp [be_len]
  · rw [show (xs ++ be v s).length = xs.length + s from by simp [be_len]]
    exact ownsRow_setCell_other HR.out.own (row_apart HR.out.own HC1.out) _

theorem put_lit (w0 W : World) (p : Nat) (xs : List Int) (h : Enc w0 W p xs) (hn : xs.length ≤ 1000000) (v : Int) (hv : 0 ≤ v ∧ v ≤ 9223372036854775807) (s : Int) (hs0 : 0 ≤ s) (hs : s ≤ 8) :
    Calls Try.prog 65 #[.int .i64 v, .int .i64 s, .pointer (some ⟨p, 0, none⟩)] W fun e w' => e = .returned (.tuple #[]) ∧ Enc w0 w' p (xs ++ be v s.toNat) := by
  obtain ⟨s, rfl⟩ := Int.eq_ofNat_of_zero_le hs0
  exact put_any 65 rfl w0 W p xs h hn v hv s (by omega)

theorem enc_start (w2 : World) (arr : Array Value) (c p g : Nat) (hp : p = w2.heap.size + 1) (hg : g = w2.heap.size) (hc : arr.size = c) (hm : c ≤ 1000000) :
    Enc w2 ((w2.alloc (.cells arr 5)).alloc (.cells #[.slice (some ⟨g, 0, none⟩) 0 c] 26)) p [] := by
  subst hp
  subst hg
  refine ⟨below2 w2 _ _, by omega, some ⟨w2.heap.size, 0, none⟩, c, ?_, ?_⟩
  · have := heap_alloc_new (w2.alloc (.cells arr 5)) (.cells #[.slice (some ⟨w2.heap.size, 0, none⟩) 0 c] 26)
    simpa using this
  · exact (World.ownsRow_made w2 arr c (Nat.le_refl _) (by unfold maxLen; omega) (by simpa using hc)).alloc _

theorem make_bytes (w : World) (c : Nat) (hc : c ≤ 281474976710656) : (Instr.makeSlice 26 (.int .i64 0) (.int .i64 (c : Int))).run Try.prog w = .ok (.slice (some ⟨w.heap.size, 0, none⟩) 0 c) (w.alloc (.cells (madeCells #[.int .u8 0] c) 5)) := by
  obtain ⟨i0, hi, hz0, hz1, hz2⟩ := info_parts info5
  have := run_make (P := Try.prog) w 26 5 i0 (.int .u8 0) Try.underlying26 hi hz0 .i64 .i64 0 (c : Int) (by omega) (by omega) (by rw [hz2]; omega) (by omega)
  rw [hz1] at this
  simpa [Value.cells] using this

theorem strCells_nums {os : List Int} (h : ∀ i, 0 ≤ os.getD i 0 ∧ os.getD i 0 ≤ 255) : Lib.strCells (strOfNums os) = os.map (Value.int .u8) := by
  unfold Lib.strCells
  rw [strOfNums_data, List.map_map]
  apply List.map_congr_left
  intro x hx
  obtain ⟨i, hi, rfl⟩ := List.getElem_of_mem hx
  have := h i
  rw [List.getD_eq_getElem?_getD, List.getElem?_eq_getElem hi] at this
  simp only [Option.getD_some] at this
  simp only [Function.comp]
  congr 1
  rw [UInt8.toNat_ofNat']
  omega

theorem wpList_append_str {P : Program} {w : World} {ops : Array Oper} {rest : List Oper} {o : Oper} {act : Act} {Q : Exit → Act → World → Prop} (hgd : o.guard = none) (s x : Operand) (t u : TypeId)
    (ho : o.op = .call { callee := .builtin .append, args := #[s, x], argTypes := #[t, u] })
    (base : Nat) (e : TypeId) (i : TypeInfo) (ht : P.underlying t = some (.slice e)) (hu : P.underlying u = some .string) (hi : P.info? e = some i) (hz : i.zero = some (.int .u8 0)) (hsize : i.size = 1) (hby : i.bytes = 1)
    (v : Value) (n : Nat) (xs : List Int) (hs : act.eval s = v) (hown : w.ownsRow base e 1 v n (xs.map (Value.int .u8)))
    (os : List Int) (hf : ∀ i, 0 ≤ os.getD i 0 ∧ os.getD i 0 ≤ 255) (hx : act.eval x = .string (strOfNums os)) (hsum : n + os.length ≤ 140737488355328) (hbase : base ≤ w.heap.size)
    (h : ∀ a' cap' w', w'.ownsRow base e 1 (.slice a' (n + os.length) cap') (n + os.length) ((xs ++ os).map (Value.int .u8)) → w.grownBy w' v.ownBlock → wpList P ops Q rest (act.put o.dst (.slice a' (n + os.length) cap')) w') : wpList P ops Q (o :: rest) act w := by
  have hsz := strOfNums_size os
  refine Lib.wpList_append_own_string w hgd s x t u ho base e i ht hu hi hz hsize hby v n _ hs hown (strOfNums os) hx (by rw [hsz]; unfold maxLen; omega) (by rw [hsz]; omega) hbase ?_
  intro v' w' h2 h3 _
  rw [hsz, strCells_nums hf, ← List.map_append] at h2
  obtain ⟨a', cap', rfl, _⟩ := own_form h2
  exact h a' cap' w' h2 h3

/-- A row of bytes of the call's own, at the head of its block. -/
structure EncS (w2 V : World) (g N cap : Nat) (B : List Int) : Prop where
  own : V.ownsRow w2.heap.size 5 1 (.slice (some ⟨g, 0, none⟩) N cap) N (B.map (Value.int .u8))
  bel : Below w2.heap.size w2 V
  fits : ∀ i, 0 ≤ B.getD i 0 ∧ B.getD i 0 ≤ 255
  room : N ≤ 281474976710656

theorem EncS.drew {w2 V : World} {g N cap : Nat} {B : List Int} (h : EncS w2 V g N cap B) : EncS w2 V.drew g N cap B := ⟨h.own, h.bel.drew, h.fits, h.room⟩

theorem EncS.drewN {w2 V : World} {g N cap : Nat} {B : List Int} (h : EncS w2 V g N cap B) (q : Nat) : EncS w2 (V.drewN q) g N cap B := ⟨h.own, below_drewN h.bel q, h.fits, h.room⟩

theorem EncS.bs {w2 V : World} {g N cap : Nat} {B : List Int} (h : EncS w2 V g N cap B) : BS V (some ⟨g, 0, none⟩) N B := own_bs h.own h.fits h.room

theorem EncS.cell {w2 V : World} {g N cap : Nat} {B : List Int} (h : EncS w2 V g N cap B) (t : Nat) (ht : t < N) : V.cell? ⟨g, t, none⟩ = some (.int .u8 (B.getD t 0)) := by
  have hl : B.length = N := by have := h.own.1; simpa using this
  rw [h.own.cellAt t (by omega), List.getElem?_map]
  simp [List.getD_eq_getElem?_getD, List.getElem?_eq_getElem (show t < B.length by omega)]

theorem EncS.set {w2 V : World} {g N cap : Nat} {B : List Int} (h : EncS w2 V g N cap B) (t : Nat) (x : Int) (hx : 0 ≤ x ∧ x ≤ 255) : EncS w2 (V.setCell ⟨g, t, none⟩ (.int .u8 x)) g N cap (B.set t x) := by
  refine ⟨?_, ?_, fits_set h.fits t x hx, h.room⟩
  · have := (h.own.stored t (.int .u8 x)).1
    simpa [List.map_set] using this
  · refine h.bel.setCell ?_ _
    exact (World.ownsRow.lt h.own g rfl).1

/-- SetWord on a row of the call's own. -/
theorem setWord_row {w2 V : World} {g N cap : Nat} {B : List Int} (h : EncS w2 V g N cap B) (t : Nat) (v : Int) (hv : 0 ≤ v ∧ v ≤ 65535) (ht : t + 2 ≤ N) :
    Calls Try.prog 42 #[.slice (some ⟨g, 0, none⟩) N cap, .int .i64 t, .int .u16 v] V fun e w' => e = .returned (.tuple #[]) ∧ w' = (V.setCell ⟨g, t, none⟩ (.int .u8 (v / 256))).setCell ⟨g, t + 1, none⟩ (.int .u8 (v % 256)) ∧ EncS w2 w' g N cap ((B.set t (v / 256)).set (t + 1) (v % 256)) := by
  refine (setWord_any V g N cap t v _ _ (h.cell t (by omega)) (h.cell (t + 1) (by omega)) (h.own.frozenAt t) (h.own.frozenAt (t + 1)) hv ht h.room).mono ?_
  rintro e w' ⟨rfl, rfl⟩
  exact ⟨rfl, rfl, (h.set t _ (by omega)).set (t + 1) _ (by omega)⟩

theorem make_full (w : World) (c : Nat) (hc : c ≤ 281474976710656) : (Instr.makeSlice 26 (.int .i64 (c : Int)) (.int .i64 (c : Int))).run Try.prog w = .ok (.slice (some ⟨w.heap.size, 0, none⟩) c c) (w.alloc (.cells (madeCells #[.int .u8 0] c) 5)) := by
  obtain ⟨i0, hi, hz0, hz1, hz2⟩ := info_parts info5
  have := run_make (P := Try.prog) w 26 5 i0 (.int .u8 0) Try.underlying26 hi hz0 .i64 .i64 (c : Int) (c : Int) (by omega) (by omega) (by rw [hz2]; omega) (by omega)
  rw [hz1] at this
  simpa [Value.cells] using this

/-- A row that was filled whole. -/
theorem encS_filled (w V : World) (g n : Nat) (B : List Int) (hg : w.heap.size ≤ g) (hb : Below w.heap.size w V) (hr : V.heap[g]? = some (.cells (B.map (Value.int .u8)).toArray 5 (0, 0))) (hl : B.length = n) (hf : ∀ i, 0 ≤ B.getD i 0 ∧ B.getD i 0 ≤ 255) (hn : n ≤ 281474976710656) : EncS w V g n n B := by
  refine ⟨⟨by simpa using hl, .inr ⟨g, n, _, rfl, hg, hr, Nat.le_refl _, by unfold maxLen; omega, by simpa using hl, ?_⟩⟩, hb, hf, hn⟩
  have : (B.map (Value.int .u8)).length = n := by simpa using hl
  rw [List.take_of_length_le (by simp; omega)]

end Go.Proofs.Ytgonckbdkgiddaa
