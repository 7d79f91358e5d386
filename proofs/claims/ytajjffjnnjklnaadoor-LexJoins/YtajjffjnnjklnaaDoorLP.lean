/- Rows of tokens; the tokens of a text (lex.Tokens). Conditions: none beyond a string's size; the library's two errors lie where the program's text lays them. -/
import Derived.Test.YtajjffjnnjklnaaDoorLO
import Derived.Deep.DeepAppendWide
import Derived.Laws.AppendOwn
import Derived.OwnWalk
namespace Go.Proofs.YtajjffjnnjklnaaDoor
open Go.Shelf Go.RowKit
def Tk.l (x : Tk) : List Value := [.int .i64 x.k, .string x.t, .int .u64 x.n, .int .i64 x.a]
def rowTk (ts : List Tk) : List Value := ts.flatMap Tk.l
theorem rowTk_cons (t : Tk) (r : List Tk) : rowTk (t :: r) = t.l ++ rowTk r := by simp [rowTk]
theorem rowTk_append (a b : List Tk) : rowTk (a ++ b) = rowTk a ++ rowTk b := by simp [rowTk]
theorem rowTk_length (ts : List Tk) : (rowTk ts).length = ts.length * 4 := by
  induction ts with
  | nil => rfl
  | cons t r ih => rw [rowTk_cons, List.length_append, ih, List.length_cons]; simp [Tk.l]; omega
theorem rowTk_at : ∀ (ts : List Tk) (i : Nat) (t : Tk), ts[i]? = some t → ∀ k, k < 4 → (rowTk ts)[i * 4 + k]? = t.l[k]? := by
  intro ts
  induction ts with
  | nil => intro i t h; simp at h
  | cons x r ih =>
    intro i t h k hk
    rw [rowTk_cons]
    cases i with
    | zero =>
      simp at h
      subst h
      rw [List.getElem?_append_left (by simp [Tk.l]; omega)]
      simp
    | succ i =>
      have h' : r[i]? = some t := by simpa using h
      rw [List.getElem?_append_right (by simp [Tk.l]; omega), ← ih i t h' k hk]
      congr 1
      simp [Tk.l]; omega
theorem rowTk_one (ts : List Tk) : ∀ u ∈ rowTk ts, u.oneCell' = true := by
  intro u hu
  simp only [rowTk, List.mem_flatMap, Tk.l, List.mem_cons, List.not_mem_nil, or_false] at hu
  obtain ⟨t, _, rfl | rfl | rfl | rfl⟩ := hu <;> rfl
/-- A slice of tokens that can be read. -/
structure TKS (w : World) (a : Option Addr) (n : Nat) (ts : List Tk) : Prop where
  len : ts.length = n
  room : n ≤ 1000000
  cells : n = 0 ∨ ∃ b off, a = some ⟨b, off, none⟩ ∧ ∀ i t, ts[i]? = some t → w.cell? ⟨b, off + i * 4, none⟩ = some (.int .i64 t.k) ∧ w.cell? ⟨b, off + i * 4 + 1, none⟩ = some (.string t.t) ∧ w.cell? ⟨b, off + i * 4 + 2, none⟩ = some (.int .u64 t.n) ∧ w.cell? ⟨b, off + i * 4 + 3, none⟩ = some (.int .i64 t.a)
theorem TKS.below {w w' : World} {a : Option Addr} {n : Nat} {ts : List Tk} (h : TKS w a n ts) (hb : Below w.heap.size w w') : TKS w' a n ts := by
  refine ⟨h.len, h.room, ?_⟩
  rcases h.cells with h0 | ⟨b, off, rfl, hc⟩
  · exact .inl h0
  · refine .inr ⟨b, off, rfl, fun i t hi => ?_⟩
    obtain ⟨c0, c1, c2, c3⟩ := hc i t hi
    exact ⟨(hb.cell (cell_lt c0)).trans c0, (hb.cell (cell_lt c1)).trans c1, (hb.cell (cell_lt c2)).trans c2, (hb.cell (cell_lt c3)).trans c3⟩
theorem TKS.at {w : World} {a : Option Addr} {n k : Nat} {ts : List Tk} {t : Tk} (h : TKS w a n ts) (ht : ts[k]? = some t) : ∃ b off, a = some ⟨b, off, none⟩ ∧ w.cell? ⟨b, off + k * 4, none⟩ = some (.int .i64 t.k) ∧ w.cell? ⟨b, off + k * 4 + 1, none⟩ = some (.string t.t) ∧ w.cell? ⟨b, off + k * 4 + 2, none⟩ = some (.int .u64 t.n) ∧ w.cell? ⟨b, off + k * 4 + 3, none⟩ = some (.int .i64 t.a) ∧ b < w.heap.size := by
  rcases h.cells with h0 | ⟨b, off, e, hc⟩
  · have := (List.getElem?_eq_some_iff.1 ht).1
    have := h.len
    omega
  · obtain ⟨c0, c1, c2, c3⟩ := hc k t ht
    exact ⟨b, off, e, c0, c1, c2, c3, cell_lt c0⟩
theorem lt_of_heap9 {w : World} {k : Nat} {o : Obj} (h : w.heap[k]? = some o) : k < w.heap.size := (Array.getElem?_eq_some_iff.1 h).1
theorem own_below {w w' : World} {base : Nat} {e : TypeId} {k : Nat} {v : Value} {n : Nat} {xs : List Value} (h : w.ownsRow base e k v n xs) (hb : Below w.heap.size w w') : w'.ownsRow base e k v n xs := by
  refine ⟨h.1, ?_⟩
  rcases h.2 with h' | ⟨g, cap, cur, e1, e2, e3, e4⟩
  · exact .inl h'
  · exact .inr ⟨g, cap, cur, e1, e2, (hb.block _ (lt_of_heap9 e3)).trans e3, e4⟩
theorem own_form4 {w : World} {base : Nat} {e : TypeId} {k : Nat} {v : Value} {n : Nat} {xs : List Value} (h : w.ownsRow base e k v n xs) : ∃ a cap, v = .slice a n cap ∧ n ≤ cap := by
  rcases h.2 with ⟨rfl, rfl⟩ | ⟨g, cap, cur, rfl, _, _, hc, _⟩
  · exact ⟨none, 0, rfl, Nat.le_refl _⟩
  · exact ⟨_, cap, rfl, hc⟩
theorem own_tks {w : World} {base : Nat} {v : Value} {ts : List Tk} (h : w.ownsRow base 32 4 v ts.length (rowTk ts)) (hr : ts.length ≤ 1000000) : ∃ a cap, v = .slice a ts.length cap ∧ ts.length ≤ cap ∧ TKS w a ts.length ts := by
  rcases h.2 with ⟨h0, h1⟩ | ⟨g, cap', cur, e1, hb, hcells, hnc, _, hsz, htk⟩
  · exact ⟨none, 0, by rw [h0, h1], by omega, rfl, hr, .inl h1⟩
  · refine ⟨_, cap', e1, hnc, rfl, hr, .inr ⟨g, 0, rfl, fun i t hi => ?_⟩⟩
    have hil := (List.getElem?_eq_some_iff.1 hi).1
    have q : ∀ k, k < 4 → w.cell? ⟨g, i * 4 + k, none⟩ = t.l[k]? := fun k hk => by
      subst e1
      have := h.cellAt (i * 4 + k) (by omega)
      rw [this, rowTk_at ts i t hi k hk]
    have q0 := q 0 (by omega)
    have q1 := q 1 (by omega)
    have q2 := q 2 (by omega)
    have q3 := q 3 (by omega)
    simp only [Nat.zero_add]
    exact ⟨q0, q1, q2, q3⟩
theorem infoTk : ∃ i : TypeInfo, Tryd.prog.info? 32 = some i ∧ i.zero = some (.agg #[.int .i64 0, .string ⟨#[]⟩, .int .u64 0, .int .i64 0]) ∧ i.size = 4 ∧ i.bytes = 40 := by
  obtain ⟨i, h1, h2, h3, h4⟩ := info_parts (show (Tryd.prog.info? 32).map (fun i => (i.zero, i.size, i.bytes)) = some (some (.agg #[.int .i64 0, .string ⟨#[]⟩, .int .u64 0, .int .i64 0]), 4, 40) from by kernel_rfl)
  exact ⟨i, h1, h2, h3, h4⟩
theorem wpList_append_run {ops : Array Oper} {rest : List Oper} {op : Oper} {a : Act} {w w' : World} {Q : Exit → Act → World → Prop} (hgd : op.guard = none) (s x : Operand) (t : TypeId) (ho : op.op = Op.call { callee := Callee.builtin Builtin.append, args := #[s, x], argTypes := #[t, t] })
    (sv xv : Value) (hs : a.eval s = sv) (hx : a.eval x = xv) (v : Value) (hr : (Builtin.append_ #[t, t] op.type #[sv, xv]).run Tryd.prog w = .ok v w')
    (h : wpList Tryd.prog ops Q rest (a.put op.dst v) w') : wpList Tryd.prog ops Q (op :: rest) a w := by
  refine wpList_plain hgd fun K hK => ?_
  unfold Oper.wp
  simp [execOp, ho, resolve, invoke, builtin, hs, hx, hr, Result.andThen]
  exact hK _ _ h
theorem cell_row {w : World} {b : Nat} {cs : Array Value} {t : TypeId} (h : w.heap[b]? = some (.cells cs t (0, 0))) (i : Nat) : w.cell? ⟨b, i, none⟩ = cs[i]? := by
  simp [World.cell?, h]
theorem plain_add4 (b off i : Nat) : (⟨b, off, none⟩ : Addr).add i = ⟨b, off + i, none⟩ := by unfold Addr.add; split <;> simp_all
/-- One token behind a row of one's own. -/
theorem run_append_tk (w : World) (base : Nat) (v : Value) (xs : List Tk) (hown : w.ownsRow base 32 4 v xs.length (rowTk xs)) (x : Tk) (hsum : xs.length ≤ 100000) (hbase : base ≤ w.heap.size) :
    ∃ v' w', (Builtin.append_ #[22, 22] 22 #[v, .slice (some ⟨w.heap.size, 0, none⟩) 1 1]).run Tryd.prog (w.alloc (.cells #[.int .i64 x.k, .string x.t, .int .u64 x.n, .int .i64 x.a] 32)) = .ok v' w' ∧ w'.ownsRow base 32 4 v' (xs ++ [x]).length (rowTk (xs ++ [x])) ∧ Below base w w' := by
  obtain ⟨i, hi, hz, hs, hby⟩ := infoTk
  have hb1 : Below w.heap.size w (w.alloc (.cells #[.int .i64 x.k, .string x.t, .int .u64 x.n, .int .i64 x.a] 32)) := (Below.refl _ _).alloc (Nat.le_refl _) _
  have hx := own_below hown hb1
  have hcell : ∀ j, j < 4 → (w.alloc (.cells #[.int .i64 x.k, .string x.t, .int .u64 x.n, .int .i64 x.a] 32)).cell? ⟨w.heap.size, j, none⟩ = x.l[j]? := fun j hj => by
    rw [cell_row (heap_alloc_new _ _)]
    match j, hj with
    | 0, _ => rfl
    | 1, _ => rfl
    | 2, _ => rfl
    | 3, _ => rfl
  obtain ⟨v', w', h1, h2, h3, _⟩ := run_append_own (P := Tryd.prog) _ base 22 22 32 i _ 4 40 Tryd.underlying22 hi hz hs hby rfl (by decide) v xs.length _ hx ⟨w.heap.size, 0, none⟩ 1 1 x.l rfl (fun j u hj => by
    rw [plain_add4, Nat.zero_add, hcell j (List.getElem?_eq_some_iff.1 hj).1]; exact hj) (fun u hu => rowTk_one [x] u (by simpa [rowTk] using hu)) (by unfold maxLen; omega) (by omega) (by simp; omega)
  refine ⟨v', w', h1, ?_, ?_⟩
  · rw [rowTk_append, List.length_append]
    have : rowTk [x] = x.l := by simp [rowTk]
    rw [this]
    exact h2
  · exact (hb1.mono hbase).grown h3 (by simp; omega) (fun q hq => (World.ownsRow.lt hx q hq).1)
theorem blkF_le (s : ByteArray) : ∀ (f k : Nat) (m : Bool), k ≤ s.size → k ≤ blkF s f k m ∧ blkF s f k m ≤ s.size
  | 0, k, m, h => by unfold blkF; exact ⟨Nat.le_refl _, h⟩
  | f + 1, k, false, h => by
    unfold blkF
    split
    · omega
    · split
      · have := blkF_le s f (k + 1) false (by omega); omega
      · split
        · exact blkF_le s f k true h
        · omega
  | f + 1, k, true, h => by
    unfold blkF
    split
    · exact blkF_le s f k false h
    · have := blkF_le s f (k + 1) true (by omega); omega
theorem blkS_le (s : ByteArray) : blkS s ≤ s.size := (blkF_le s _ 0 false (Nat.zero_le _)).2
/-- A reader's token: no longer than the text; its Text no longer either. -/
def Fits (s : ByteArray) (r : Tk × Nat) : Prop := r.2 ≤ s.size ∧ r.1.t.size ≤ s.size
theorem fits_tz (s : ByteArray) : Fits s (tz, 0) := ⟨Nat.zero_le _, Nat.zero_le _⟩
theorem adFrom_le {s : ByteArray} : ∀ {k : Nat} {r : Nat × Int}, adFrom s k = some r → r.1 ≤ k
  | 0, r, h => by unfold adFrom at h; cases h
  | k + 1, r, h => by
    unfold adFrom at h
    split at h
    · cases h
    · unfold pick9 at h
      split at h
      · cases h; exact Nat.le_refl _
      · have := adFrom_le h; omega
theorem fits_ext (s : ByteArray) (k : Nat) (hk : k ≤ s.size) (a n b : Int) : Fits s (⟨a, s.extract 0 k, n, b⟩, k) := ⟨hk, by show (s.extract 0 k).size ≤ s.size; rw [ByteArray.size_extract]; omega⟩
theorem fits_name (s : ByteArray) : Fits s (tkName s) := by
  unfold tkName; split
  · exact fits_tz s
  · exact fits_ext s _ (runS_b _ _) _ _ _
theorem numP_le {s : ByteArray} {r : Nat × Nat} (h : numP s = some r) : r.1 ≤ s.size := by
  unfold numP with9 at h
  have hb := runS_b s digB
  split at h
  · cases h
  · split at h
    · rename_i hX
      split at h
      · cases h
        have hb2 := runS_b (s.extract 2 s.size) hexB
        rw [show (s.extract 2 s.size).size = s.size - 2 by simp] at hb2
        unfold isX Lib.hasPrefix at hX
        have := (List.isPrefixOf_iff_prefix.1 hX).length_le
        simp at this
        show 2 + hexRun s ≤ s.size
        unfold hexRun; omega
      · cases h
    · split at h
      · cases h; exact hb
      · cases h
theorem fits_num (s : ByteArray) : Fits s (tkNum s) := by
  unfold tkNum fin9; split
  · exact fits_tz s
  · rename_i r h
    split
    · exact fits_tz s
    · exact fits_ext s _ (numP_le h) _ _ _
theorem macSpec_size {s : ByteArray} {m : Int} (h : macSpec s = some m) : s.size = 17 := by
  unfold macSpec at h
  split at h
  · assumption
  · cases h
theorem fits_mac (s : ByteArray) : Fits s (tkMac s) := by
  unfold tkMac fin3; split
  · rename_i m h
    have := macSpec_size h
    simp at this
    exact ⟨by show 17 ≤ s.size; omega, by show (s.extract 0 (min s.size 17)).size ≤ s.size; rw [ByteArray.size_extract]; omega⟩
  · exact fits_tz s
theorem fits_addr (s : ByteArray) : Fits s (tkAddr s) := by
  unfold tkAddr fin4; split
  · rename_i r h
    have := adFrom_le h
    exact fits_ext s _ (by omega) _ _ _
  · exact fits_tz s
theorem fits_op (s : ByteArray) : Fits s (tkOp s) := by
  unfold tkOp; split
  · rename_i h; exact fits_ext s 2 h.1 _ _ _
  · split
    · rename_i h; exact fits_ext s 1 h.1 _ _ _
    · exact ⟨Nat.zero_le _, Nat.zero_le _⟩
theorem fits_text (s : ByteArray) : Fits s (tkText s) := by
  unfold tkText; split
  · rename_i h
    exact ⟨by show 1 + runS (s.extract 1 s.size) textB + 1 ≤ s.size; omega, by show (s.extract 1 (1 + runS (s.extract 1 s.size) textB)).size ≤ s.size; rw [ByteArray.size_extract]; omega⟩
  · exact fits_tz s
theorem fits_best {s : ByteArray} {a b : Tk × Nat} (ha : Fits s a) (hb : Fits s b) : Fits s (best a b) := by unfold best; split <;> assumption
theorem longS_eq (s : ByteArray) : longS s = best (best (best (best (best (best (tz, 0) (tkName s)) (tkNum s)) (tkMac s)) (tkAddr s)) (tkOp s)) (tkText s) := rfl
theorem fits_long (s : ByteArray) : Fits s (longS s) := by
  rw [longS_eq]
  exact fits_best (fits_best (fits_best (fits_best (fits_best (fits_best (fits_tz s) (fits_name s)) (fits_num s)) (fits_mac s)) (fits_addr s)) (fits_op s)) (fits_text s)
/-- The tokens from a place on, behind those that are there; or the place of the first fault. -/
def tokF (s : ByteArray) : Nat → Nat → List Tk → Option (List Tk) × Nat
  | 0, _, _ => (none, 0)
  | f + 1, k, acc =>
    if k + blkS (s.extract k s.size) = s.size then (some (acc ++ [⟨7, ⟨#[]⟩, 0, (s.size : Nat)⟩]), 0)
    else if (longS (s.extract (k + blkS (s.extract k s.size)) s.size)).2 = 0 then (none, k + blkS (s.extract k s.size))
    else tokF s f (k + blkS (s.extract k s.size) + (longS (s.extract (k + blkS (s.extract k s.size)) s.size)).2) (acc ++ [{ (longS (s.extract (k + blkS (s.extract k s.size)) s.size)).1 with a := ((k + blkS (s.extract k s.size) : Nat) : Int) }])
def tokS (s : ByteArray) : Option (List Tk) × Nat := tokF s (s.size + 1) 0 []
/-- What Tokens answers. -/
def TokAns (w w' : World) (r : Option (List Tk) × Nat) (e : Ending) : Prop := match r with
  | (some L, _) => ∃ v, e = .returned (.tuple #[v, .int .i64 0, .int .i64 0]) ∧ w'.ownsRow w.heap.size 32 4 v L.length (rowTk L) ∧ L.length ≤ 4097
  | (none, k) => e = .returned (.tuple #[.slice none 0 0, .int .i64 140, .int .i64 (k : Nat)])
set_option maxHeartbeats 1000000 in
theorem tokens_long (s : ByteArray) (hs : 4096 < s.size) (hm : s.size ≤ maxLen) (w : World) :
    Calls Tryd.prog 7 #[.string s] w fun e w' => e = .returned (.tuple #[.slice none 0 0, .int .i64 3, .int .i64 0]) ∧ w' = w := by
  unfold maxLen at hm
  have hI : (4096 : Int) < s.size := by omega
  go_enter Tryd.func7, Tryd.ntmps7
  go_wp2_with fail
  refine scope_from ?_
  go_wp2
  simp only [Exit.jumpTo]
  refine bodyPost_ret (results_tmp3 rfl _ _ _) rfl ?_
  exact ⟨rfl, rfl⟩
set_option maxRecDepth 20000 in
set_option maxHeartbeats 16000000 in
theorem tokens_any (s : ByteArray) (hs : s.size ≤ 4096) (w : World) (E : Errs w) :
    Calls Tryd.prog 7 #[.string s] w fun e w' => TokAns w w' (tokS s) e ∧ Below w.heap.size w w' := by
  have HE : Hid (Errs w) := E
  have hsI : ¬ (4096 : Int) < s.size := by omega
  obtain ⟨R, hR⟩ : ∃ R, tokS s = R := ⟨_, rfl⟩
  rw [hR]
  have HR : Hid (tokF s (s.size + 1) 0 [] = R) := hR
  clear hR E
  go_enter Tryd.func7, Tryd.ntmps7
  go_wp2_with fail
  refine scope_loop 0 (fun a' w' => ∃ (f k : Nat) (v : Value) (acc : List Tk) (u1 u7 u8 u9 u10 u11 u12 u13 u14 u15 u16 u17 u18 u19 u20 u21 u22 u23 u24 u25 u26 u27 u28 u29 u30 u31 u32 u33 u34 u35 u36 u37 u38 u39 u40 u41 u42 u43 u44 u45 : Value), a' = { tmps := #[.string s, u1, .slice none 0 0, .int .i64 0, .int .i64 0, v, .int .i64 (k : Nat), u7, u8, u9, u10, u11, u12, u13, u14, u15, u16, u17, u18, u19, u20, u21, u22, u23, u24, u25, u26, u27, u28, u29, u30, u31, u32, u33, u34, u35, u36, u37, u38, u39, u40, u41, u42, u43, u44, u45], defers := [] } ∧ k ≤ s.size ∧ s.size - k < f ∧ acc.length ≤ k ∧ Hid (tokF s f k acc = R) ∧ Hid (w'.ownsRow w.heap.size 32 4 v acc.length (rowTk acc)) ∧ Hid (Below w.heap.size w w')) (fun a' w' => s.size - slotAt 6 a' w') rfl ?_ ?_
  · rintro a' w' ⟨f, k, v, acc, u1, u7, u8, u9, u10, u11, u12, u13, u14, u15, u16, u17, u18, u19, u20, u21, u22, u23, u24, u25, u26, u27, u28, u29, u30, u31, u32, u33, u34, u35, u36, u37, u38, u39, u40, u41, u42, u43, u44, u45, rfl, hk, hf, hacc, HF, HO, HB⟩ IH
    obtain ⟨f, rfl⟩ : ∃ g, f = g + 1 := ⟨f - 1, by omega⟩
    have hkI : (k : Int) ≤ s.size := by omega
    have hF1 : tokF s (f + 1) k acc = if k + blkS (s.extract k s.size) = s.size then (some (acc ++ [⟨7, ⟨#[]⟩, 0, (s.size : Nat)⟩]), 0)
      else if (longS (s.extract (k + blkS (s.extract k s.size)) s.size)).2 = 0 then (none, k + blkS (s.extract k s.size))
      else tokF s f (k + blkS (s.extract k s.size) + (longS (s.extract (k + blkS (s.extract k s.size)) s.size)).2) (acc ++ [{ (longS (s.extract (k + blkS (s.extract k s.size)) s.size)).1 with a := ((k + blkS (s.extract k s.size) : Nat) : Int) }]) := rfl
    rw [hF1] at HF
    clear hF1
    have HBK : Hid (∀ W, Calls Tryd.prog 14 #[.string (s.extract k s.size)] W fun e w' => e = .returned (.int .i64 (blkS (s.extract k s.size) : Nat)) ∧ w' = W) := fun W => blanks_any _ (by unfold maxLen; simp; omega) W
    have hbl := blkS_le (s.extract k s.size)
    rw [show (s.extract k s.size).size = s.size - k by simp] at hbl
    obtain ⟨b, hb⟩ : ∃ b, blkS (s.extract k s.size) = b := ⟨_, rfl⟩
    rw [hb] at HF HBK hbl
    clear hb
    obtain ⟨p, hp⟩ : ∃ p, k + b = p := ⟨_, rfl⟩
    rw [hp] at HF
    have hsum : (k : Int) + (b : Int) = (p : Int) := by omega
    have hwp : IntKind.i64.wrap (p : Int) = (p : Int) := by simp [IntKind.wrap, IntKind.bits, IntKind.signed]; omega
    have hpI : (p : Int) ≤ s.size := by omega
    have hkp : k ≤ p := by omega
    clear hp
    by_cases hend : p = s.size
    · have hendI : ((p : Int) == (s.size : Int)) = true := by simp [hend]
      have HR2 : Hid (R = (some (acc ++ [⟨7, ⟨#[]⟩, 0, (s.size : Nat)⟩]), 0)) := by show _ = _; rw [← HF.out, if_pos hend]
      obtain ⟨v', w5, hap, hrow, hb5⟩ := run_append_tk w' w.heap.size v acc HO.out ⟨7, ⟨#[]⟩, 0, (p : Nat)⟩ (by omega) HB.out.size
      have HAP := Lib.hid hap
      have HROW := Lib.hid hrow
      have HB5 := Lib.hid (HB.out.trans hb5)
      have HEND := Lib.hid hend
      clear HF IH hend hap hrow hb5
      go_wp2_with (first | (go_at_call 14; refine (HBK.out _).mono ?_; rintro e W ⟨rfl, hw⟩; rw [hw]; clear hw) | (at_builtin; refine wpList_append_run rfl _ _ 22 rfl _ _ rfl rfl _ HAP.out ?_) | fail)
      simp only [Exit.jumpTo]
      refine bodyPost_ret (results_tmp3 rfl _ _ _) rfl ?_
      refine ⟨?_, HB5.out⟩
      rw [HR2.out]
      refine ⟨v', rfl, by rw [← HEND.out]; exact HROW.out, by rw [List.length_append]; simp; omega⟩
    have hendI : ((p : Int) == (s.size : Int)) = false := by simp; omega
    have hplt : p < s.size := by omega
    rw [if_neg hend] at HF
    have hfit := fits_long (s.extract p s.size)
    unfold Fits at hfit
    rw [show (s.extract p s.size).size = s.size - p by simp] at hfit
    have HLG : Hid (∀ W, Errs W → Calls Tryd.prog 15 #[.string (s.extract p s.size)] W fun e w' => e = .returned (.tuple #[.agg #[.int .i64 (longS (s.extract p s.size)).1.k, .string (longS (s.extract p s.size)).1.t, .int .u64 (longS (s.extract p s.size)).1.n, .int .i64 (longS (s.extract p s.size)).1.a], .int .i64 ((longS (s.extract p s.size)).2 : Nat)]) ∧ Below W.heap.size W w') := fun W E => longest_any _ (by simp; omega) (by simp; omega) (by omega) W E
    obtain ⟨⟨⟨xk, xt, xn, xa⟩, xm⟩, hx⟩ : ∃ x, longS (s.extract p s.size) = x := ⟨_, rfl⟩
    rw [hx] at HLG HF hfit
    obtain ⟨hfit, _⟩ := hfit
    clear hx hend
    have hfit : xm ≤ s.size - p := hfit
    have HLG : Hid (∀ W, Errs W → Calls Tryd.prog 15 #[.string (s.extract p s.size)] W fun e w' => e = .returned (.tuple #[.agg #[.int .i64 xk, .string xt, .int .u64 xn, .int .i64 xa], .int .i64 (xm : Nat)]) ∧ Below W.heap.size W w') := HLG
    have HF : Hid ((if xm = 0 then (none, p) else tokF s f (p + xm) (acc ++ [⟨xk, xt, xn, (p : Nat)⟩])) = R) := HF
    have EW := Lib.hid (HE.out.below HB.out)
    by_cases h0 : xm = 0
    · have h0I : ((xm : Int) == 0) = true := by simp [h0]
      have HR2 : Hid (R = (none, p)) := by show _ = _; rw [← HF.out, if_pos h0]
      clear HF IH h0 HO
      go_wp2_with (first | (go_at_call 14; refine (HBK.out _).mono ?_; rintro e W ⟨rfl, hw⟩; rw [hw]; clear hw) | fail)
      refine (HLG.out _ EW.out).mono ?_
      rintro e W ⟨rfl, hbw⟩
      have HB5 := Lib.hid ((HB.out.trans (hbw.mono HB.out.size)).alloc (by have := HB.out.size; have := hbw.size; omega) (.cells #[.int .i64 xk, .string xt, .int .u64 xn, .int .i64 xa] 32))
      clear hbw
      go_wp2
      simp only [Exit.jumpTo]
      refine bodyPost_ret (results_tmp3 rfl _ _ _) rfl ?_
      refine ⟨?_, HB5.out⟩
      rw [HR2.out]
      rfl
    have h0I : ((xm : Int) == 0) = false := by simp; omega
    have HF2 : Hid (tokF s f (p + xm) (acc ++ [⟨xk, xt, xn, (p : Nat)⟩]) = R) := by show _ = _; rw [← HF.out, if_neg h0]
    clear HF
    go_wp2_with (first | (go_at_call 14; refine (HBK.out _).mono ?_; rintro e W ⟨rfl, hw⟩; rw [hw]; clear hw) | fail)
    refine (HLG.out _ EW.out).mono ?_
    rintro e W ⟨rfl, hbw⟩
    have hsz1 := HB.out.size
    have hsz2 := hbw.size
    have hb1 : Below w'.heap.size w' (W.alloc (.cells #[.int .i64 xk, .string xt, .int .u64 xn, .int .i64 (p : Nat)] 32)) := hbw.alloc hsz2 _
    obtain ⟨v', w5, hap, hrow, hb5⟩ := run_append_tk (W.alloc (.cells #[.int .i64 xk, .string xt, .int .u64 xn, .int .i64 (p : Nat)] 32)) w.heap.size v acc (own_below HO.out hb1) ⟨xk, xt, xn, (p : Nat)⟩ (by omega) (by simp; omega)
    have hap : (Builtin.append_ #[22, 22] 22 #[v, .slice (some ⟨W.heap.size + 1, 0, none⟩) 1 1]).run Tryd.prog ((W.alloc (.cells #[.int .i64 xk, .string xt, .int .u64 xn, .int .i64 (p : Nat)] 32)).alloc (.cells #[.int .i64 xk, .string xt, .int .u64 xn, .int .i64 (p : Nat)] 32)) = .ok v' w5 := by
      rw [show W.heap.size + 1 = (W.alloc (.cells #[.int .i64 xk, .string xt, .int .u64 xn, .int .i64 (p : Nat)] 32)).heap.size by simp]; exact hap
    have HAP := Lib.hid hap
    have HROW := Lib.hid hrow
    have HB5 := Lib.hid ((HB.out.trans (hb1.mono hsz1)).trans hb5)
    have hsum2 : (p : Int) + (xm : Int) = ((p + xm : Nat) : Int) := by omega
    have hwp2 : IntKind.i64.wrap ((p : Int) + (xm : Int)) = (p : Int) + (xm : Int) := by simp [IntKind.wrap, IntKind.bits, IntKind.signed]; omega
    have HS2 := Lib.hid hsum2
    clear hap hrow hb5 hb1 hbw HO EW HLG hsum2
    go_wp2_with (first | (at_builtin; refine wpList_append_run rfl _ _ 22 rfl _ _ rfl rfl _ HAP.out ?_) | fail)
    go_step3
    show FromLabel _ _ _ _ _ _
    refine IH.out _ _ ⟨f, p + xm, v', acc ++ [⟨xk, xt, xn, (p : Nat)⟩], _, _, _, _, _, _, _, _, _, _, _, _, _, _, _, _, _, _, _, _, _, _, _, _, _, _, _, _, _, _, _, _, _, _, _, _, _, _, _, _, by first | rfl | (rw [← HS2.out]) | go_num, by omega, by omega, by rw [List.length_append]; simp; omega, HF2, HROW, HB5⟩ ?_
    simp [slotAt, intOf]; omega
  · intro HG
    go_wp2_with fail
    go_step3
    rename_i K hK
    exact hK _ _ (HG.out _ _ ⟨s.size + 1, 0, .slice none 0 0, [], _, _, _, _, _, _, _, _, _, _, _, _, _, _, _, _, _, _, _, _, _, _, _, _, _, _, _, _, _, _, _, _, _, _, _, _, _, _, _, _, by first | rfl | go_num, by omega, by omega, by simp, HR, ⟨by simp [rowTk], .inl ⟨rfl, rfl⟩⟩, Below.refl _ _⟩)
end Go.Proofs.YtajjffjnnjklnaaDoor
