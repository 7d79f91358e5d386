/- Laws over any program: scopes with labels, rows of bytes, appends, strings. Plain laws, no condition. -/
import Derived.WalkKit
import Derived.ScopeJumps
import Derived.WalkMore
import Derived.OpenShut
import Derived.WalkLawsBesides
import Derived.WalkSmall
import Derived.Below
import Derived.Deep.QuietTactic
import Derived.BigQuiet
import Derived.Laws.BytesArg
import Derived.Laws.AppendOwnNone
import Derived.Test.YtnahhmcmahbnkaaGreatDoorRows
import Derived.ProofKit
import Derived.ShutString
import Derived.ChangeOld
import Derived.SizedLaws
namespace Go.Proofs.YtnahhmcmahbnkaaGreatDoor.Nm
open Go.RowKit

/-- The rest of a scope's run from one of its labels on. -/
def FromLabel (P : Program) (c : Code) (Q : Exit → Act → World → Prop) (l : Nat) (a : Act) (w : World) : Prop :=
  ∀ b k cs, ∃ e a' w', Q e a' w' ∧ ∃ k1, gotoIn l (.inScope c :: k) = some k1 ∧ Arrives P (lone (b.at a k1) cs w) b k cs e a' w'

/-- As Q; by a goto: what follows from that label on. -/
def Exit.jumpTo (P : Program) (c : Code) (Q : Exit → Act → World → Prop) : Exit → Act → World → Prop
  | .goto l, a, w => FromLabel P c Q l a w
  | e, a, w => Q e a w

theorem scope_from {P : Program} {a : Act} {w : World} {Q : Exit → Act → World → Prop} {c : Code} (h : c.wp P (Exit.jumpTo P c Q) a w) : (Code.scope c).wp P Q a w := by
  intro b k cs
  obtain ⟨e, a₁, w₁, hq, harr⟩ := h b (.inScope c :: k) cs
  cases e with
  | normal => exact ⟨.normal, a₁, w₁, hq, .head step_scope (Steps.trans harr (.one step_inScope))⟩
  | exit id => exact ⟨.exit id, a₁, w₁, hq, fun k' hk => .head step_scope (harr k' (by simp [exitTo, hk]))⟩
  | goto l' =>
    obtain ⟨e₂, a₂, w₂, hq₂, k1, hg, harr₂⟩ := hq b k cs
    exact ⟨e₂, a₂, w₂, hq₂, .of_steps (.head step_scope (harr _ hg)) harr₂⟩
  | ret => exact ⟨_, a₁, w₁, hq, .of_steps (.one step_scope) harr⟩
  | panic ch => exact ⟨_, a₁, w₁, hq, .of_steps (.one step_scope) harr⟩
  | outgrown => exact ⟨_, a₁, w₁, hq, .of_steps (.one step_scope) harr⟩

theorem from_label {P : Program} {a : Act} {w : World} {Q : Exit → Act → World → Prop} {c rest : Code} {l : Nat} (hf : findLabel c l = some (Code.skip.seq rest)) (h : rest.wp P (Exit.jumpTo P c Q) a w) : FromLabel P c Q l a w := by
  intro b k cs
  have hg : gotoIn l (.inScope c :: k) = some (.code (Code.skip.seq rest) :: .inScope c :: k) := by simp [gotoIn, hf]
  obtain ⟨e, a₁, w₁, hq, harr⟩ := (wp_seq (wp_skip h) : (Code.skip.seq rest).wp P (Exit.jumpTo P c Q) a w) b (.inScope c :: k) cs
  cases e with
  | normal => exact ⟨.normal, a₁, w₁, hq, _, hg, Steps.trans harr (.one step_inScope)⟩
  | exit id => exact ⟨.exit id, a₁, w₁, hq, _, hg, fun k' hk => harr k' (by simp [exitTo, hk])⟩
  | goto l' =>
    obtain ⟨e₂, a₂, w₂, hq₂, k1, hg2, harr₂⟩ := hq b k cs
    exact ⟨e₂, a₂, w₂, hq₂, _, hg, .of_steps (harr _ hg2) harr₂⟩
  | ret => exact ⟨_, a₁, w₁, hq, _, hg, harr⟩
  | panic ch => exact ⟨_, a₁, w₁, hq, _, hg, harr⟩
  | outgrown => exact ⟨_, a₁, w₁, hq, _, hg, harr⟩

theorem label_seq {P : Program} {a : Act} {w : World} {Q : Exit → Act → World → Prop} {l : Nat} {r : Code} (h : r.wp P Q a w) : ((Code.label l).seq r).wp P Q a w :=
  wp_seq (wp_label h)

theorem ret_int {k : IntKind} {a b : Int} (h : a = b) : Ending.returned (.int k a) = .returned (.int k b) := by rw [h]

def slotAt (k : Nat) (a' : Act) (_ : World) : Nat := (intOf (a'.tmps.getD k undef)).toNat

/-- A slice of n bytes that can be read: the bytes are zs. -/
structure BS (w : World) (a : Option Addr) (n : Nat) (zs : List Int) : Prop where
  len : zs.length = n
  fits : ∀ i, 0 ≤ zs.getD i 0 ∧ zs.getD i 0 ≤ 255
  room : n ≤ 140737488355328
  cells : n = 0 ∨ ∃ b off, a = some ⟨b, off, none⟩ ∧ ∀ i, i < zs.length → w.cell? ⟨b, off + i, none⟩ = some (.int .u8 (zs.getD i 0))

theorem cell_lt {w : World} {a : Addr} {v : Value} (h : w.cell? a = some v) : a.block < w.heap.size := by
  unfold World.cell? at h
  by_cases hb : a.block < w.heap.size
  · exact hb
  · have : w.heap[a.block]? = none := Array.getElem?_eq_none (by omega)
    simp [this] at h

theorem BS.drewN {w : World} {a : Option Addr} {n : Nat} {zs : List Int} (h : BS w a n zs) (q : Nat) : BS (w.drewN q) a n zs := ⟨h.len, h.fits, h.room, h.cells⟩

theorem BS.drew {w : World} {a : Option Addr} {n : Nat} {zs : List Int} (h : BS w a n zs) : BS w.drew a n zs := ⟨h.len, h.fits, h.room, h.cells⟩

theorem BS.below {w w' : World} {a : Option Addr} {n : Nat} {zs : List Int} (h : BS w a n zs) (hb : Below w.heap.size w w') : BS w' a n zs := by
  refine ⟨h.len, h.fits, h.room, ?_⟩
  rcases h.cells with h0 | ⟨b, off, rfl, hc⟩
  · exact .inl h0
  · exact .inr ⟨b, off, rfl, fun i hi => (hb.cell (cell_lt (hc i hi))).trans (hc i hi)⟩

theorem BS.take {w : World} {a : Option Addr} {n : Nat} {zs : List Int} (h : BS w a n zs) (k : Nat) (hk : k ≤ n) : BS w a k (zs.take k) := by
  have hl := h.len
  refine ⟨by simp; omega, fun i => ?_, by have := h.room; omega, ?_⟩
  · have := h.fits i
    simp only [List.getD_eq_getElem?_getD, List.getElem?_take] at *
    split <;> simp_all
  · rcases h.cells with h0 | ⟨b, off, rfl, hc⟩
    · exact .inl (by omega)
    · refine .inr ⟨b, off, rfl, fun i hi => ?_⟩
      have hi' : i < k := by simp at hi; omega
      rw [hc i (by omega)]
      simp [List.getD_eq_getElem?_getD, hi']

theorem BS.drop {w : World} {b off : Nat} {n : Nat} {zs : List Int} (h : BS w (some ⟨b, off, none⟩) n zs) (hn : 0 < n) (k : Nat) (hk : k ≤ n) : BS w (some ⟨b, off + k, none⟩) (n - k) (zs.drop k) := by
  have hl := h.len
  refine ⟨by simp; omega, fun i => ?_, by have := h.room; omega, ?_⟩
  · have := h.fits (k + i)
    simpa [List.getD_eq_getElem?_getD, List.getElem?_drop] using this
  · rcases h.cells with h0 | ⟨b, off, e, hc⟩
    · omega
    · cases e
      refine .inr ⟨_, _, rfl, fun i hi => ?_⟩
      have := hc (k + i) (by simp at hi; omega)
      rw [Nat.add_assoc, this]
      simp [List.getD_eq_getElem?_getD, List.getElem?_drop]

theorem BS.empty {w : World} (a : Option Addr) : BS w a 0 [] := ⟨rfl, fun i => by simp, by omega, .inl rfl⟩

theorem bs_new (e : TypeId) (w : World) (arr : Array Value) (zs : List Int) (n B : Nat) (hB : B = w.heap.size) (hn : zs.length = n) (he : arr.toList = zs.map (Value.int .u8)) (hz : zs.all (fun z => decide (0 ≤ z ∧ z ≤ 255)) = true) (hr : n ≤ 140737488355328) :
    BS (w.alloc (.cells arr e)) (some ⟨B, 0, none⟩) n zs := by
  subst hB
  refine ⟨hn, fun i => ?_, hr, .inr ⟨w.heap.size, 0, rfl, fun i hi => ?_⟩⟩
  · by_cases hi : i < zs.length
    · have := (List.all_eq_true.1 hz) (zs.getD i 0) (by simp [List.getD_eq_getElem?_getD, hi])
      simpa using this
    · simp [List.getD_eq_getElem?_getD, List.getElem?_eq_none (Nat.le_of_not_lt hi)]
  · have e2 : arr = (zs.map (Value.int .u8)).toArray := by rw [← he]
    subst e2
    simp [World.cell?_alloc_at, hi]

theorem plain_add (b off i : Nat) : (⟨b, off, none⟩ : Addr).add i = ⟨b, off + i, none⟩ := by unfold Addr.add; split <;> simp_all

theorem run_append_none {P : Program} (w : World) (base : Nat) (t ty e : TypeId) (i : TypeInfo) (size : Nat) (ht : P.underlying t = some (.slice e)) (hi : P.info? e = some i)
    (v : Value) (n c : Nat) (xs : List Value) (hown : w.ownsRow base e size v n xs) :
    (Builtin.append_ #[t, t] ty #[v, .slice none 0 c]).run P w = .ok v w := by
  rcases hown.2 with ⟨rfl, rfl⟩ | ⟨g, cap, cur, rfl, _, _, hnc, _⟩
  · simp [Builtin.append_, run_underlying ht, sizeOf, typeInfo, hi, Builtin.lenOf, Builtin.firstCells]
  · simp [Builtin.append_, run_underlying ht, sizeOf, typeInfo, hi, Builtin.lenOf, Builtin.firstCells, hnc, storeCells]

theorem map_get {zs : List Int} {j : Nat} {u : Value} (h : (zs.map (Value.int .u8))[j]? = some u) : j < zs.length ∧ u = .int .u8 (zs.getD j 0) := by
  rw [List.getElem?_map] at h
  rcases hz : zs[j]? with _ | z
  · simp [hz] at h
  · have hj : j < zs.length := (List.getElem?_eq_some_iff.1 hz).1
    refine ⟨hj, ?_⟩
    simp [hz] at h
    simp [List.getD_eq_getElem?_getD, hz, h]

theorem run_append_bs {P : Program} (w : World) (base : Nat) (t ty e : TypeId) (i : TypeInfo) (ht : P.underlying t = some (.slice e)) (hi : P.info? e = some i) (hz : i.zero = some (.int .u8 0)) (hsize : i.size = 1) (hby : i.bytes = 1)
    (v : Value) (n : Nat) (xs : List Int) (hown : w.ownsRow base e 1 v n (xs.map (Value.int .u8))) {a : Option Addr} {m : Nat} {zs : List Int} (c : Nat) (hbs : BS w a m zs)
    (hsum : n + m ≤ 140737488355328) (hbase : base ≤ w.heap.size) :
    ∃ v' w', (Builtin.append_ #[t, t] ty #[v, .slice a m c]).run P w = .ok v' w' ∧ w'.ownsRow base e 1 v' (n + m) ((xs ++ zs).map (Value.int .u8)) ∧ w.grownBy w' v.ownBlock := by
  have hml : n + m ≤ maxLen := by unfold maxLen; omega
  rcases a with _ | ad
  · have hm0 : m = 0 := by
      rcases hbs.cells with h | ⟨b, off, h, _⟩
      · exact h
      · cases h
    subst hm0
    have hz0 : zs = [] := List.length_eq_zero_iff.1 hbs.len
    subst hz0
    refine ⟨v, w, run_append_none w base t ty e i 1 ht hi v n c _ hown, by simpa using hown, World.grownBy.refl _ _⟩
  · obtain ⟨v', w', h1, h2, h3, _⟩ := run_append_own (P := P) w base t ty e i (.int .u8 0) 1 1 ht hi hz hsize hby rfl (by decide) v n _ hown ad m c (zs.map (Value.int .u8)) (by simp [hbs.len]) (fun j u hj => by
      obtain ⟨hjl, rfl⟩ := map_get hj
      rcases hbs.cells with h | ⟨b, off, h, hc⟩
      · have := hbs.len; omega
      · cases h
        rw [plain_add]; exact hc j hjl) (ints_oneCell _ _) hml (by omega) hbase
    exact ⟨v', w', h1, by simpa using h2, h3⟩

theorem own_form {w : World} {base : Nat} {e : TypeId} {v : Value} {n : Nat} {xs : List Value} (h : w.ownsRow base e 1 v n xs) : ∃ a cap, v = .slice a n cap ∧ n ≤ cap := by
  rcases h.2 with ⟨rfl, rfl⟩ | ⟨g, cap, cur, rfl, _, _, hc, _⟩
  · exact ⟨none, 0, rfl, Nat.le_refl _⟩
  · exact ⟨_, cap, rfl, hc⟩

theorem own_bs {w : World} {base : Nat} {e : TypeId} {a : Option Addr} {n cap : Nat} {zs : List Int} (h : w.ownsRow base e 1 (.slice a n cap) n (zs.map (Value.int .u8))) (hf : ∀ i, 0 ≤ zs.getD i 0 ∧ zs.getD i 0 ≤ 255) (hr : n ≤ 140737488355328) : BS w a n zs := by
  have hl : zs.length = n := by have := h.1; simpa using this
  refine ⟨hl, hf, hr, ?_⟩
  rcases h.2 with ⟨h0, rfl⟩ | ⟨g, cap', cur, e1, hb, hcells, hnc, _, hsz, htk⟩
  · exact .inl rfl
  · have e2 : a = some ⟨g, 0, none⟩ := by injection e1
    have e3 : cap = cap' := by injection e1
    subst e2
    subst e3
    refine .inr ⟨g, 0, rfl, fun i hi => ?_⟩
    have := h.cellAt i (by omega)
    rw [Nat.zero_add, this, List.getElem?_map]
    simp [List.getD_eq_getElem?_getD, List.getElem?_eq_getElem hi]

theorem wpList_append_bs {P : Program} {w : World} {ops : Array Oper} {rest : List Oper} {o : Oper} {act : Act} {Q : Exit → Act → World → Prop} (hw : Region.wanted o (yielded ops act.tmps) = true) (s x : Operand) (t : TypeId)
    (ho : o.op = .call { callee := .builtin .append, args := #[s, x], argTypes := #[t, t] })
    (base : Nat) (e : TypeId) (i : TypeInfo) (ht : P.underlying t = some (.slice e)) (hi : P.info? e = some i) (hz : i.zero = some (.int .u8 0)) (hsize : i.size = 1) (hby : i.bytes = 1)
    (v : Value) (n : Nat) (xs : List Int) (hs : act.eval s = v) (hown : w.ownsRow base e 1 v n (xs.map (Value.int .u8)))
    (a : Option Addr) (m c : Nat) (zs : List Int) (hx : act.eval x = .slice a m c) (hbs : BS w a m zs) (hsum : n + m ≤ 140737488355328) (hbase : base ≤ w.heap.size)
    (h : ∀ a' cap' w', w'.ownsRow base e 1 (.slice a' (n + m) cap') (n + m) ((xs ++ zs).map (Value.int .u8)) → w.grownBy w' v.ownBlock → wpList P ops Q rest (act.put o.dst (.slice a' (n + m) cap')) w') : wpList P ops Q (o :: rest) act w := by
  refine BigFrame.wpList_want hw fun K hK => ?_
  obtain ⟨v', w', hr, h2, h3⟩ := run_append_bs (P := P) w base t o.type e i ht hi hz hsize hby v n xs hown c hbs hsum hbase
  obtain ⟨a', cap', rfl, _⟩ := own_form h2
  unfold Oper.wp execOp
  simp only [ho, resolve, invoke, builtin, Sem.run_bind, Sem.run_pure, Result.andThen_ok, List.map_toArray, List.map_cons, List.map_nil, hs, hx, hr]
  exact hK _ _ (h a' cap' w' h2 h3)

theorem run_conv_bs {P : Program} {w : World} {a : Option Addr} {n : Nat} {zs : List Int} (cap : Nat) (h : BS w a n zs) (src dst e : TypeId) (hs : P.underlying src = some (.slice e)) (he : P.underlying e = some (.int .u8)) (hd : P.underlying dst = some .string) :
    (convert src dst (.slice a n cap)).run P w = .ok (.string (strOfNums zs)) w := by
  rcases h.cells with h0 | ⟨b, off, rfl, hc⟩
  · subst h0
    have hz0 : zs = [] := List.length_eq_zero_iff.1 h.len
    subst hz0
    rcases a with _ | ad
    · exact run_convert_bytes_nil w src e hs he 0 cap dst hd
    · rw [run_convert_bytes_string w src dst e _ 0 cap hs he hd, run_bytesToString w ad 0 cap [] (by simp [loadCells, loadCellsFrom])]
      rfl
  · exact run_convert_bytes_arg w src e hs he b off n cap zs h.len (fun i hi => hc i (by have := h.len; omega)) dst hd

theorem own_some {w : World} {base : Nat} {e : TypeId} {a : Option Addr} {n cap : Nat} {xs : List Value} (h : w.ownsRow base e 1 (.slice a n cap) n xs) (hn : 0 < n) : ∃ g, a = some ⟨g, 0, none⟩ ∧ base ≤ g ∧ g < w.heap.size := by
  rcases h.2 with ⟨h0, h1⟩ | ⟨g, cap', cur, e1, hb, hcells, _⟩
  · omega
  · have e2 : a = some ⟨g, 0, none⟩ := by injection e1
    refine ⟨g, e2, hb, ?_⟩
    rcases Nat.lt_or_ge g w.heap.size with h' | h'
    · exact h'
    · simp [Array.getElem?_eq_none h'] at hcells

theorem fits_append {xs ys : List Int} (hx : ∀ i, 0 ≤ xs.getD i 0 ∧ xs.getD i 0 ≤ 255) (hy : ∀ i, 0 ≤ ys.getD i 0 ∧ ys.getD i 0 ≤ 255) : ∀ i, 0 ≤ (xs ++ ys).getD i 0 ∧ (xs ++ ys).getD i 0 ≤ 255 := by
  intro i
  simp only [List.getD_eq_getElem?_getD, List.getElem?_append] at *
  split
  · exact hx i
  · exact hy _

theorem fits_two {x y : Int} (hx : 0 ≤ x ∧ x ≤ 255) (hy : 0 ≤ y ∧ y ≤ 255) : ∀ i, 0 ≤ [x, y].getD i 0 ∧ [x, y].getD i 0 ≤ 255 := by
  intro i
  match i with
  | 0 => exact hx
  | 1 => exact hy
  | i + 2 => simp

end Go.Proofs.YtnahhmcmahbnkaaGreatDoor.Nm
/- What a slice of bytes among a law's arguments is: readable bytes, at most 2^47 of them. A law of the frame; no condition beyond the form's own reach. -/
namespace Go.Proofs.YtnahhmcmahbnkaaGreatDoor.Nm
open Go.ChangeShapes Go.WideShapes Go.ChangeAt Go.RowKit

theorem own : ownKnob Tryz.prog.godebug = none := by kernel_rfl
theorem laidOut : laidOutB Tryz.prog = true := by kernel_rfl
theorem bytes5 : Tryz.prog.bytesOf 5 = 1 := by kernel_rfl
theorem info5 : (Tryz.prog.info? 5).map (fun i => (i.zero, i.size, i.bytes)) = some (some (.int .u8 0), 1, 1) := by kernel_rfl

theorem open_bytes {H : Type} {enc : TypeId × Value → H} {W : World} {a : Option Addr} {len cap : Nat} {d : DataW H} {p : List MemPlace} {ts : List TypeId} {ds : List (DataW H)} (j : Nat)
    (h : DataW.Trod enc Tryz.prog W 0 (fun _ => true) true 126 (.slice a len cap) d p) (hsz : (DataW.weightsEach Tryz.prog ts ds).all (· ≤ reachBytes) = true) (ht : ts[j]? = some 126) (hd : ds[j]? = some d) :
    ∃ zs, BS W a len zs ∧ len ≤ cap ∧ cap ≤ 140737488351232 := by
  obtain ⟨fuel, hf⟩ := h
  rcases open_ints Tryz.underlying126 Tryz.underlying5 (by kernel_rfl) hf with ⟨hcs, _⟩ | ⟨x, l, c, zs, hcs, _, hl, hm, hz, hx, hcell, hwz⟩
  · simp [Value.cells] at hcs
    obtain ⟨rfl, rfl, rfl⟩ := hcs
    exact ⟨[], BS.empty _, by omega, by omega⟩
  · simp [Value.cells] at hcs
    obtain ⟨rfl, rfl, rfl⟩ := hcs
    simp only [Prod.mk.injEq] at hx
    obtain ⟨rfl, _⟩ := hx
    have hz' : zs.length = cap := by simpa using hz
    have hs := sized_slice hsz ht hd Tryz.underlying126
    rw [bytes5] at hs
    simp only [lits, List.length_map, List.length_take, List.length_drop, reachBytes] at hs
    have hcap : cap ≤ 140737488351232 := by omega
    refine ⟨zs.take len, ⟨by simp; omega, fun i => ?_, by omega, ?_⟩, hl, hcap⟩
    · by_cases hi : i < (zs.take len).length
      · have hmem : (zs.take len).getD i 0 ∈ zs := by
          simp only [List.getD_eq_getElem?_getD, List.getElem?_eq_getElem hi, Option.getD_some]
          exact List.mem_of_mem_take (List.getElem_mem hi)
        have := bounds_u8 (hwz _ hmem)
        exact this
      · simp [List.getD_eq_getElem?_getD, List.getElem?_eq_none (Nat.le_of_not_lt hi)]
    · by_cases h0 : len = 0
      · exact .inl h0
      · obtain ⟨b, off, spot⟩ := x
        have hc := hcell 0 (by omega)
        have hspot : spot = none := by simpa [Addr.add] using World.cell?_spot hc
        subst hspot
        refine .inr ⟨b, off, rfl, fun i hi => ?_⟩
        have hi' : i < len := by simp at hi; omega
        have := hcell i (by omega)
        rw [show (⟨b, off, none⟩ : Addr).add i = ⟨b, off + i, none⟩ from by unfold Addr.add; split <;> simp_all] at this
        rw [this]
        simp [List.getD_eq_getElem?_getD, hi']
end Go.Proofs.YtnahhmcmahbnkaaGreatDoor.Nm
