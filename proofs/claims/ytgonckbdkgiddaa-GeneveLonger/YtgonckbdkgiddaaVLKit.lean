/- Parts of the proof, in one text. -/
import Derived.WalkKit
import Derived.ScopeJumps
import Derived.WalkMore
import Derived.OpenShut
import Derived.WalkLawsBesides
import Derived.WalkSmall
import Derived.Below
import Derived.Deep.QuietTactic
import Derived.BigQuiet
import Derived.Laws.BytesArg
import Derived.Laws.AppendOwnNone
import Derived.ProofKit
import Derived.ShutString
import Derived.ChangeOld
import Derived.SizedLaws
import Derived.Maps.AppendAt
import Derived.OneCell
import Derived.Deep.RegionHeld3
import Derived.Deep.RegionWith
import Derived.Deep.DrawnRows
import Derived.Deep.RegionLaw
namespace Go.Proofs.Ytgonckbdkgiddaa
open Go.RowKit

/-- The rest of a scope's run from one of its labels on. -/
def FromLabel (P : Program) (c : Code) (Q : Exit → Act → World → Prop) (l : Nat) (a : Act) (w : World) : Prop :=
  ∀ b k cs, ∃ e a' w', Q e a' w' ∧ ∃ k1, gotoIn l (.inScope c :: k) = some k1 ∧ Arrives P (lone (b.at a k1) cs w) b k cs e a' w'

/-- As Q; by a goto: what follows from that label on. -/
def Exit.jumpTo (P : Program) (c : Code) (Q : Exit → Act → World → Prop) : Exit → Act → World → Prop
  | .goto l, a, w => FromLabel P c Q l a w
  | e, a, w => Q e a w

theorem scope_from {P : Program} {a : Act} {w : World} {Q : Exit → Act → World → Prop} {c : Code} (h : c.wp P (Exit.jumpTo P c Q) a w) : (Code.scope c).wp P Q a w := by
  intro b k cs
  obtain ⟨e, a₁, w₁, hq, harr⟩ := h b (.inScope c :: k) cs
  cases e with
  | normal => exact ⟨.normal, a₁, w₁, hq, .head step_scope (Steps.trans harr (.one step_inScope))⟩
  | exit id => exact ⟨.exit id, a₁, w₁, hq, fun k' hk => .head step_scope (harr k' (by simp [exitTo, hk]))⟩
  | goto l' =>
    obtain ⟨e₂, a₂, w₂, hq₂, k1, hg, harr₂⟩ := hq b k cs
    exact ⟨e₂, a₂, w₂, hq₂, .of_steps (.head step_scope (harr _ hg)) harr₂⟩
  | ret => exact ⟨_, a₁, w₁, hq, .of_steps (.one step_scope) harr⟩
  | panic ch => exact ⟨_, a₁, w₁, hq, .of_steps (.one step_scope) harr⟩
  | outgrown => exact ⟨_, a₁, w₁, hq, .of_steps (.one step_scope) harr⟩

theorem from_label {P : Program} {a : Act} {w : World} {Q : Exit → Act → World → Prop} {c rest : Code} {l : Nat} (hf : findLabel c l = some (Code.skip.seq rest)) (h : rest.wp P (Exit.jumpTo P c Q) a w) : FromLabel P c Q l a w := by
  intro b k cs
  have hg : gotoIn l (.inScope c :: k) = some (.code (Code.skip.seq rest) :: .inScope c :: k) := by simp [gotoIn, hf]
  obtain ⟨e, a₁, w₁, hq, harr⟩ := (wp_seq (wp_skip h) : (Code.skip.seq rest).wp P (Exit.jumpTo P c Q) a w) b (.inScope c :: k) cs
  cases e with
  | normal => exact ⟨.normal, a₁, w₁, hq, _, hg, Steps.trans harr (.one step_inScope)⟩
  | exit id => exact ⟨.exit id, a₁, w₁, hq, _, hg, fun k' hk => harr k' (by simp [exitTo, hk])⟩
  | goto l' =>
    obtain ⟨e₂, a₂, w₂, hq₂, k1, hg2, harr₂⟩ := hq b k cs
    exact ⟨e₂, a₂, w₂, hq₂, _, hg, .of_steps (harr _ hg2) harr₂⟩
  | ret => exact ⟨_, a₁, w₁, hq, _, hg, harr⟩
  | panic ch => exact ⟨_, a₁, w₁, hq, _, hg, harr⟩
  | outgrown => exact ⟨_, a₁, w₁, hq, _, hg, harr⟩

theorem label_seq {P : Program} {a : Act} {w : World} {Q : Exit → Act → World → Prop} {l : Nat} {r : Code} (h : r.wp P Q a w) : ((Code.label l).seq r).wp P Q a w :=
  wp_seq (wp_label h)

theorem ret_int {k : IntKind} {a b : Int} (h : a = b) : Ending.returned (.int k a) = .returned (.int k b) := by rw [h]

def slotAt (k : Nat) (a' : Act) (_ : World) : Nat := (intOf (a'.tmps.getD k undef)).toNat

/-- A slice of n bytes that can be read: the bytes are zs. -/
structure BS (w : World) (a : Option Addr) (n : Nat) (zs : List Int) : Prop where
  len : zs.length = n
  fits : ∀ i, 0 ≤ zs.getD i 0 ∧ zs.getD i 0 ≤ 255
  room : n ≤ 281474976710656
  cells : n = 0 ∨ ∃ b off, a = some ⟨b, off, none⟩ ∧ ∀ i, i < zs.length → w.cell? ⟨b, off + i, none⟩ = some (.int .u8 (zs.getD i 0))

theorem cell_lt {w : World} {a : Addr} {v : Value} (h : w.cell? a = some v) : a.block < w.heap.size := by
  unfold World.cell? at h
  by_cases hb : a.block < w.heap.size
  · exact hb
  · have : w.heap[a.block]? = none := Array.getElem?_eq_none (by omega)
    simp [this] at h

theorem BS.drewN {w : World} {a : Option Addr} {n : Nat} {zs : List Int} (h : BS w a n zs) (q : Nat) : BS (w.drewN q) a n zs := ⟨h.len, h.fits, h.room, h.cells⟩

theorem BS.drew {w : World} {a : Option Addr} {n : Nat} {zs : List Int} (h : BS w a n zs) : BS w.drew a n zs := ⟨h.len, h.fits, h.room, h.cells⟩

theorem BS.below {w w' : World} {a : Option Addr} {n : Nat} {zs : List Int} (h : BS w a n zs) (hb : Below w.heap.size w w') : BS w' a n zs := by
  refine ⟨h.len, h.fits, h.room, ?_⟩
  rcases h.cells with h0 | ⟨b, off, rfl, hc⟩
  · exact .inl h0
  · exact .inr ⟨b, off, rfl, fun i hi => (hb.cell (cell_lt (hc i hi))).trans (hc i hi)⟩

theorem BS.take {w : World} {a : Option Addr} {n : Nat} {zs : List Int} (h : BS w a n zs) (k : Nat) (hk : k ≤ n) : BS w a k (zs.take k) := by
  have hl := h.len
  refine ⟨by simp; omega, fun i => ?_, by have := h.room; omega, ?_⟩
  · have := h.fits i
    simp only [List.getD_eq_getElem?_getD, List.getElem?_take] at *
    split <;> simp_all
  · rcases h.cells with h0 | ⟨b, off, rfl, hc⟩
    · exact .inl (by omega)
    · refine .inr ⟨b, off, rfl, fun i hi => ?_⟩
      have hi' : i < k := by simp at hi; omega
      rw [hc i (by omega)]
      simp [List.getD_eq_getElem?_getD, hi']

theorem BS.drop {w : World} {b off : Nat} {n : Nat} {zs : List Int} (h : BS w (some ⟨b, off, none⟩) n zs) (hn : 0 < n) (k : Nat) (hk : k ≤ n) : BS w (some ⟨b, off + k, none⟩) (n - k) (zs.drop k) := by
  have hl := h.len
  refine ⟨by simp; omega, fun i => ?_, by have := h.room; omega, ?_⟩
  · have := h.fits (k + i)
    simpa [List.getD_eq_getElem?_getD, List.getElem?_drop] using this
  · rcases h.cells with h0 | ⟨b, off, e, hc⟩
    · omega
    · cases e
      refine .inr ⟨_, _, rfl, fun i hi => ?_⟩
      have := hc (k + i) (by simp at hi; omega)
      rw [Nat.add_assoc, this]
      simp [List.getD_eq_getElem?_getD, List.getElem?_drop]

theorem BS.empty {w : World} (a : Option Addr) : BS w a 0 [] := ⟨rfl, fun i => by simp, by omega, .inl rfl⟩

theorem bs_new (e : TypeId) (w : World) (arr : Array Value) (zs : List Int) (n B : Nat) (hB : B = w.heap.size) (hn : zs.length = n) (he : arr.toList = zs.map (Value.int .u8)) (hz : zs.all (fun z => decide (0 ≤ z ∧ z ≤ 255)) = true) (hr : n ≤ 281474976710656) :
    BS (w.alloc (.cells arr e)) (some ⟨B, 0, none⟩) n zs := by
  subst hB
  refine ⟨hn, fun i => ?_, hr, .inr ⟨w.heap.size, 0, rfl, fun i hi => ?_⟩⟩
  · by_cases hi : i < zs.length
    · have := (List.all_eq_true.1 hz) (zs.getD i 0) (by simp [List.getD_eq_getElem?_getD, hi])
      simpa using this
    · simp [List.getD_eq_getElem?_getD, List.getElem?_eq_none (Nat.le_of_not_lt hi)]
  · have e2 : arr = (zs.map (Value.int .u8)).toArray := by rw [← he]
    subst e2
    simp [World.cell?_alloc_at, hi]

theorem plain_add (b off i : Nat) : (⟨b, off, none⟩ : Addr).add i = ⟨b, off + i, none⟩ := by unfold Addr.add; split <;> simp_all

theorem run_append_none {P : Program} (w : World) (base : Nat) (t ty e : TypeId) (i : TypeInfo) (size : Nat) (ht : P.underlying t = some (.slice e)) (hi : P.info? e = some i)
    (v : Value) (n c : Nat) (xs : List Value) (hown : w.ownsRow base e size v n xs) :
    (Builtin.append_ #[t, t] ty #[v, .slice none 0 c]).run P w = .ok v w := by
  rcases hown.2 with ⟨rfl, rfl⟩ | ⟨g, cap, cur, rfl, _, _, hnc, _⟩
  · simp [Builtin.append_, run_underlying ht, sizeOf, typeInfo, hi, Builtin.lenOf, Builtin.firstCells]
  · simp [Builtin.append_, run_underlying ht, sizeOf, typeInfo, hi, Builtin.lenOf, Builtin.firstCells, hnc, storeCells]

theorem map_get {zs : List Int} {j : Nat} {u : Value} (h : (zs.map (Value.int .u8))[j]? = some u) : j < zs.length ∧ u = .int .u8 (zs.getD j 0) := by
  rw [List.getElem?_map] at h
  rcases hz : zs[j]? with _ | z
  · simp [hz] at h
  · have hj : j < zs.length := (List.getElem?_eq_some_iff.1 hz).1
    refine ⟨hj, ?_⟩
    simp [hz] at h
    simp [List.getD_eq_getElem?_getD, hz, h]

theorem run_append_bs {P : Program} (w : World) (base : Nat) (t ty e : TypeId) (i : TypeInfo) (ht : P.underlying t = some (.slice e)) (hi : P.info? e = some i) (hz : i.zero = some (.int .u8 0)) (hsize : i.size = 1) (hby : i.bytes = 1)
    (v : Value) (n : Nat) (xs : List Int) (hown : w.ownsRow base e 1 v n (xs.map (Value.int .u8))) {a : Option Addr} {m : Nat} {zs : List Int} (c : Nat) (hbs : BS w a m zs)
    (hsum : n + m ≤ 140737488355328) (hbase : base ≤ w.heap.size) :
    ∃ v' w', (Builtin.append_ #[t, t] ty #[v, .slice a m c]).run P w = .ok v' w' ∧ w'.ownsRow base e 1 v' (n + m) ((xs ++ zs).map (Value.int .u8)) ∧ w.grownBy w' v.ownBlock := by
  have hml : n + m ≤ maxLen := by unfold maxLen; omega
  rcases a with _ | ad
  · have hm0 : m = 0 := by
      rcases hbs.cells with h | ⟨b, off, h, _⟩
      · exact h
      · cases h
    subst hm0
    have hz0 : zs = [] := List.length_eq_zero_iff.1 hbs.len
    subst hz0
    refine ⟨v, w, run_append_none w base t ty e i 1 ht hi v n c _ hown, by simpa using hown, World.grownBy.refl _ _⟩
  · obtain ⟨v', w', h1, h2, h3, _⟩ := run_append_own (P := P) w base t ty e i (.int .u8 0) 1 1 ht hi hz hsize hby rfl (by decide) v n _ hown ad m c (zs.map (Value.int .u8)) (by simp [hbs.len]) (fun j u hj => by
      obtain ⟨hjl, rfl⟩ := map_get hj
      rcases hbs.cells with h | ⟨b, off, h, hc⟩
      · have := hbs.len; omega
      · cases h
        rw [plain_add]; exact hc j hjl) (ints_oneCell _ _) hml (by omega) hbase
    exact ⟨v', w', h1, by simpa using h2, h3⟩

theorem own_form {w : World} {base : Nat} {e : TypeId} {v : Value} {n : Nat} {xs : List Value} (h : w.ownsRow base e 1 v n xs) : ∃ a cap, v = .slice a n cap ∧ n ≤ cap := by
  rcases h.2 with ⟨rfl, rfl⟩ | ⟨g, cap, cur, rfl, _, _, hc, _⟩
  · exact ⟨none, 0, rfl, Nat.le_refl _⟩
  · exact ⟨_, cap, rfl, hc⟩

theorem own_bs {w : World} {base : Nat} {e : TypeId} {a : Option Addr} {n cap : Nat} {zs : List Int} (h : w.ownsRow base e 1 (.slice a n cap) n (zs.map (Value.int .u8))) (hf : ∀ i, 0 ≤ zs.getD i 0 ∧ zs.getD i 0 ≤ 255) (hr : n ≤ 281474976710656) : BS w a n zs := by
  have hl : zs.length = n := by have := h.1; simpa using this
  refine ⟨hl, hf, hr, ?_⟩
  rcases h.2 with ⟨h0, rfl⟩ | ⟨g, cap', cur, e1, hb, hcells, hnc, _, hsz, htk⟩
  · exact .inl rfl
  · have e2 : a = some ⟨g, 0, none⟩ := by injection e1
    have e3 : cap = cap' := by injection e1
    subst e2
    subst e3
    refine .inr ⟨g, 0, rfl, fun i hi => ?_⟩
    have := h.cellAt i (by omega)
    rw [Nat.zero_add, this, List.getElem?_map]
    simp [List.getD_eq_getElem?_getD, List.getElem?_eq_getElem hi]

theorem wpList_append_bs {P : Program} {w : World} {ops : Array Oper} {rest : List Oper} {o : Oper} {act : Act} {Q : Exit → Act → World → Prop} (hw : Region.wanted o (yielded ops act.tmps) = true) (s x : Operand) (t : TypeId)
    (ho : o.op = .call { callee := .builtin .append, args := #[s, x], argTypes := #[t, t] })
    (base : Nat) (e : TypeId) (i : TypeInfo) (ht : P.underlying t = some (.slice e)) (hi : P.info? e = some i) (hz : i.zero = some (.int .u8 0)) (hsize : i.size = 1) (hby : i.bytes = 1)
    (v : Value) (n : Nat) (xs : List Int) (hs : act.eval s = v) (hown : w.ownsRow base e 1 v n (xs.map (Value.int .u8)))
    (a : Option Addr) (m c : Nat) (zs : List Int) (hx : act.eval x = .slice a m c) (hbs : BS w a m zs) (hsum : n + m ≤ 140737488355328) (hbase : base ≤ w.heap.size)
    (h : ∀ a' cap' w', w'.ownsRow base e 1 (.slice a' (n + m) cap') (n + m) ((xs ++ zs).map (Value.int .u8)) → w.grownBy w' v.ownBlock → wpList P ops Q rest (act.put o.dst (.slice a' (n + m) cap')) w') : wpList P ops Q (o :: rest) act w := by
  refine BigFrame.wpList_want hw fun K hK => ?_
  obtain ⟨v', w', hr, h2, h3⟩ := run_append_bs (P := P) w base t o.type e i ht hi hz hsize hby v n xs hown c hbs hsum hbase
  obtain ⟨a', cap', rfl, _⟩ := own_form h2
  unfold Oper.wp execOp
  simp only [ho, resolve, invoke, builtin, Sem.run_bind, Sem.run_pure, Result.andThen_ok, List.map_toArray, List.map_cons, List.map_nil, hs, hx, hr]
  exact hK _ _ (h a' cap' w' h2 h3)

theorem run_conv_bs {P : Program} {w : World} {a : Option Addr} {n : Nat} {zs : List Int} (cap : Nat) (h : BS w a n zs) (src dst e : TypeId) (hs : P.underlying src = some (.slice e)) (he : P.underlying e = some (.int .u8)) (hd : P.underlying dst = some .string) :
    (convert src dst (.slice a n cap)).run P w = .ok (.string (strOfNums zs)) w := by
  rcases h.cells with h0 | ⟨b, off, rfl, hc⟩
  · subst h0
    have hz0 : zs = [] := List.length_eq_zero_iff.1 h.len
    subst hz0
    rcases a with _ | ad
    · exact run_convert_bytes_nil w src e hs he 0 cap dst hd
    · rw [run_convert_bytes_string w src dst e _ 0 cap hs he hd, run_bytesToString w ad 0 cap [] (by simp [loadCells, loadCellsFrom])]
      rfl
  · exact run_convert_bytes_arg w src e hs he b off n cap zs h.len (fun i hi => hc i (by have := h.len; omega)) dst hd

theorem own_some {w : World} {base : Nat} {e : TypeId} {a : Option Addr} {n cap : Nat} {xs : List Value} (h : w.ownsRow base e 1 (.slice a n cap) n xs) (hn : 0 < n) : ∃ g, a = some ⟨g, 0, none⟩ ∧ base ≤ g ∧ g < w.heap.size := by
  rcases h.2 with ⟨h0, h1⟩ | ⟨g, cap', cur, e1, hb, hcells, _⟩
  · omega
  · have e2 : a = some ⟨g, 0, none⟩ := by injection e1
    refine ⟨g, e2, hb, ?_⟩
    rcases Nat.lt_or_ge g w.heap.size with h' | h'
    · exact h'
    · simp [Array.getElem?_eq_none h'] at hcells

theorem fits_append {xs ys : List Int} (hx : ∀ i, 0 ≤ xs.getD i 0 ∧ xs.getD i 0 ≤ 255) (hy : ∀ i, 0 ≤ ys.getD i 0 ∧ ys.getD i 0 ≤ 255) : ∀ i, 0 ≤ (xs ++ ys).getD i 0 ∧ (xs ++ ys).getD i 0 ≤ 255 := by
  intro i
  simp only [List.getD_eq_getElem?_getD, List.getElem?_append] at *
  split
  · exact hx i
  · exact hy _

end Go.Proofs.Ytgonckbdkgiddaa

namespace Go.Proofs.Ytgonckbdkgiddaa
open Go.ChangeShapes Go.WideShapes Go.ChangeAt Go.RowKit

theorem own : ownKnob Try.prog.godebug = none := by kernel_rfl
theorem laidOut : laidOutB Try.prog = true := by kernel_rfl
theorem bytes5 : Try.prog.bytesOf 5 = 1 := by kernel_rfl
theorem info5 : (Try.prog.info? 5).map (fun i => (i.zero, i.size, i.bytes)) = some (some (.int .u8 0), 1, 1) := by kernel_rfl

theorem open_bytes {H : Type} {enc : TypeId × Value → H} {W : World} {a : Option Addr} {len cap : Nat} {d : DataW H} {p : List MemPlace} {ts : List TypeId} {ds : List (DataW H)} (j : Nat)
    (h : DataW.Trod enc Try.prog W 0 (fun _ => true) true 26 (.slice a len cap) d p) (hsz : (DataW.weightsEach Try.prog ts ds).all (· ≤ reachBytes) = true) (ht : ts[j]? = some 26) (hd : ds[j]? = some d) :
    ∃ zs, BS W a len zs ∧ len ≤ cap ∧ cap ≤ 140737488351232 := by
  obtain ⟨fuel, hf⟩ := h
  rcases open_ints Try.underlying26 Try.underlying5 (by kernel_rfl) hf with ⟨hcs, _⟩ | ⟨x, l, c, zs, hcs, _, hl, hm, hz, hx, hcell, hwz⟩
  · simp [Value.cells] at hcs
    obtain ⟨rfl, rfl, rfl⟩ := hcs
    exact ⟨[], BS.empty _, by omega, by omega⟩
  · simp [Value.cells] at hcs
    obtain ⟨rfl, rfl, rfl⟩ := hcs
    simp only [Prod.mk.injEq] at hx
    obtain ⟨rfl, _⟩ := hx
    have hz' : zs.length = cap := by simpa using hz
    have hs := sized_slice hsz ht hd Try.underlying26
    rw [bytes5] at hs
    simp only [lits, List.length_map, List.length_take, List.length_drop, reachBytes] at hs
    have hcap : cap ≤ 140737488351232 := by omega
    refine ⟨zs.take len, ⟨by simp; omega, fun i => ?_, by omega, ?_⟩, hl, hcap⟩
    · by_cases hi : i < (zs.take len).length
      · have hmem : (zs.take len).getD i 0 ∈ zs := by
          simp only [List.getD_eq_getElem?_getD, List.getElem?_eq_getElem hi, Option.getD_some]
          exact List.mem_of_mem_take (List.getElem_mem hi)
        have := bounds_u8 (hwz _ hmem)
        exact this
      · simp [List.getD_eq_getElem?_getD, List.getElem?_eq_none (Nat.le_of_not_lt hi)]
    · by_cases h0 : len = 0
      · exact .inl h0
      · obtain ⟨b, off, spot⟩ := x
        have hc := hcell 0 (by omega)
        have hspot : spot = none := by simpa [Addr.add] using World.cell?_spot hc
        subst hspot
        refine .inr ⟨b, off, rfl, fun i hi => ?_⟩
        have hi' : i < len := by simp at hi; omega
        have := hcell i (by omega)
        rw [show (⟨b, off, none⟩ : Addr).add i = ⟨b, off + i, none⟩ from by unfold Addr.add; split <;> simp_all] at this
        rw [this]
        simp [List.getD_eq_getElem?_getD, hi']
end Go.Proofs.Ytgonckbdkgiddaa

namespace Go.Proofs.Ytgonckbdkgiddaa
open Go.RowKit

/-- The number of some bytes, the highest first. -/
def num (zs : List Int) : Int := zs.foldl (fun x z => x * 256 + z) 0

theorem num_snoc (zs : List Int) (z : Int) : num (zs ++ [z]) = num zs * 256 + z := by simp [num]

theorem take_snoc (zs : List Int) (k : Nat) (h : k < zs.length) : zs.take (k + 1) = zs.take k ++ [zs.getD k 0] := by
  rw [List.take_succ_eq_append_getElem h]
  simp [List.getD_eq_getElem?_getD, h]

theorem num_take (zs : List Int) (k : Nat) (h : k < zs.length) : num (zs.take (k + 1)) = num (zs.take k) * 256 + zs.getD k 0 := by
  rw [take_snoc zs k h, num_snoc]

theorem num_bd (zs : List Int) (h : ∀ i, 0 ≤ zs.getD i 0 ∧ zs.getD i 0 ≤ 255) (k : Nat) : 0 ≤ num (zs.take k) ∧ num (zs.take k) < 256 ^ k := by
  induction k with
  | zero => simp [num]
  | succ k ih =>
    by_cases hk : k < zs.length
    · rw [num_take zs k hk, Int.pow_succ]
      have := h k
      omega
    · rw [List.take_of_length_le (by omega)]
      rw [List.take_of_length_le (by omega)] at ih
      rw [Int.pow_succ]
      omega

theorem num_bd5 (zs : List Int) (h : ∀ i, 0 ≤ zs.getD i 0 ∧ zs.getD i 0 ≤ 255) (k : Nat) (hk : k ≤ 5) : 0 ≤ num (zs.take k) ∧ num (zs.take k) < 1099511627776 := by
  have := num_bd zs h k
  have h2 : (256 : Int) ^ k ≤ 1099511627776 := by
    match k, hk with
    | 0, _ => decide
    | 1, _ => decide
    | 2, _ => decide
    | 3, _ => decide
    | 4, _ => decide
    | 5, _ => decide
  omega

theorem num_bd2 {w : World} {a : Option Addr} {zs : List Int} (h : BS w a 2 zs) : 0 ≤ num zs ∧ num zs ≤ 65535 := by
  have hl := h.len
  have := num_bd zs h.fits 2
  rw [List.take_of_length_le (by omega)] at this
  have h2 : (256 : Int) ^ 2 = 65536 := by decide
  omega

theorem or64 (x y : Int) (hx0 : 0 ≤ x) (hx1 : x < 1099511627776) (hy0 : 0 ≤ y) (hy1 : y ≤ 255) : bits .or .u64 (x * 256) y = x * 256 + y := by
  rw [u64_or _ _ (by omega) (by omega) (by omega) (by omega)]
  rw [nat_join 8 (x * 256).toNat y.toNat (by omega) (by omega)]
  omega

set_option maxHeartbeats 1000000 in
theorem number_some (b off cap : Nat) (zs : List Int) (w : World) (hm : zs.length ≤ 6) (hc : ∀ i, i < zs.length → w.cell? ⟨b, off + i, none⟩ = some (.int .u8 (zs.getD i 0))) (hf : ∀ i, 0 ≤ zs.getD i 0 ∧ zs.getD i 0 ≤ 255) :
    Calls Try.prog 32 #[.slice (some ⟨b, off, none⟩) zs.length cap] w fun e w' => e = .returned (.int .u64 (num zs)) ∧ w' = w := by
  go_enter Try.func32, Try.ntmps32
  go_wp2
  go_loop [3, 5, 8] (fun v _ i => ∃ k : Nat, k ≤ zs.length ∧ i = .int .i64 k ∧ v = .int .u64 (num (zs.take k))) (fun _ _ i => zs.length - (intOf i).toNat)
  case atStart => exact ⟨0, by omega, rfl, rfl⟩
  case round =>
    obtain ⟨k, hk, rfl, rfl⟩ := hrel
    by_cases hlt : k < zs.length
    · have hcj := hc k hlt
      have hfj := hf k
      have hb := num_bd5 zs hf k (by omega)
      have hs : Hid _ := num_take zs k hlt
      have ho := or64 _ _ hb.1 hb.2 hfj.1 hfj.2
      have hlt' : (k : Int) < (zs.length : Int) := by omega
      clear hc hf
      generalize num (zs.take k) = X at *
      generalize zs.getD k 0 = z at *
      go_wp2
      go_round
      case rel => exact ⟨k + 1, by omega, by go_num, by rw [hs.out]⟩
      case measure => simp [intOf]; omega
    · have hT : Hid (zs.take k = zs) := List.take_of_length_le (by omega)
      rw [hT.out]
      go_wp2
      go_ret
      exact ⟨rfl, rfl⟩

theorem number_empty (a : Option Addr) (cap : Nat) (w : World) :
    Calls Try.prog 32 #[.slice a 0 cap] w fun e w' => e = .returned (.int .u64 (num [])) ∧ w' = w := by
  go_enter Try.func32, Try.ntmps32
  go_wp2
  refine wp_loop_rounds 1 ?_
  rw [rounds_succ]
  go_wp2
  go_ret
  exact ⟨rfl, rfl⟩

theorem number_any {a : Option Addr} {n : Nat} {zs : List Int} {w : World} (cap : Nat) (h : BS w a n zs) (hn : n ≤ 6) :
    Calls Try.prog 32 #[.slice a n cap] w fun e w' => e = .returned (.int .u64 (num zs)) ∧ w' = w := by
  obtain ⟨rfl, hf, hm, hc⟩ := h
  rcases hc with h0 | ⟨b, off, rfl, hc⟩
  · have hz : zs = [] := List.length_eq_zero_iff.1 h0
    subst hz
    exact number_empty a cap w
  · exact number_some b off cap zs w hn hc hf

theorem run_append_bsa {P : Program} (w : World) (base : Nat) (t ty e : TypeId) (i : TypeInfo) (ht : P.underlying t = some (.slice e)) (hi : P.info? e = some i) (hz : i.zero = some (.int .u8 0)) (hsize : i.size = 1) (hby : i.bytes = 1)
    (v : Value) (n : Nat) (xs : List Int) (hown : w.ownsRow base e 1 v n (xs.map (Value.int .u8))) {a : Option Addr} {m : Nat} {zs : List Int} (c : Nat) (hbs : BS w a m zs)
    (hsum : n + m ≤ 140737488355328) (hbase : base ≤ w.heap.size) :
    ∃ v' w', (Builtin.append_ #[t, t] ty #[v, .slice a m c]).run P w = .ok v' w' ∧ w'.ownsRow base e 1 v' (n + m) ((xs ++ zs).map (Value.int .u8)) ∧ w.grownBy w' v.ownBlock ∧ (v'.ownBlock = v.ownBlock ∨ v'.ownBlock = some w.heap.size) := by
  have hml : n + m ≤ maxLen := by unfold maxLen; omega
  rcases a with _ | ad
  · have hm0 : m = 0 := by
      rcases hbs.cells with h | ⟨b, off, h, _⟩
      · exact h
      · cases h
    subst hm0
    have hz0 : zs = [] := List.length_eq_zero_iff.1 hbs.len
    subst hz0
    refine ⟨v, w, run_append_none w base t ty e i 1 ht hi v n c _ hown, by simpa using hown, World.grownBy.refl _ _, .inl rfl⟩
  · obtain ⟨v', w', h1, h2, h3, _, h5⟩ := run_append_own_at (P := P) w base t ty e i (.int .u8 0) 1 1 ht hi hz hsize hby rfl (by decide) v n _ hown ad m c (zs.map (Value.int .u8)) (by simp [hbs.len]) (fun j u hj => by
      obtain ⟨hjl, rfl⟩ := map_get hj
      rcases hbs.cells with h | ⟨b, off, h, hc⟩
      · have := hbs.len; omega
      · cases h
        rw [plain_add]; exact hc j hjl) (ints_oneCell _ _) hml (by omega) hbase
    exact ⟨v', w', h1, by simpa using h2, h3, h5⟩

/-- append of readable bytes to a row of bytes of the call's own, as an operation of a list; where the new row lies. -/
theorem wpList_append_bsa {P : Program} {w : World} {ops : Array Oper} {rest : List Oper} {o : Oper} {act : Act} {Q : Exit → Act → World → Prop} (hw : Region.wanted o (yielded ops act.tmps) = true) (s x : Operand) (t : TypeId)
    (ho : o.op = .call { callee := .builtin .append, args := #[s, x], argTypes := #[t, t] })
    (base : Nat) (e : TypeId) (i : TypeInfo) (ht : P.underlying t = some (.slice e)) (hi : P.info? e = some i) (hz : i.zero = some (.int .u8 0)) (hsize : i.size = 1) (hby : i.bytes = 1)
    (v : Value) (n : Nat) (xs : List Int) (hs : act.eval s = v) (hown : w.ownsRow base e 1 v n (xs.map (Value.int .u8)))
    (a : Option Addr) (m c : Nat) (zs : List Int) (hx : act.eval x = .slice a m c) (hbs : BS w a m zs) (hsum : n + m ≤ 140737488355328) (hbase : base ≤ w.heap.size)
    (h : ∀ a' cap' w', w'.ownsRow base e 1 (.slice a' (n + m) cap') (n + m) ((xs ++ zs).map (Value.int .u8)) → w.grownBy w' v.ownBlock → ((Value.slice a' (n + m) cap').ownBlock = v.ownBlock ∨ (Value.slice a' (n + m) cap').ownBlock = some w.heap.size) → wpList P ops Q rest (act.put o.dst (.slice a' (n + m) cap')) w') : wpList P ops Q (o :: rest) act w := by
  refine BigFrame.wpList_want hw fun K hK => ?_
  obtain ⟨v', w', hr, h2, h3, h4⟩ := run_append_bsa (P := P) w base t o.type e i ht hi hz hsize hby v n xs hown c hbs hsum hbase
  obtain ⟨a', cap', rfl, _⟩ := own_form h2
  unfold Oper.wp execOp
  simp only [ho, resolve, invoke, builtin, Sem.run_bind, Sem.run_pure, Result.andThen_ok, List.map_toArray, List.map_cons, List.map_nil, hs, hx, hr]
  exact hK _ _ (h a' cap' w' h2 h3 h4)

theorem grown_trans {w w1 w2 : World} {r r1 : Option Nat} (h : w.grownBy w1 r) (h1 : w1.grownBy w2 r1) (hr : r1 = r ∨ ∀ k, r1 = some k → w.heap.size ≤ k) : w.grownBy w2 r :=
  ⟨h1.os.trans h.os, h1.tape.trans h.tape, h1.output.trans h.output, Nat.le_trans h.size h1.size, fun k hk hne => by
    rw [h1.block k (Nat.lt_of_lt_of_le hk h.size) (by
      rcases hr with rfl | hr
      · exact hne
      · intro e; have := hr k e.symm; omega)]
    exact h.block k hk hne⟩

theorem bs_one (w : World) (x : Int) (B : Nat) (hB : B = w.heap.size) (hx : 0 ≤ x ∧ x ≤ 255) :
    BS (w.alloc (.cells #[.int .u8 x] 5)) (some ⟨B, 0, none⟩) 1 [x] := by
  refine bs_new 5 w _ [x] 1 B hB rfl rfl ?_ (by omega)
  simp [hx]

/-- A number's bytes, the highest first. -/
def be (v : Int) : Nat → List Int
  | 0 => []
  | s + 1 => (v / 2 ^ (8 * s) % 256) :: be v s

/-- What holds of a row of bytes that grows: where it lay when the call began, and where it lies. -/
structure Row (base : Nat) (W w' : World) (v0 v : Value) (n : Nat) (xs : List Int) : Prop where
  own : w'.ownsRow base 5 1 v n (xs.map (Value.int .u8))
  grown : W.grownBy w' v0.ownBlock
  where_ : v.ownBlock = v0.ownBlock ∨ ∀ k, v.ownBlock = some k → W.heap.size ≤ k

theorem Row.step {base : Nat} {W wr w1 : World} {v0 v v' : Value} {n m : Nat} {ys zs : List Int} {o : Obj} (h : Row base W wr v0 v n ys)
    (h1 : w1.ownsRow base 5 1 v' (n + m) ((ys ++ zs).map (Value.int .u8))) (h2 : (wr.alloc o).grownBy w1 v.ownBlock) (h3 : v'.ownBlock = v.ownBlock ∨ v'.ownBlock = some (wr.heap.size + 1)) : Row base W w1 v0 v' (n + m) (ys ++ zs) := by
  refine ⟨h1, grown_trans h.grown (grown_trans (World.grownBy_alloc wr o v.ownBlock) h2 (.inl rfl)) h.where_, ?_⟩
  rcases h3 with h3 | h3
  · rw [h3]; exact h.where_
  · refine .inr fun k hk => ?_
    rw [h3] at hk
    cases hk
    have := h.grown.size
    omega

theorem Row.refl {base : Nat} {W : World} {v : Value} {n : Nat} {xs : List Int} (h : W.ownsRow base 5 1 v n (xs.map (Value.int .u8))) : Row base W W v v n xs := ⟨h, World.grownBy.refl _ _, .inl rfl⟩

theorem be_bd (v : Int) (s : Nat) : ∀ i, 0 ≤ (be v s).getD i 0 ∧ (be v s).getD i 0 ≤ 255 := by
  induction s with
  | zero => intro i; simp [be]
  | succ s ih =>
    intro i
    match i with
    | 0 => simp only [be, List.getD_cons_zero]; omega
    | i + 1 => simpa [be] using ih i

theorem be_len (v : Int) (s : Nat) : (be v s).length = s := by
  induction s with
  | zero => rfl
  | succ s ih => simp [be, ih]

set_option maxHeartbeats 1000000 in
theorem appendNumber_any (base : Nat) (W : World) (a : Option Addr) (n cap : Nat) (xs : List Int) (hown : W.ownsRow base 5 1 (.slice a n cap) n (xs.map (Value.int .u8))) (hbase : base ≤ W.heap.size) (hn : n ≤ 1000000) (v : Int) (_hv : 0 ≤ v ∧ v ≤ 18446744073709551615) (s : Nat) (hs : s ≤ 8) :
    Calls Try.prog 31 #[.slice a n cap, .int .u64 v, .int .i64 s] W fun e w' => ∃ a' cap', e = .returned (.slice a' (n + s) cap') ∧ Row base W w' (.slice a n cap) (.slice a' (n + s) cap') (n + s) (xs ++ be v s) := by
  obtain ⟨i0, hi, hz0, hz1, hz2⟩ := info_parts info5
  have HO : Hid _ := hown
  clear hown
  go_enter Try.func31, Try.ntmps31
  go_wp2
  go_loopw [0, 2] (fun o r wr => ∃ (k : Nat) (j : Nat) (ys : List Int) (a' : Option Addr) (cap' : Nat), r = .int .i64 k ∧ k + j = s ∧ o = .slice a' (n + j) cap' ∧ Hid (ys ++ be v k = xs ++ be v s) ∧ Hid (Row base W wr (.slice a n cap) (.slice a' (n + j) cap') (n + j) ys)) (fun _ r _ => (intOf r).toNat)
  case atStart => exact ⟨s, 0, xs, a, cap, rfl, by omega, rfl, rfl, Row.refl HO.out⟩
  case round =>
    obtain ⟨k, j, ys, a', cap', rfl, hkj, rfl, hys, hrow⟩ := hrel
    by_cases hk : k = 0
    · subst hk
      obtain rfl : j = s := by omega
      go_wp2
      go_ret
      refine ⟨a', cap', rfl, ?_⟩
      have := hys.out
      simp only [be, List.append_nil] at this
      rw [← this]
      exact hrow.out
    · obtain ⟨r, rfl⟩ : ∃ r, k = r + 1 := ⟨k - 1, by omega⟩
      have hr : (r : Int) ≤ 7 := by omega
      have hbs : Hid (base ≤ wr.heap.size) := Nat.le_trans hbase hrow.out.grown.size
      have hj : n + j + 1 ≤ 140737488355328 := by omega
      go_wp2_with (at_builtin; refine wpList_append_bsa (by rfl) (.tmp 11) (.tmp 17) 26 rfl base 5 i0 Try.underlying26 hi hz0 hz1 hz2 _ (n + j) ys rfl (hrow.out.own.alloc _) (some ⟨wr.heap.size, 0, none⟩) 1 1 [v / 2 ^ (8 * r) % 256] rfl (bs_one wr _ _ rfl (by omega)) hj (by have := hbs.out; simp; omega) ?_)
      intro a2 cap2 w1 h1 h2 h3
      have hrow2 : Hid (Row base W w1 (.slice a n cap) (.slice a2 (n + j + 1) cap2) (n + j + 1) (ys ++ [v / 2 ^ (8 * r) % 256])) := hrow.out.step (by simpa using h1) h2 h3
      clear h1 h2 h3
      go_wp2
      go_roundw
      case rel => exact ⟨r, j + 1, ys ++ [v / 2 ^ (8 * r) % 256], a2, cap2, rfl, by omega, rfl, by show _ = _; rw [← hys.out]; simp [be], hrow2⟩
      case measure => simp [intOf]

theorem below1 (w : World) (a : Obj) : Below w.heap.size w (w.alloc a) := (Below.refl _ _).alloc (Nat.le_refl _) _

theorem below2 (w : World) (a b : Obj) : Below w.heap.size w ((w.alloc a).alloc b) := (below1 w a).alloc (by simp) _

theorem below3 (w : World) (a b c : Obj) : Below w.heap.size w (((w.alloc a).alloc b).alloc c) := (below2 w a b).alloc (by simp; omega) _

theorem below4 (w : World) (a b c d : Obj) : Below w.heap.size w ((((w.alloc a).alloc b).alloc c).alloc d) := (below3 w a b c).alloc (by simp; omega) _

/-- A variable of a call's own in block p that holds a row of bytes of the call's own. -/
structure Enc (w0 W : World) (p : Nat) (xs : List Int) : Prop where
  bel : Below w0.heap.size w0 W
  here : w0.heap.size ≤ p
  row : ∃ a cap, W.heap[p]? = some (.cells #[.slice a xs.length cap] 26 (0, 0)) ∧ W.ownsRow w0.heap.size 5 1 (.slice a xs.length cap) xs.length (xs.map (Value.int .u8))

theorem row_apart {W : World} {base p : Nat} {v u : Value} {n : Nat} {xs : List Value} (h : W.ownsRow base 5 1 v n xs) (hp : W.heap[p]? = some (.cells #[u] 26 (0, 0))) : v.ownBlock ≠ some p := by
  intro e
  rcases h.2 with ⟨rfl, _⟩ | ⟨g, cap, cur, rfl, _, hg, _⟩
  · cases e
  · simp only [Value.ownBlock] at e
    cases e
    rw [hg] at hp
    simp at hp

/-- A row of bytes of the call's own, over a world that has only grown since w1. -/
structure RB (w1 W : World) (v : Value) (n : Nat) (xs : List Int) : Prop where
  own : W.ownsRow w1.heap.size 5 1 v n (xs.map (Value.int .u8))
  bel : Below w1.heap.size w1 W

theorem RB.drew {w1 W : World} {v : Value} {n : Nat} {xs : List Int} (h : RB w1 W v n xs) : RB w1 W.drew v n xs := ⟨h.own, h.bel.drew⟩

theorem RB.bs {w1 W : World} {a : Option Addr} {n cap : Nat} {xs : List Int} (h : RB w1 W (.slice a n cap) n xs) (hf : ∀ i, 0 ≤ xs.getD i 0 ∧ xs.getD i 0 ≤ 255) (hr : n ≤ 281474976710656) : BS W a n xs := own_bs h.own hf hr

theorem own_empty (w : World) (base : Nat) (hb : base ≤ w.heap.size) : (w.alloc (.cells #[] 5)).ownsRow base 5 1 (.slice (some ⟨w.heap.size, 0, none⟩) 0 0) 0 (([] : List Int).map (Value.int .u8)) :=
  World.ownsRow_made w #[] 0 hb (by unfold maxLen; omega) rfl

theorem own_caps {w : World} {base : Nat} {e : TypeId} {a : Option Addr} {n cap : Nat} {xs : List Value} (h : w.ownsRow base e 1 (.slice a n cap) n xs) : n ≤ cap ∧ cap ≤ 9223372036854775807 := by
  rcases h.2 with ⟨h0, rfl⟩ | ⟨g, cap', cur, e1, _, _, hnc, hm, _⟩
  · have : cap = 0 := by injection h0
    omega
  · have : cap = cap' := by injection e1
    unfold maxLen at hm
    omega

/-- A block of cells that are known. -/
def AtB (W : World) (b : Nat) (arr : Array Value) : Prop := b < W.heap.size ∧ ∀ i, W.cell? ⟨b, i, none⟩ = arr[i]?

theorem atB_new (w : World) (arr : Array Value) (t : TypeId) (b : Nat) (hb : b = w.heap.size) : AtB (w.alloc (.cells arr t)) b arr := by
  subst hb
  exact ⟨by simp, fun i => by simp [go_sem]⟩

theorem AtB.below {w w' : World} {b : Nat} {arr : Array Value} (h : AtB w b arr) (hb : Below w.heap.size w w') : AtB w' b arr :=
  ⟨Nat.lt_of_lt_of_le h.1 hb.size, fun i => (hb.cell h.1).trans (h.2 i)⟩

theorem fits_set {zs : List Int} (h : ∀ i, 0 ≤ zs.getD i 0 ∧ zs.getD i 0 ≤ 255) (k : Nat) (u : Int) (hu : 0 ≤ u ∧ u ≤ 255) : ∀ i, 0 ≤ (zs.set k u).getD i 0 ∧ (zs.set k u).getD i 0 ≤ 255 := by
  intro i
  have := h i
  simp only [List.getD_eq_getElem?_getD, List.getElem?_set] at *
  split
  · split
    · simpa using hu
    · simp
  · exact this

end Go.Proofs.Ytgonckbdkgiddaa

namespace Go.Proofs.Ytgonckbdkgiddaa
open Go.RowKit

theorem scope_jumps {P : Program} {a : Act} {w : World} {Q : Exit → Act → World → Prop} {c rest : Code} (l : Nat) (J : Act → World → Prop) (μ : Act → World → Nat) (hf : findLabel c l = some (Code.skip.seq rest))
    (pass : ∀ a w, J a w → rest.wp P (Exit.jump l (fun a' w' => J a' w' ∧ μ a' w' < μ a w) Q) a w)
    (first : Hid (∀ a w, J a w → rest.wp P (Exit.jump l J Q) a w) → c.wp P (Exit.jump l J Q) a w) : (Code.scope c).wp P Q a w := by
  refine wp_scope_jumps l J μ hf (first ?_) (fun a w hJ => wp_seq (wp_skip (pass a w hJ)))
  intro a w hJ
  refine Code.wp_mono ?_ (pass a w hJ)
  intro e a' w' h
  cases e <;> first | exact h | exact ⟨h.1, h.2.1⟩

def fld (t : Int) : Int := if t = 0 then 0 else (t - 1) % 65535 + 1

theorem and16 (m : Int) (h0 : 0 ≤ m) (h1 : m < 18446744073709551616) : bits .and .u64 m 65535 = m % 65536 := by
  rw [u64_and m 65535 h0 h1 (by omega) (by omega)]
  rw [show (65535 : Int).toNat = 65535 from rfl, nat_mask16]
  omega

theorem fld_step (m : Int) (_h0 : 0 ≤ m) : fld (m / 65536 + m % 65536) = fld m := by
  unfold fld; split <;> split <;> omega

theorem fld_small (m : Int) (_h0 : 0 ≤ m) (h1 : m ≤ 65535) : fld m = m := by
  unfold fld; split <;> omega

theorem fld_bd (m : Int) (_h0 : 0 ≤ m) : 0 ≤ fld m ∧ fld m ≤ 65535 := by
  unfold fld; split <;> omega

theorem fld_add (a b : Int) (h0 : 0 ≤ a) (h1 : 0 ≤ b) : fld (fld a + b) = fld (a + b) := by
  unfold fld; split <;> split <;> split <;> omega

set_option maxHeartbeats 400000 in
theorem fold_any (t : Int) (h0 : 0 ≤ t) (h1 : t < 18446744073709551616) (w : World) :
    Calls Try.prog 73 #[.int .u64 t] w fun e w' => e = .returned (.int .u16 (fld t)) ∧ w' = w := by
  go_enter Try.func73, Try.ntmps73
  go_wp2
  refine scope_jumps 0 (fun a' w' => w' = w ∧ ∃ (m : Int) (u3 u4 u5 u6 u7 u8 u9 : Value), a' = { tmps := #[.int .u64 m, undef, .int .u16 0, u3, u4, u5, u6, u7, u8, u9, undef, undef], defers := [] } ∧ 0 ≤ m ∧ m < 18446744073709551616 ∧ Hid (fld m = fld t)) (fun a' _ => (intOf (a'.tmps.getD 0 undef)).toNat) rfl ?_ ?_
  · rintro a' w' ⟨rfl, m, u3, u4, u5, u6, u7, u8, u9, rfl, hm0, hm1, hm⟩
    by_cases hlt : 65535 < m
    · have ha : Hid (bits .and .u64 m 65535 = m % 65536) := and16 m hm0 hm1
      go_wp2
      go_step3
      rw [ha.out, show IntKind.u64.wrap (m / 65536 + m % 65536) = m / 65536 + m % 65536 from by rw [IntKind.wrap_u64]; omega]
      refine ⟨rfl, ⟨rfl, _, _, _, _, _, _, _, _, rfl, by omega, by omega, ?_⟩, ?_⟩
      · exact (fld_step m hm0).trans hm.out
      · simp [intOf]; omega
    · go_wp2
      simp only [Exit.jump]
      go_ret
      exact ⟨ret_int ((fld_small m hm0 (by omega)).symm.trans hm.out), rfl⟩
  · intro HG
    exact label_seq (HG.out _ _ ⟨rfl, t, undef, undef, undef, undef, undef, undef, undef, rfl, h0, h1, rfl⟩)

theorem add_any (a b : Int) (ha0 : 0 ≤ a) (ha1 : a ≤ 65535) (hb0 : 0 ≤ b) (hb1 : b ≤ 65535) (w : World) :
    Calls Try.prog 68 #[.int .u16 a, .int .u16 b] w fun e w' => e = .returned (.int .u16 (fld (a + b))) ∧ w' = w := by
  go_enter Try.func68, Try.ntmps68
  go_wp2_with (go_at_call 73; refine (fold_any _ (by omega) (by omega) _).mono ?_; rintro e w' ⟨rfl, rfl⟩)
  go_ret
  exact ⟨rfl, rfl⟩

theorem nat_not16 (n : Nat) (h : n < 65536) : 65535 ^^^ n = 65535 - n := by
  have e : (~~~ (BitVec.ofNat 16 n)).toNat = (BitVec.allOnes 16 ^^^ BitVec.ofNat 16 n).toNat := by rw [BitVec.not_def]
  rw [BitVec.toNat_not, BitVec.toNat_xor, BitVec.toNat_allOnes, BitVec.toNat_ofNat, Nat.mod_eq_of_lt (by simpa using h)] at e
  simpa using e.symm

theorem not16 (n : Int) (h0 : 0 ≤ n) (h1 : n ≤ 65535) : bits .xor .u16 65535 n = 65535 - n := by
  rw [u16_xor _ _ (by omega) (by omega) (by omega) (by omega), show (65535 : Int).toNat = 65535 from rfl, nat_not16 _ (by omega)]
  omega

def wsum : List Int → Int
  | [] => 0
  | [x] => x * 256
  | x :: y :: r => x * 256 + y + wsum r

theorem wsum_drop2 (zs : List Int) (j : Nat) (h : j + 1 < zs.length) : wsum (zs.drop j) = zs.getD j 0 * 256 + zs.getD (j + 1) 0 + wsum (zs.drop (j + 2)) := by
  rw [List.drop_eq_getElem_cons (by omega), List.drop_eq_getElem_cons h, wsum]
  simp [List.getD_eq_getElem?_getD, h, show j < zs.length by omega]

theorem wsum_drop1 (zs : List Int) (j : Nat) (h : j + 1 = zs.length) : wsum (zs.drop j) = zs.getD j 0 * 256 := by
  rw [List.drop_eq_getElem_cons (by omega), List.drop_of_length_le (by omega), wsum]
  simp [List.getD_eq_getElem?_getD, show j < zs.length by omega]

theorem wsum_drop0 (zs : List Int) (j : Nat) (h : zs.length ≤ j) : wsum (zs.drop j) = 0 := by
  rw [List.drop_of_length_le h, wsum]

theorem or8 (x y : Int) (hx0 : 0 ≤ x) (hx1 : x ≤ 255) (hy0 : 0 ≤ y) (hy1 : y ≤ 255) : bits .or .u64 (x * 256) y = x * 256 + y := by
  rw [u64_or _ _ (by omega) (by omega) (by omega) (by omega)]
  rw [nat_join 8 (x * 256).toNat y.toNat (by omega) (by omega)]
  omega

/-- What holds at Sum's label: j bytes have been taken, their words add up to T. -/
def SumAt (b off cap : Nat) (zs : List Int) (w : World) (a' : Act) (w' : World) : Prop :=
  ∃ (nq : Nat) (T : Int) (j : Nat) (u5 u6 u7 u8 u9 u10 u11 u12 u13 u14 u15 u16 u17 u18 u19 u20 u21 u22 u23 u24 u25 u26 u27 u28 u29 u30 u31 u32 u33 u34 u35 u36 u37 u38 u39 u40 : Value), w' = w.drewN nq ∧ a' = { tmps := #[.slice (some ⟨b, off, none⟩) zs.length cap, undef, .int .u16 0, .int .u64 T, .int .i64 (j : Nat), u5, u6, u7, u8, u9, u10, u11, u12, u13, u14, u15, u16, u17, u18, u19, u20, u21, u22, u23, u24, u25, u26, u27, u28, u29, u30, u31, u32, u33, u34, u35, u36, u37, u38, u39, u40], defers := [] } ∧ j ≤ zs.length ∧ 0 ≤ T ∧ T ≤ 65535 * j ∧ Hid (T + wsum (zs.drop j) = wsum zs)

set_option maxHeartbeats 1000000 in
theorem sum_some (b : Nat) (off cap : Nat) (zs : List Int) (w : World) (hm : zs.length ≤ 281474976710656) (hc : ∀ i, i < zs.length → w.cell? ⟨b, off + i, none⟩ = some (.int .u8 (zs.getD i 0))) (hf : ∀ i, 0 ≤ zs.getD i 0 ∧ zs.getD i 0 ≤ 255) :
    Calls Try.prog 66 #[.slice (some ⟨b, off, none⟩) zs.length cap] w fun e w' => e = .returned (.int .u16 (fld (wsum zs))) ∧ ∃ nq, w' = w.drewN nq := by
  go_enter Try.func66, Try.ntmps66
  go_wp2
  refine scope_jumps 0 (SumAt b off cap zs w) (fun a' w' => zs.length - slotAt 4 a' w') rfl ?_ ?_
  · rintro a' w' ⟨nq, T, j, u5, u6, u7, u8, u9, u10, u11, u12, u13, u14, u15, u16, u17, u18, u19, u20, u21, u22, u23, u24, u25, u26, u27, u28, u29, u30, u31, u32, u33, u34, u35, u36, u37, u38, u39, u40, rfl, rfl, hj, hT0, hT1, hT⟩
    rcases (show j = zs.length ∨ j + 1 = zs.length ∨ j + 1 < zs.length from by omega) with h | h | h
    · have e0 : ((zs.length : Int) - (j : Int) == 0) = true := by simp; omega
      have HT : Hid (T = wsum zs) := by have := hT.out; rw [wsum_drop0 zs j (by omega)] at this; show T = wsum zs; omega
      clear hT h
      go_wp2_with (go_at_call 73; refine (fold_any _ (by omega) (by omega) _).mono ?_; rintro e w' ⟨rfl, rfl⟩)
      simp only [Exit.jump]
      go_ret
      exact ⟨ret_int (by rw [HT.out]), _, rfl⟩
    · have e0 : ((zs.length : Int) - (j : Int) == 0) = false := by simp; omega
      have e1 : ((zs.length : Int) - (j : Int) == 1) = true := by simp; omega
      have hlt : (j : Int) < (zs.length : Int) := by omega
      have HT : Hid (T + zs.getD j 0 * 256 = wsum zs) := by have := hT.out; rw [wsum_drop1 zs j (by omega)] at this; exact this
      have hcj := hc j (by omega)
      have hfj := hf j
      clear hT h hc hf
      generalize zs.getD j 0 = z at *
      go_wp2_with (go_at_call 73; refine (fold_any _ (by omega) (by omega) _).mono ?_; rintro e w' ⟨rfl, rfl⟩)
      simp only [Exit.jump]
      go_ret
      exact ⟨ret_int (by rw [HT.out]), _, rfl⟩
    · have e0 : ((zs.length : Int) - (j : Int) == 0) = false := by simp; omega
      have e1 : ((zs.length : Int) - (j : Int) == 1) = false := by simp; omega
      have hlt : (j : Int) < (zs.length : Int) := by omega
      have hlt1 : (j : Int) + 1 < (zs.length : Int) := by omega
      have HT : Hid (T + (zs.getD j 0 * 256 + zs.getD (j + 1) 0) + wsum (zs.drop (j + 2)) = wsum zs) := by have := hT.out; rw [wsum_drop2 zs j (by omega)] at this; show T + _ + _ = _; omega
      have hcj := hc j (by omega)
      have hfj := hf j
      have hck := hc (j + 1) (by omega)
      have hfk := hf (j + 1)
      have HO : Hid _ := or8 (zs.getD j 0) (zs.getD (j + 1) 0) hfj.1 hfj.2 hfk.1 hfk.2
      clear hT h hc hf
      generalize zs.getD j 0 = z at *
      generalize zs.getD (j + 1) 0 = y at *
      go_wp2
      go_quiet (fail)
      go_wp2
      go_step3
      rw [HO.out, show IntKind.u64.wrap (T + (z * 256 + y)) = T + (z * 256 + y) from by rw [IntKind.wrap_u64]; omega]
      refine ⟨rfl, ⟨_, T + (z * 256 + y), j + 2, _, _, _, _, _, _, _, _, _, _, _, _, _, _, _, _, _, _, _, _, _, _, _, _, _, _, _, _, _, _, _, _, _, _, _, _, rfl, rfl, by omega, by omega, by omega, HT.out⟩, ?_⟩
      simp [slotAt, intOf]; omega
  · intro HG
    go_wp2
    go_step3
    rename_i K hK
    exact hK _ _ (HG.out _ _ ⟨0, 0, 0, _, _, _, _, _, _, _, _, _, _, _, _, _, _, _, _, _, _, _, _, _, _, _, _, _, _, _, _, _, _, _, _, _, _, _, _, rfl, rfl, by omega, by omega, by omega, by show _ + _ = _; simp⟩)

theorem sum_empty (a : Option Addr) (cap : Nat) (w : World) :
    Calls Try.prog 66 #[.slice a 0 cap] w fun e w' => e = .returned (.int .u16 (fld (wsum []))) ∧ ∃ nq, w' = w.drewN nq := by
  go_enter Try.func66, Try.ntmps66
  go_wp2
  go_step3
  go_wp2
  go_step3
  go_wp2_with (go_at_call 73; refine (fold_any _ (by omega) (by omega) _).mono ?_; rintro e w' ⟨rfl, rfl⟩)
  rw [Exit.noGoto_ret]
  go_ret
  exact ⟨rfl, 0, rfl⟩

theorem wsum_nonneg (zs : List Int) (h : ∀ i, 0 ≤ zs.getD i 0 ∧ zs.getD i 0 ≤ 255) (n : Nat) : ∀ j, zs.length ≤ j + n → 0 ≤ wsum (zs.drop j) := by
  induction n using Nat.strongRecOn with
  | _ n ih =>
    intro j hj
    rcases (show zs.length ≤ j ∨ j + 1 = zs.length ∨ j + 1 < zs.length from by omega) with h1 | h1 | h1
    · rw [wsum_drop0 zs j h1]; exact Int.le_refl _
    · rw [wsum_drop1 zs j h1]; have := h j; omega
    · rw [wsum_drop2 zs j h1]; have := h j; have := h (j + 1); have := ih (n - 2) (by omega) (j + 2) (by omega); omega

theorem sum_any {a : Option Addr} {n : Nat} {zs : List Int} {w : World} (cap : Nat) (h : BS w a n zs) :
    Calls Try.prog 66 #[.slice a n cap] w fun e w' => e = .returned (.int .u16 (fld (wsum zs))) ∧ ∃ nq, w' = w.drewN nq := by
  obtain ⟨rfl, hf, hm, hc⟩ := h
  rcases hc with h0 | ⟨b, off, rfl, hc⟩
  · have hz : zs = [] := List.length_eq_zero_iff.1 h0
    subst hz
    exact sum_empty a cap w
  · exact sum_some b off cap zs w hm hc hf

theorem wsum_bd {zs : List Int} (h : ∀ i, 0 ≤ zs.getD i 0 ∧ zs.getD i 0 ≤ 255) : 0 ≤ wsum zs := by
  have := wsum_nonneg zs h zs.length 0 (by omega)
  simpa using this

theorem check_any {a : Option Addr} {n : Nat} {zs : List Int} {w : World} (cap : Nat) (h : BS w a n zs) :
    Calls Try.prog 46 #[.slice a n cap] w fun e w' => e = .returned (.int .u16 (65535 - fld (wsum zs))) ∧ ∃ nq, w' = w.drewN nq := by
  have hb := fld_bd (wsum zs) (wsum_bd h.fits)
  have hx := not16 _ hb.1 hb.2
  have hsg : IntKind.u16.signed = false := rfl
  have hmx : IntKind.u16.max = 65535 := rfl
  go_enter Try.func46, Try.ntmps46
  go_wp2_with (go_at_call 66; refine (sum_any _ h).mono ?_; rintro e w' ⟨rfl, nq, rfl⟩)
  go_ret
  exact ⟨rfl, _, rfl⟩

theorem wsum_set (k : Nat) : ∀ (zs : List Int) (x y : Int), 2 * k + 1 < zs.length → wsum ((zs.set (2 * k) x).set (2 * k + 1) y) = wsum zs - (zs.getD (2 * k) 0 * 256 + zs.getD (2 * k + 1) 0) + (x * 256 + y) := by
  induction k with
  | zero =>
    intro zs x y h
    match zs with
    | [] => simp at h
    | [u] => simp at h
    | u :: v :: r => simp [wsum]; omega
  | succ k ih =>
    intro zs x y h
    match zs with
    | [] => simp at h
    | [u] => simp at h
    | u :: v :: r =>
      have := ih r x y (by simp at h; omega)
      rw [show 2 * (k + 1) = 2 * k + 1 + 1 from by omega]
      simp only [List.set_cons_succ, List.getD_cons_succ, wsum]
      omega

end Go.Proofs.Ytgonckbdkgiddaa

namespace Go.Proofs.Ytgonckbdkgiddaa
open Go.RowKit

def fit8 (v : Int) : Bool := decide (0 ≤ v ∧ v ≤ 255)
def fit16 (v : Int) : Bool := decide (0 ≤ v ∧ v ≤ 65535)
def fit12 (v : Int) : Bool := decide (0 ≤ v ∧ v ≤ 4095)

theorem fits8_any (v : Int) (w : World) : Calls Try.prog 34 #[.int .i64 v, .int .u64 8] w fun e w' => e = .returned (.bool (fit8 v)) ∧ w' = w := by
  have e : (v / 256 == 0) = fit8 v := by
    unfold fit8; rw [Bool.eq_iff_iff]; simp; omega
  go_enter Try.func34, Try.ntmps34
  go_wp2
  go_ret
  exact ⟨rfl, rfl⟩
theorem fits12_any (v : Int) (w : World) : Calls Try.prog 34 #[.int .i64 v, .int .u64 12] w fun e w' => e = .returned (.bool (fit12 v)) ∧ w' = w := by
  have e : (v / 4096 == 0) = fit12 v := by
    unfold fit12; rw [Bool.eq_iff_iff]; simp; omega
  go_enter Try.func34, Try.ntmps34
  go_wp2
  go_ret
  exact ⟨rfl, rfl⟩
theorem fits16_any (v : Int) (w : World) : Calls Try.prog 34 #[.int .i64 v, .int .u64 16] w fun e w' => e = .returned (.bool (fit16 v)) ∧ w' = w := by
  have e : (v / 65536 == 0) = fit16 v := by
    unfold fit16; rw [Bool.eq_iff_iff]; simp; omega
  go_enter Try.func34, Try.ntmps34
  go_wp2
  go_ret
  exact ⟨rfl, rfl⟩

/-- Fits of 8, 12 or 16 bits. -/
def fitN (b v : Int) : Bool := if b = 8 then fit8 v else if b = 12 then fit12 v else fit16 v
theorem fitN_any (v b : Int) (hb : b = 8 ∨ b = 12 ∨ b = 16) (w : World) : Calls Try.prog 34 #[.int .i64 v, .int .u64 b] w fun e w' => e = .returned (.bool (fitN b v)) ∧ w' = w := by
  rcases hb with rfl | rfl | rfl
  · exact fits8_any v w
  · exact fits12_any v w
  · exact fits16_any v w

theorem word_any (w : World) (b off n cap t : Nat) (zs : List Int) (h : BS w (some ⟨b, off, none⟩) n zs) (hts : t + 2 ≤ n) (hcap : n ≤ cap) :
    Calls Try.prog 71 #[.slice (some ⟨b, off, none⟩) n cap, .int .i64 t] w fun e w' => e = .returned (.int .u16 (num ((zs.drop t).take 2))) ∧ w' = w := by
  have hle : (t : Int) + 2 ≤ cap := by omega
  have hne : ¬ cap = t := by omega
  have ht' : (t : Int) ≤ 281474976710656 := by have := h.room; omega
  have H1 := (h.drop (by omega) t (by omega)).take 2 (by omega)
  have hb := num_bd2 H1
  have H : Hid (BS w (some ⟨b, off + t, none⟩) 2 ((zs.drop t).take 2)) := H1
  clear h H1
  go_enter Try.func71, Try.ntmps71
  go_wp2_with fail
  refine (number_any _ H.out (by omega)).mono ?_
  rintro e w1 ⟨rfl, rfl⟩
  go_wp2
  go_ret
  exact ⟨rfl, rfl⟩

theorem setWord_any (w : World) (g n cap t : Nat) (v : Int) (x y : Value) (hx : w.cell? ⟨g, t, none⟩ = some x) (hy : w.cell? ⟨g, t + 1, none⟩ = some y) (hfx : w.frozen? ⟨g, t, none⟩ = false) (hfy : w.frozen? ⟨g, t + 1, none⟩ = false) (hv : 0 ≤ v ∧ v ≤ 65535) (hts : t + 2 ≤ n) (hn : n ≤ 281474976710656) :
    Calls Try.prog 42 #[.slice (some ⟨g, 0, none⟩) n cap, .int .i64 t, .int .u16 v] w fun e w' => e = .returned (.tuple #[]) ∧ w' = (w.setCell ⟨g, t, none⟩ (.int .u8 (v / 256))).setCell ⟨g, t + 1, none⟩ (.int .u8 (v % 256)) := by
  have hle : (t : Int) + 1 < n := by omega
  have hle2 : (t : Int) < n := by omega
  have ht' : (t : Int) ≤ 281474976710656 := by omega
  go_enter Try.func42, Try.ntmps42
  go_wp2
  go_end0
  exact ⟨rfl, rfl⟩
end Go.Proofs.Ytgonckbdkgiddaa
