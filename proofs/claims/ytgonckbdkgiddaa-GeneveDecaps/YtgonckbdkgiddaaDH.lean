/- Parts of the proof, in one text. -/
import Derived.Test.YtgonckbdkgiddaaL4e
import Derived.Lib.ConvBytes
import Derived.Test.YtgonckbdkgiddaaLOct
import Derived.WalkKit
import Derived.ScopeJumps
import Derived.WalkMore
import Derived.OpenShut
import Derived.WalkLawsBesides
import Derived.WalkSmall
import Derived.Below
import Derived.Laws.EntriesVeiled
import Derived.Laws.Rows
import Derived.Laws.Tables
import Derived.Laws.ResultCell
import Derived.Deep.WholeRow
import Derived.Deep.MidRow
import Derived.Deep.QuietTactic
import Derived.BigQuiet
namespace Go.Proofs.Ytgonckbdkgiddaa
open Go.RowKit
theorem from_loop {P : Program} {Q : Exit → Act → World → Prop} {c rest : Code} {l : Nat} (hf : findLabel c l = some (Code.skip.seq rest)) (J : Act → World → Prop) (μ : Act → World → Nat)
    (pass : ∀ a w, J a w → (∀ a' w', J a' w' → μ a' w' < μ a w → FromLabel P c Q l a' w') → rest.wp P (Exit.jumpTo P c Q) a w) : ∀ a w, J a w → FromLabel P c Q l a w := by
  have key : ∀ n a w, μ a w = n → J a w → FromLabel P c Q l a w := by
    intro n
    induction n using Nat.strongRecOn with
    | _ n ih =>
      intro a w hn hJ
      exact from_label hf (pass a w hJ fun a' w' hJ' hlt => ih _ (hn ▸ hlt) a' w' rfl hJ')
  exact fun a w => key _ a w rfl
/-- A scope with several labels, of which l heads a loop. -/
theorem scope_loop {P : Program} {a : Act} {w : World} {Q : Exit → Act → World → Prop} {c rest : Code} (l : Nat) (J : Act → World → Prop) (μ : Act → World → Nat) (hf : findLabel c l = some (Code.skip.seq rest))
    (pass : ∀ a w, J a w → Hid (∀ a' w', J a' w' → μ a' w' < μ a w → FromLabel P c Q l a' w') → rest.wp P (Exit.jumpTo P c Q) a w)
    (first : Hid (∀ a w, J a w → rest.wp P (Exit.jumpTo P c Q) a w) → c.wp P (Exit.jumpTo P c Q) a w) : (Code.scope c).wp P Q a w :=
  scope_from (first (fun a w hJ => pass a w hJ (fun a' w' hJ' _ => from_loop hf J μ pass a' w' hJ')))
/-- Bytes as numbers. -/
def Fit (zs : List Int) : Prop := ∀ i, 0 ≤ zs.getD i 0 ∧ zs.getD i 0 ≤ 255
/-- An option: its class, its code, its data. -/
structure Opt where
  cls : Int
  code : Int
  data : List Int
def Opt.cs (o : Opt) : Array Value := #[.int .i64 o.cls, .int .i64 o.code, .string (strOfNums o.data)]
/-- A slice of n options that can be read. -/
structure OS (w : World) (a : Option Addr) (n : Nat) (os : List Opt) : Prop where
  len : os.length = n
  room : n ≤ 140737488355328
  fits : ∀ o ∈ os, Fit o.data ∧ True
  cells : n = 0 ∨ ∃ b off, a = some ⟨b, off, none⟩ ∧ ∀ i o, os[i]? = some o → w.cell? ⟨b, off + i * 3, none⟩ = some (.int .i64 o.cls) ∧ w.cell? ⟨b, off + i * 3 + 1, none⟩ = some (.int .i64 o.code) ∧ w.cell? ⟨b, off + i * 3 + 2, none⟩ = some (.string (strOfNums o.data))
theorem OS.below {w w' : World} {a : Option Addr} {n : Nat} {os : List Opt} (h : OS w a n os) (hb : Below w.heap.size w w') : OS w' a n os := by
  refine ⟨h.len, h.room, h.fits, ?_⟩
  rcases h.cells with h0 | ⟨b, off, rfl, hc⟩
  · exact .inl h0
  · refine .inr ⟨b, off, rfl, fun i o hi => ?_⟩
    obtain ⟨c0, c1, c2⟩ := hc i o hi
    exact ⟨(hb.cell (cell_lt c0)).trans c0, (hb.cell (cell_lt c1)).trans c1, (hb.cell (cell_lt c2)).trans c2⟩
theorem OS.empty {w : World} (a : Option Addr) : OS w a 0 [] := ⟨rfl, by omega, (fun _ h => by cases h), .inl rfl⟩
theorem os_cell {w : World} {a : Option Addr} {n k : Nat} {os : List Opt} (h : OS w a n os) (hk : k < n) : ∃ o b off, os[k]? = some o ∧ a = some ⟨b, off, none⟩ ∧ w.cell? ⟨b, off + k * 3, none⟩ = some (.int .i64 o.cls) ∧ w.cell? ⟨b, off + k * 3 + 1, none⟩ = some (.int .i64 o.code) ∧ w.cell? ⟨b, off + k * 3 + 2, none⟩ = some (.string (strOfNums o.data)) ∧ b < w.heap.size ∧ Fit o.data ∧ True := by
  have hl := h.len
  have ho : os[k]? = some (os[k]'(by omega)) := List.getElem?_eq_getElem (by omega)
  rcases h.cells with h0 | ⟨b, off, e, hc⟩
  · omega
  · obtain ⟨c0, c1, c2⟩ := hc k _ ho
    exact ⟨_, b, off, ho, e, c0, c1, c2, cell_lt c0, h.fits _ (List.mem_of_getElem? ho)⟩
theorem bytesWorld_bel (w : World) (e : TypeId) (s : ByteArray) : Below w.heap.size w (Lib.bytesWorld w e s) :=
  ⟨by rfl, by rfl, by rfl, by rw [Lib.bytesWorld_size]; omega, fun k hk => Lib.bytesWorld_at_old w e s k hk⟩
theorem bytesWorld_bs (w : World) (e : TypeId) (ds : List Int) (hf : ∀ i, 0 ≤ ds.getD i 0 ∧ ds.getD i 0 ≤ 255) (hr : ds.length ≤ 140737488355328) : BS (Lib.bytesWorld w e (strOfNums ds)) (some ⟨w.heap.size, 0, none⟩) ds.length ds := by
  refine ⟨rfl, hf, by omega, .inr ⟨w.heap.size, 0, rfl, fun i hi => ?_⟩⟩
  have h1 := Lib.bytesWorld_cell w e (strOfNums ds) i (by rw [strOfNums_size]; exact hi)
  rw [Nat.zero_add, h1]
  have h2 := strCells_nums hf
  unfold Lib.strCells at h2
  have h3 := congrArg (fun l => l[i]?) h2
  simp only [List.getElem?_map] at h3
  have h4 : (strOfNums ds).data.toList.length = ds.length := strOfNums_size ds
  rw [List.getElem?_eq_getElem (by omega), List.getElem?_eq_getElem hi] at h3
  simp only [Option.map_some, Option.some.injEq] at h3
  rw [List.getD_eq_getElem?_getD, List.getElem?_eq_getElem (by omega), List.getD_eq_getElem?_getD, List.getElem?_eq_getElem hi]
  simpa using h3
/-- A text as new bytes. -/
theorem conv_text (w : World) (ds : List Int) (hf : Fit ds) (hr : ds.length ≤ 140737488355328) : ∃ cap W, (convert 9 26 (.string (strOfNums ds))).run Try.prog w = .ok (.slice (some ⟨w.heap.size, 0, none⟩) ds.length cap) W ∧ BS W (some ⟨w.heap.size, 0, none⟩) ds.length ds ∧ Below w.heap.size w W ∧ ds.length ≤ cap ∧ cap ≤ 9223372036854775807 := by
  have h := Lib.run_convert_string_bytes (P := Try.prog) w 9 26 5 (strOfNums ds) Try.underlying9 Try.underlying26 Try.underlying5
  have hs := strOfNums_size ds
  have hg := grownCap_ge w (strOfNums ds).size 0 5
  have hc : grownCap w (strOfNums ds).size 0 5 ≤ maxLen := grownCap_le_maxLen w _ 0 5 (by unfold maxLen; omega)
  rw [hs] at h hg hc
  exact ⟨_, _, h, bytesWorld_bs w 5 ds hf hr, bytesWorld_bel w 5 _, hg, by unfold maxLen at hc; omega⟩
end Go.Proofs.Ytgonckbdkgiddaa

namespace Go.Proofs.Ytgonckbdkgiddaa.Eth
open Go.RowKit
end Go.Proofs.Ytgonckbdkgiddaa.Eth

namespace Go.Proofs.Ytgonckbdkgiddaa
open Go.RowKit
theorem run_buildO (x y : Int) (s : ByteArray) (w : World) : (Instr.buildSlice 23 1 #[(0, .agg #[.int .i64 x, .int .i64 y, .string s])]).run Try.prog w = .ok (.slice (some ⟨w.heap.size, 0, none⟩) 1 1) (w.alloc (.cells #[.int .i64 x, .int .i64 y, .string s] 38)) := by kernel_rfl
end Go.Proofs.Ytgonckbdkgiddaa

namespace Go.Proofs.Ytgonckbdkgiddaa
open Go.RowKit
set_option maxRecDepth 20000
set_option linter.unusedSimpArgs false
/-- How many bytes options have. -/
def szO (os : List Opt) : Int := (os.map fun o => 4 + (o.data.length : Int)).sum
theorem szO_snoc (os : List Opt) (o : Opt) : szO (os ++ [o]) = szO os + (4 + (o.data.length : Int)) := by simp [szO]
theorem szO_nn (os : List Opt) : 0 ≤ szO os := by
  induction os with
  | nil => decide
  | cons o r ih => simp only [szO, List.map_cons, List.sum_cons] at ih ⊢; omega
theorem szO_bd (os : List Opt) (h : ∀ o ∈ os, o.data.length ≤ 124) : szO os ≤ 128 * os.length := by
  induction os with
  | nil => simp [szO]
  | cons o r ih =>
    have h1 := h o (by simp)
    have h2 := ih (fun x hx => h x (by simp [hx]))
    simp only [szO, List.map_cons, List.sum_cons, List.length_cons] at h2 ⊢
    omega
theorem take_snocO {os : List Opt} {k : Nat} {o : Opt} (h : os[k]? = some o) : os.take (k + 1) = os.take k ++ [o] := by
  obtain ⟨hk, rfl⟩ := List.getElem?_eq_some_iff.1 h
  exact List.take_succ_eq_append_getElem hk
/-- Has an option room? -/
def optG (o : Opt) : Bool := fit16 o.cls && (fit8 o.code && (decide (o.data.length ≤ 124) && decide (o.data.length % 4 = 0)))
set_option maxHeartbeats 2000000 in
theorem gsize_any (a : Option Addr) (n cap : Nat) (os : List Opt) (w : World) (h : OS w a n os) (h124 : ∀ o ∈ os, o.data.length ≤ 124) :
    Calls Try.prog 35 #[.slice a n cap] w fun e w' => e = .returned (.int .i64 (szO os)) ∧ Below w.heap.size w w' := by
  have hl := h.len
  have hr := h.room
  have H : Hid _ := h
  have H1 : Hid _ := h124
  clear h h124
  go_enter Try.func35, Try.ntmps35
  go_wp2_with fail
  go_loopw [3, 8] (fun s i wr => ∃ k : Nat, k ≤ n ∧ i = .int .i64 k ∧ s = .int .i64 (szO (os.take k)) ∧ Below w.heap.size w wr) (fun _ i _ => n - (intOf i).toNat)
  case atStart => exact ⟨0, by omega, rfl, rfl, Below.refl _ _⟩
  case round =>
    obtain ⟨k, hk, rfl, rfl, hb⟩ := hrel
    have HB : Hid _ := hb
    by_cases hlt : k = n
    · have e0 : ¬ (k : Int) < (n : Int) := by omega
      have HS : Hid (os.take k = os) := List.take_of_length_le (by omega)
      clear hlt hb
      go_wp2
      go_ret
      rw [HS.out]
      exact ⟨rfl, HB.out⟩
    · have hkI : (k : Int) < (n : Int) := by omega
      obtain ⟨o, b, off, ho, rfl, c0, c1, c2, hbl, hfit, hlen⟩ := os_cell (H.out.below hb) (show k < n by omega)
      have hs := strOfNums_size o.data
      have hT := szO_snoc (os.take k) o
      rw [← take_snocO ho] at hT
      have h1 := szO_bd (os.take k) (fun x hx => H1.out x (List.mem_of_mem_take hx))
      have h2 := szO_nn (os.take k)
      have h3 : (os.take k).length ≤ n := by rw [List.length_take]; omega
      have h4 := H1.out o (List.mem_of_getElem? ho)
      have HT : Hid _ := hT
      have hne : ¬ b = wr.heap.size := by omega
      generalize szO (os.take k) = S at *
      generalize o.cls = oc at *
      generalize o.code = od at *
      generalize o.data = ds at *
      clear hT ho hfit hlen hb
      have w1 : IntKind.i64.wrap (4 + ((strOfNums ds).size : Int)) = 4 + (ds.length : Int) := by rw [hs]; simp [IntKind.wrap, IntKind.bits, IntKind.signed]; omega
      have w2 : IntKind.i64.wrap (S + (4 + (ds.length : Int))) = S + (4 + (ds.length : Int)) := by simp [IntKind.wrap, IntKind.bits, IntKind.signed]; omega
      go_wp2
      go_roundw
      case rel => exact ⟨k + 1, by omega, by go_num, by rw [HT.out], HB.out.alloc HB.out.size _⟩
      case measure => simp [intOf]; omega
def critB (o : Opt) : Bool := bits .and .i64 o.code 128 != 0
def flV (oam c : Bool) : Int := (if oam then 128 else 0) + (if c then 64 else 0)
def tnC (src dst sp vni : Int) (oam : Bool) (a : Option Addr) (n cap : Nat) (fr : List Int) : Array Value := #[.int .u32 src, .int .u32 dst, .int .i64 sp, .int .i64 vni, .bool oam, .slice a n cap, .string (strOfNums fr)]
theorem fl_or (oam c : Bool) : bits BinOp.or IntKind.i64 (flV oam c) 64 = flV oam true := by cases oam <;> cases c <;> decide +kernel
set_option maxHeartbeats 2000000 in
theorem gflags_any (src dst sp vni : Int) (oam : Bool) (a : Option Addr) (n cap : Nat) (os : List Opt) (fr : List Int) (w : World) (h : OS w a n os) :
    Calls Try.prog 37 #[.agg (tnC src dst sp vni oam a n cap fr)] w fun e w' => e = .returned (.int .i64 (flV oam (os.any critB))) ∧ Below w.heap.size w w' := by
  unfold tnC
  have hl := h.len
  have hr := h.room
  have H : Hid _ := h
  clear h
  go_enter Try.func37, Try.ntmps37
  have hor : bits BinOp.or IntKind.i64 0 128 = 128 := by decide +kernel
  cases oam
  · go_wp2_with fail
    go_loopw [3, 13] (fun s i wr => ∃ k : Nat, k ≤ n ∧ i = .int .i64 k ∧ s = .int .i64 (flV false ((os.take k).any critB)) ∧ Below w.heap.size w wr) (fun _ i _ => n - (intOf i).toNat)
    case atStart => exact ⟨0, by omega, rfl, rfl, below1 w _⟩
    case round =>
      obtain ⟨k, hk, rfl, rfl, hb⟩ := hrel
      have HB : Hid _ := hb
      by_cases hlt : k = n
      · have e0 : ¬ (k : Int) < (n : Int) := by omega
        have HS : Hid (os.take k = os) := List.take_of_length_le (by omega)
        clear hlt hb
        go_wp2
        go_ret
        rw [HS.out]
        exact ⟨rfl, HB.out⟩
      · have hkI : (k : Int) < (n : Int) := by omega
        obtain ⟨o, b, off, ho, rfl, c0, c1, c2, hbl, hfit, hlen⟩ := os_cell (H.out.below hb) (show k < n by omega)
        have hT : (os.take (k + 1)).any critB = ((os.take k).any critB || critB o) := by rw [take_snocO ho, List.any_append]; simp
        have HT : Hid _ := hT
        have hne : ¬ b = wr.heap.size := by omega
        have hor2 := fl_or false ((os.take k).any critB)
        cases hcr : critB o
        · have e1 : (bits BinOp.and IntKind.i64 o.code 128 != 0) = false := hcr
          rw [hcr, Bool.or_false] at HT
          generalize (os.take k).any critB = cb at *
          generalize o.cls = oc at *
          generalize o.code = od at *
          generalize o.data = ds at *
          clear hT ho hfit hlen hb hor2 hor hcr
          go_wp2
          go_roundw
          case rel => exact ⟨k + 1, by omega, by go_num, by rw [HT.out], HB.out.alloc HB.out.size _⟩
          case measure => simp [intOf]; omega
        · have e1 : (bits BinOp.and IntKind.i64 o.code 128 != 0) = true := hcr
          rw [hcr, Bool.or_true] at HT
          generalize (os.take k).any critB = cb at *
          generalize o.cls = oc at *
          generalize o.code = od at *
          generalize o.data = ds at *
          clear hT ho hfit hlen hb hor hcr
          go_wp2
          go_roundw
          case rel => exact ⟨k + 1, by omega, by go_num, by rw [HT.out], HB.out.alloc HB.out.size _⟩
          case measure => simp [intOf]; omega
  · go_wp2_with fail
    go_loopw [3, 13] (fun s i wr => ∃ k : Nat, k ≤ n ∧ i = .int .i64 k ∧ s = .int .i64 (flV true ((os.take k).any critB)) ∧ Below w.heap.size w wr) (fun _ i _ => n - (intOf i).toNat)
    case atStart => exact ⟨0, by omega, rfl, rfl, below1 w _⟩
    case round =>
      obtain ⟨k, hk, rfl, rfl, hb⟩ := hrel
      have HB : Hid _ := hb
      by_cases hlt : k = n
      · have e0 : ¬ (k : Int) < (n : Int) := by omega
        have HS : Hid (os.take k = os) := List.take_of_length_le (by omega)
        clear hlt hb
        go_wp2
        go_ret
        rw [HS.out]
        exact ⟨rfl, HB.out⟩
      · have hkI : (k : Int) < (n : Int) := by omega
        obtain ⟨o, b, off, ho, rfl, c0, c1, c2, hbl, hfit, hlen⟩ := os_cell (H.out.below hb) (show k < n by omega)
        have hT : (os.take (k + 1)).any critB = ((os.take k).any critB || critB o) := by rw [take_snocO ho, List.any_append]; simp
        have HT : Hid _ := hT
        have hne : ¬ b = wr.heap.size := by omega
        have hor2 := fl_or true ((os.take k).any critB)
        cases hcr : critB o
        · have e1 : (bits BinOp.and IntKind.i64 o.code 128 != 0) = false := hcr
          rw [hcr, Bool.or_false] at HT
          generalize (os.take k).any critB = cb at *
          generalize o.cls = oc at *
          generalize o.code = od at *
          generalize o.data = ds at *
          clear hT ho hfit hlen hb hor2 hor hcr
          go_wp2
          go_roundw
          case rel => exact ⟨k + 1, by omega, by go_num, by rw [HT.out], HB.out.alloc HB.out.size _⟩
          case measure => simp [intOf]; omega
        · have e1 : (bits BinOp.and IntKind.i64 o.code 128 != 0) = true := hcr
          rw [hcr, Bool.or_true] at HT
          generalize (os.take k).any critB = cb at *
          generalize o.cls = oc at *
          generalize o.code = od at *
          generalize o.data = ds at *
          clear hT ho hfit hlen hb hor hcr
          go_wp2
          go_roundw
          case rel => exact ⟨k + 1, by omega, by go_num, by rw [HT.out], HB.out.alloc HB.out.size _⟩
          case measure => simp [intOf]; omega
end Go.Proofs.Ytgonckbdkgiddaa

namespace Go.Proofs.Ytgonckbdkgiddaa.Ca
open Go.RowKit
theorem cell_lt {w : World} {a : Addr} {v : Value} (h : w.cell? a = some v) : a.block < w.heap.size := by
  unfold World.cell? at h
  by_cases hb : a.block < w.heap.size
  · exact hb
  · have : w.heap[a.block]? = none := Array.getElem?_eq_none (by omega)
    simp [this] at h
theorem below_drewN {n : Nat} {w w' : World} (h : Below n w w') (k : Nat) : Below n w (w'.drewN k) := ⟨h.os, h.tape, h.output, h.size, h.block⟩
theorem below1 (w : World) (A : Obj) : Below w.heap.size w (w.alloc A) := (Below.refl _ _).alloc (Nat.le_refl _) A
theorem below2 (w : World) (A B : Obj) : Below w.heap.size w ((w.alloc A).alloc B) := (below1 w A).alloc (by simp) B
theorem two_first (w : World) (A B : Obj) : ((w.alloc A).alloc B).heap[w.heap.size]? = some A := (heap_alloc_old _ _ (by simp)).trans (heap_alloc_new _ _)
theorem two_last (w : World) (A B : Obj) : ((w.alloc A).alloc B).heap[w.heap.size + 1]? = some B := by
  have := heap_alloc_new (w.alloc A) B
  simpa using this
theorem three_first (w : World) (A B C : Obj) : (((w.alloc A).alloc B).alloc C).heap[w.heap.size]? = some A := (heap_alloc_old _ _ (by simp; omega)).trans (two_first _ _ _)
theorem below3 (w : World) (A B C : Obj) : Below w.heap.size w (((w.alloc A).alloc B).alloc C) := (below2 w A B).alloc (by simp; omega) C
theorem below4 (w : World) (A B C D : Obj) : Below w.heap.size w ((((w.alloc A).alloc B).alloc C).alloc D) := (below3 w A B C).alloc (by simp; omega) D
theorem cell_row {W : World} {g : Nat} {cs : Array Value} {t : TypeId} (h : W.heap[g]? = some (.cells cs t (0, 0))) (i : Nat) : W.cell? ⟨g, i, none⟩ = cs[i]? := cell_of_row W g i cs t (0, 0) h
/-- A whole struct into a block. -/
theorem wpList_store_row {P : Program} {ops : Array Oper} {rest : List Oper} {op : Oper} {a : Act} {w : World} {Q : Exit → Act → World → Prop} (hgd : op.guard = none) (ty : TypeId) (x y : Operand) (ho : op.op = .store ty x y)
    (g : Nat) (old c' : Array Value) (t : TypeId) (hx : a.eval x = .pointer (some ⟨g, 0, none⟩)) (hy : a.eval y = .agg c') (hg : w.heap[g]? = some (.cells old t (0, 0)))
    (hi : (P.info? ty).map (·.size) = some c'.size) (hs : old.size = c'.size) (h1 : c'.all (·.oneCell') = true)
    (h : ∀ w', w'.heap[g]? = some (.cells c' t (0, 0)) → (∀ k, k ≠ g → w'.heap[k]? = w.heap[k]?) → w'.heap.size = w.heap.size → Below g w w' → wpList P ops Q rest (a.put op.dst undef) w') : wpList P ops Q (op :: rest) a w := by
  refine wpList_plain hgd fun K hK => ?_
  unfold Oper.wp execOp
  simp only [ho, hx, hy, Sem.run_bind, Instr.storeAt, Instr.sureAddr, Sem.run_pure, Result.andThen_ok, run_storeVar_row w g t ty old c' hg hi hs h1]
  have e1 : (w.setRow g c').heap.size = w.heap.size := by simp [World.setRow]
  have e2 : ∀ k, k ≠ g → (w.setRow g c').heap[k]? = w.heap[k]? := fun k hk => by
    simp only [World.setRow, Array.getElem?_modify]
    rw [if_neg (fun e => hk e.symm)]
  have e3 : (w.setRow g c').heap[g]? = some (.cells c' t (0, 0)) := by
    simp only [World.setRow, Array.getElem?_modify, hg]
    simp
  exact hK _ _ (h _ e3 e2 e1 ⟨rfl, rfl, rfl, by omega, fun k hk => e2 k (by omega)⟩)
theorem lt_of_heap {W : World} {g : Nat} {o : Obj} (h : W.heap[g]? = some o) : g < W.heap.size := by
  rcases Nat.lt_or_ge g W.heap.size with h' | h'
  · exact h'
  · simp [Array.getElem?_eq_none h'] at h
theorem row_setCell {w : World} {b : Nat} {cs : Array Value} {t : TypeId} (h : w.heap[b]? = some (.cells cs t (0, 0))) (o : Nat) (v : Value) : (w.setCell ⟨b, o, none⟩ v).heap[b]? = some (.cells (cs.setIfInBounds o v) t (0, 0)) := by
  have hlt : b < w.heap.size := lt_of_heap h
  have hv : w.heap[b] = .cells cs t (0, 0) := (Array.getElem?_eq_some_iff.1 h).2
  unfold World.setCell
  simp [Array.getElem?_modify, h]
/-- A row with other cells from a place on. -/
def putC : Array Value → Nat → List Value → Array Value
  | cs, _, [] => cs
  | cs, o, v :: r => putC (cs.setIfInBounds o v) (o + 1) r
theorem row_setCells : ∀ (vs : List Value) {w : World} {b : Nat} {cs : Array Value} {t : TypeId} (_ : w.heap[b]? = some (.cells cs t (0, 0))) (o : Nat), (w.setCells b o vs).heap[b]? = some (.cells (putC cs o vs) t (0, 0))
  | [], _, _, _, _, h, _ => h
  | v :: r, w, b, cs, t, h, o => by
    rw [World.setCells, putC]
    exact row_setCells r (row_setCell h o v) (o + 1)
theorem heap_setCells : ∀ (vs : List Value) (w : World) (b o : Nat), (w.setCells b o vs).heap.size = w.heap.size ∧ (∀ k, k ≠ b → (w.setCells b o vs).heap[k]? = w.heap[k]?) ∧ Below b w (w.setCells b o vs)
  | [], w, b, o => ⟨rfl, fun _ _ => rfl, Below.refl _ _⟩
  | v :: r, w, b, o => by
    obtain ⟨h1, h2, h3⟩ := heap_setCells r (w.setCell ⟨b, o, none⟩ v) b (o + 1)
    have e1 : (w.setCell ⟨b, o, none⟩ v).heap.size = w.heap.size := by simp [World.setCell]
    refine ⟨h1.trans e1, fun k hk => (h2 k hk).trans (Below.heap_setCell _ _ _ _ hk), ?_⟩
    have h0 : Below b w (w.setCell ⟨b, o, none⟩ v) := (Below.refl b w).setCell (Nat.le_refl _) v
    exact h0.trans h3
theorem there_row {w : World} {b : Nat} {cs : Array Value} {t : TypeId} (h : w.heap[b]? = some (.cells cs t (0, 0))) (o n : Nat) (hn : o + n ≤ cs.size) : w.there b o n := fun j hj => by
  refine ⟨?_, frozen_of_row w b _ cs t h⟩
  rw [cell_row h, Array.getElem?_eq_getElem (by omega)]; rfl
end Go.Proofs.Ytgonckbdkgiddaa.Ca
namespace Go.Proofs.Ytgonckbdkgiddaa.Ca
open Go.RowKit
theorem step_store_at {P : Program} {ops : Array Oper} {op : Oper} {a : Act} {w : World} {K : Act → World → Prop} {Q : Exit → Act → World → Prop} {E : Prop} (hgd : op.guard = none) (ty : TypeId) (x y : Operand) (ho : op.op = .store ty x y)
    (g o : Nat) (old c' : Array Value) (t : TypeId) (hx : a.eval x = .pointer (some ⟨g, o, none⟩)) (hy : a.eval y = .agg c') (hg : w.heap[g]? = some (.cells old t (0, 0)))
    (hi : (P.info? ty).map (·.size) = some c'.size) (hs : o + c'.size ≤ old.size) (h1 : c'.all (·.oneCell') = true)
    (h : ∀ w', w'.heap[g]? = some (.cells (putC old o c'.toList) t (0, 0)) → (∀ k, k ≠ g → w'.heap[k]? = w.heap[k]?) → w'.heap.size = w.heap.size → Below g w w' → K (a.put op.dst undef) w') :
    if Region.wanted op (yielded ops a.tmps) = true then Oper.wp P op a w K Q else E := by
  have hw : Region.wanted op (yielded ops a.tmps) = true := by simp [Region.wanted, hgd]
  rw [if_pos hw]
  obtain ⟨e1, e2, e3⟩ := heap_setCells c'.toList w g o
  exact wp_store_mid ty x y ho g o c' hx hy (there_row hg o _ hs) hi h1 (h _ (row_setCells _ hg o) e2 e1 e3)
end Go.Proofs.Ytgonckbdkgiddaa.Ca

namespace Go.Proofs.Ytgonckbdkgiddaa
open Go.RowKit
set_option maxRecDepth 20000
set_option linter.unusedSimpArgs false
/-- What check answers. -/
def chkE (sp vni : Int) (os : List Opt) (m : Nat) : Int :=
  if fit16 sp = true ∧ 0 ≤ vni ∧ vni ≤ 16777215 then (if os.all optG = true then (if szO os ≤ 252 then (if m ≤ 9018 then 0 else 3) else 1) else 1) else 1
theorem optG_124 {os : List Opt} (h : os.all optG = true) : ∀ o ∈ os, o.data.length ≤ 124 := fun o ho => by
  have := List.all_eq_true.1 h o ho
  unfold optG at this
  simp only [Bool.and_eq_true, decide_eq_true_eq] at this
  exact this.2.2.1
set_option maxHeartbeats 4000000 in
theorem gcheck_any (src dst sp vni : Int) (oam : Bool) (a : Option Addr) (n cap : Nat) (os : List Opt) (fr : List Int) (w : World) (h : OS w a n os) :
    Calls Try.prog 17 #[.agg (tnC src dst sp vni oam a n cap fr)] w fun e w' => e = .returned (.int .i64 (chkE sp vni os fr.length)) ∧ Below w.heap.size w w' := by
  unfold tnC
  have hl := h.len
  have hr := h.room
  have H : Hid _ := h
  have hfs := strOfNums_size fr
  clear h
  by_cases c1 : fit16 sp = true
  · by_cases c2 : vni < 0
    · have HE : Hid (chkE sp vni os fr.length = 1) := by show _ = _; unfold chkE; rw [if_neg (by omega)]
      go_enter Try.func17, Try.ntmps17
      go_wp2_with fail
      refine scope_from ?_
      go_wp2_with fail
      refine (fits16_any sp _).mono ?_
      rintro e W1 ⟨rfl, rfl⟩
      rw [c1]
      go_wp2_with fail
      go_step3
      show FromLabel _ _ _ _ _ _
      refine from_label rfl ?_
      go_wp2
      simp only [Exit.jumpTo]
      go_ret
      rw [HE.out]
      exact ⟨rfl, below1 w _⟩
    by_cases c3 : 16777215 < vni
    · have HE : Hid (chkE sp vni os fr.length = 1) := by show _ = _; unfold chkE; rw [if_neg (by omega)]
      go_enter Try.func17, Try.ntmps17
      go_wp2_with fail
      refine scope_from ?_
      go_wp2_with fail
      refine (fits16_any sp _).mono ?_
      rintro e W1 ⟨rfl, rfl⟩
      rw [c1]
      go_wp2_with fail
      go_step3
      show FromLabel _ _ _ _ _ _
      refine from_label rfl ?_
      go_wp2
      simp only [Exit.jumpTo]
      go_ret
      rw [HE.out]
      exact ⟨rfl, below1 w _⟩
    have HE : Hid (chkE sp vni os fr.length = if os.all optG = true then (if szO os ≤ 252 then (if fr.length ≤ 9018 then 0 else 3) else 1) else 1) := by
      show _ = _
      unfold chkE
      rw [if_pos ⟨c1, by omega, by omega⟩]
    go_enter Try.func17, Try.ntmps17
    go_wp2_with fail
    refine scope_from ?_
    go_wp2_with fail
    refine (fits16_any sp _).mono ?_
    rintro e W1 ⟨rfl, rfl⟩
    rw [c1]
    go_wp2_with fail
    have A0 : Hid ((w.alloc (.cells #[.int .u32 src, .int .u32 dst, .int .i64 sp, .int .i64 vni, .bool oam, .slice a n cap, .string (strOfNums fr)] 25)).heap[w.heap.size]? = some (.cells #[.int .u32 src, .int .u32 dst, .int .i64 sp, .int .i64 vni, .bool oam, .slice a n cap, .string (strOfNums fr)] 25 (0, 0))) := heap_alloc_new w _
    go_loopw [23] (fun i wr => ∃ k : Nat, k ≤ n ∧ i = .int .i64 k ∧ Hid ((os.take k).all optG = true) ∧ Below w.heap.size w wr ∧ wr.heap[w.heap.size]? = some (.cells #[.int .u32 src, .int .u32 dst, .int .i64 sp, .int .i64 vni, .bool oam, .slice a n cap, .string (strOfNums fr)] 25 (0, 0))) (fun i _ => n - (intOf i).toNat)
    case atStart => exact ⟨0, by omega, rfl, rfl, below1 w _, A0.out⟩
    case round =>
      obtain ⟨k, hk, rfl, hall, hb, hA⟩ := hrel
      have HB : Hid _ := hb
      have HA : Hid _ := hA
      by_cases hlt : k = n
      · have e0 : ¬ (k : Int) < (n : Int) := by omega
        have hfull : os.all optG = true := by
          have := hall.out
          rw [List.take_of_length_le (by omega)] at this
          exact this
        have c5 := cell_of_row wr w.heap.size 5 _ 25 (0, 0) hA
        have c6 := cell_of_row wr w.heap.size 6 _ 25 (0, 0) hA
        simp only [List.getElem?_toArray, List.getElem?_cons_succ, List.getElem?_cons_zero] at c5 c6
        clear hlt hb hA hall A0
        go_wp2_with fail
        refine (gsize_any a n cap os wr (H.out.below HB.out) (optG_124 hfull)).mono ?_
        rintro e W2 ⟨rfl, hb2⟩
        have HB2 : Hid _ := HB.out.trans (hb2.mono HB.out.size)
        have hA2 := (hb2.block _ (Ca.lt_of_heap HA.out)).trans HA.out
        have d6 := cell_of_row W2 w.heap.size 6 _ 25 (0, 0) hA2
        simp only [List.getElem?_toArray, List.getElem?_cons_succ, List.getElem?_cons_zero] at d6
        have HEE : Hid (chkE sp vni os fr.length = if szO os ≤ 252 then (if fr.length ≤ 9018 then 0 else 3) else 1) := by
          show _ = _
          rw [HE.out, if_pos hfull]
        clear hb2 hA2 HA HE c5 c6 hfull
        by_cases c9 : 252 < szO os
        · have HF : Hid (chkE sp vni os fr.length = 1) := by show _ = _; rw [HEE.out, if_neg (by omega)]
          clear HEE
          go_wp2_with fail
          go_step3
          show FromLabel _ _ _ _ _ _
          refine from_label rfl ?_
          go_wp2
          simp only [Exit.jumpTo]
          go_ret
          rw [HF.out]
          exact ⟨rfl, HB2.out⟩
        by_cases c10 : 9018 < fr.length
        · have HF : Hid (chkE sp vni os fr.length = 3) := by show _ = _; rw [HEE.out, if_pos (by omega), if_neg (by omega)]
          have hgt : (9018 : Int) < ((strOfNums fr).size : Int) := by rw [hfs]; omega
          clear HEE
          go_wp2_with fail
          go_step3
          show FromLabel _ _ _ _ _ _
          refine from_label rfl ?_
          go_wp2
          simp only [Exit.jumpTo]
          go_ret
          rw [HF.out]
          exact ⟨rfl, HB2.out⟩
        · have HF : Hid (chkE sp vni os fr.length = 0) := by show _ = _; rw [HEE.out, if_pos (by omega), if_pos (by omega)]
          have hgt : ¬ (9018 : Int) < ((strOfNums fr).size : Int) := by rw [hfs]; omega
          clear HEE
          go_wp2
          simp only [Exit.jumpTo]
          go_ret
          rw [HF.out]
          exact ⟨rfl, HB2.out⟩
      · have hkI : (k : Int) < (n : Int) := by omega
        obtain ⟨o, b, off, ho, rfl, c0, c1', c2', hbl, hfit, hlen⟩ := os_cell (H.out.below hb) (show k < n by omega)
        have hs := strOfNums_size o.data
        have HT : Hid ((os.take (k + 1)).all optG = ((os.take k).all optG && optG o)) := by show _ = _; rw [take_snocO ho, List.all_append]; simp
        have HN : Hid (optG o = false → chkE sp vni os fr.length = 1) := fun hf => by
          have : os.all optG = false := by
            rw [Bool.eq_false_iff]; intro h
            have := List.all_eq_true.1 h o (List.mem_of_getElem? ho)
            rw [hf] at this; cases this
          rw [HE.out, this]; rfl
        have HG : Hid (optG o = (fit16 o.cls && (fit8 o.code && (decide (o.data.length ≤ 124) && decide (o.data.length % 4 = 0))))) := rfl
        have HR : Hid (Below w.heap.size w (wr.alloc (.cells #[.int .i64 o.cls, .int .i64 o.code, .string (strOfNums o.data)] 38))) := hb.alloc hb.size _
        have HRA : Hid ((wr.alloc (.cells #[.int .i64 o.cls, .int .i64 o.code, .string (strOfNums o.data)] 38)).heap[w.heap.size]? = some (.cells #[.int .u32 src, .int .u32 dst, .int .i64 sp, .int .i64 vni, .bool oam, .slice (some ⟨b, off, none⟩) n cap, .string (strOfNums fr)] 25 (0, 0))) := ((below1 wr _).block _ (Ca.lt_of_heap hA)).trans hA
        have hne : ¬ b = wr.heap.size := by omega
        generalize optG o = og at *
        generalize o.cls = oc at *
        generalize o.code = od at *
        generalize o.data = ds at *
        clear ho hfit hlen hb hA A0
        go_wp2_with fail
        refine (fits16_any oc _).mono ?_
        rintro e W2 ⟨rfl, rfl⟩
        cases d1 : fit16 oc
        · have hof : og = false := by rw [HG.out, d1]; rfl
          go_wp2_with fail
          go_step3
          show FromLabel _ _ _ _ _ _
          refine from_label rfl ?_
          go_wp2
          simp only [Exit.jumpTo]
          go_ret
          rw [HN.out hof]
          exact ⟨rfl, HR.out⟩
        go_wp2_with fail
        refine (fits8_any od _).mono ?_
        rintro e W2 ⟨rfl, rfl⟩
        cases d2 : fit8 od
        · have hof : og = false := by rw [HG.out, d1, d2]; rfl
          go_wp2_with fail
          go_step3
          show FromLabel _ _ _ _ _ _
          refine from_label rfl ?_
          go_wp2
          simp only [Exit.jumpTo]
          go_ret
          rw [HN.out hof]
          exact ⟨rfl, HR.out⟩
        by_cases d3 : 124 < ds.length
        · have hof : og = false := by rw [HG.out, d1, d2, show decide (ds.length ≤ 124) = false by simp; omega]; rfl
          have hgt : (124 : Int) < ((ds.length : Nat) : Int) := by omega
          go_wp2_with fail
          go_step3
          show FromLabel _ _ _ _ _ _
          refine from_label rfl ?_
          go_wp2
          simp only [Exit.jumpTo]
          go_ret
          rw [HN.out hof]
          exact ⟨rfl, HR.out⟩
        by_cases d4 : ds.length % 4 = 0
        · have hot : og = true := by rw [HG.out, d1, d2, show decide (ds.length ≤ 124) = true by simp; omega, show decide (ds.length % 4 = 0) = true by simp; omega]; rfl
          have hm : (((ds.length : Nat) : Int) % 4 != 0) = false := by simp; omega
          have hgl : ((ds.length : Nat) : Int) ≤ 124 := by omega
          have HAL : Hid ((os.take (k + 1)).all optG = true) := by show _ = _; rw [HT.out, hall.out, hot]; rfl
          clear HT HG HN hot
          go_wp2
          go_roundw
          case rel => exact ⟨k + 1, by omega, by go_num, HAL, HR.out, HRA.out⟩
          case measure => simp [intOf]; omega
        · have hof : og = false := by rw [HG.out, d1, d2, show decide (ds.length % 4 = 0) = false by simp; omega]; simp
          have hm : (((ds.length : Nat) : Int) % 4 != 0) = true := by simp; omega
          have hgl : ((ds.length : Nat) : Int) ≤ 124 := by omega
          go_wp2_with fail
          go_step3
          show FromLabel _ _ _ _ _ _
          refine from_label rfl ?_
          go_wp2
          simp only [Exit.jumpTo]
          go_ret
          rw [HN.out hof]
          exact ⟨rfl, HR.out⟩
  · have c1' : fit16 sp = false := by simpa using c1
    have HE : Hid (chkE sp vni os fr.length = 1) := by show _ = _; unfold chkE; rw [if_neg (fun h => c1 h.1)]
    go_enter Try.func17, Try.ntmps17
    go_wp2_with fail
    refine scope_from ?_
    go_wp2_with fail
    refine (fits16_any sp _).mono ?_
    rintro e W1 ⟨rfl, rfl⟩
    rw [c1']
    go_wp2_with fail
    go_step3
    show FromLabel _ _ _ _ _ _
    refine from_label rfl ?_
    go_wp2
    simp only [Exit.jumpTo]
    go_ret
    rw [HE.out]
    exact ⟨rfl, below1 w _⟩
end Go.Proofs.Ytgonckbdkgiddaa
