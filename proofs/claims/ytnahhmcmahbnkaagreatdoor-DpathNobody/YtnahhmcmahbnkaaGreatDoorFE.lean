/- What a State is; the row of each field reads and writes its place. No condition beyond: the State's cells are of their kinds. -/
import Derived.Test.YtnahhmcmahbnkaaGreatDoorGFCtoFD
namespace Go.Proofs.YtnahhmcmahbnkaaGreatDoor
open Go.RowKit

/-- A State: 49 cells, each of its kind. -/
structure St (cs : Array Value) : Prop where
  size : cs.size = 49
  one : cs.all (·.oneCell') = true
  u64 : ∀ i ∈ [0, 1, 7, 9], ∃ x, cs[i]? = some (.int .u64 x) ∧ 0 ≤ x ∧ x ≤ 18446744073709551615
  i64 : ∀ i ∈ [3, 4, 6, 12, 13, 14, 15, 16, 20, 21, 22, 24, 25, 29, 30, 31, 36, 37, 38, 39, 44, 47, 48], ∃ x, cs[i]? = some (.int .i64 x) ∧ -9223372036854775808 ≤ x ∧ x ≤ 9223372036854775807
  u32 : ∀ i ∈ [8, 10, 17, 18, 23, 27, 28, 40, 41, 42, 43, 45, 46], ∃ x, cs[i]? = some (.int .u32 x) ∧ 0 ≤ x ∧ x ≤ 4294967295
  bool : ∀ i ∈ [2, 5, 11, 26], ∃ b, cs[i]? = some (.bool b)
  str : ∀ i ∈ [19, 32, 33, 34, 35], ∃ s, cs[i]? = some (.string s)

def numAt (cs : Array Value) (i : Nat) : Int := match cs[i]? with | some (.int _ x) => x | _ => 0
def boolAt (cs : Array Value) (i : Nat) : Bool := match cs[i]? with | some (.bool b) => b | _ => false
theorem numAt_of {cs : Array Value} {i : Nat} {k : IntKind} {x : Int} (h : cs[i]? = some (.int k x)) : numAt cs i = x := by simp [numAt, h]
theorem boolAt_of {cs : Array Value} {i : Nat} {b : Bool} (h : cs[i]? = some (.bool b)) : boolAt cs i = b := by simp [boolAt, h]
def fIdx : Nat → Nat
  | 1 => 0
  | 2 => 1
  | 3 => 4
  | 4 => 3
  | 5 => 6
  | 6 => 7
  | 7 => 8
  | 8 => 9
  | 9 => 10
  | 10 => 17
  | 11 => 18
  | 12 => 16
  | 13 => 15
  | 14 => 12
  | 15 => 14
  | 16 => 21
  | 17 => 22
  | 18 => 24
  | 19 => 25
  | 20 => 29
  | 21 => 36
  | 22 => 37
  | 23 => 38
  | 24 => 39
  | 25 => 40
  | 26 => 41
  | 27 => 42
  | 28 => 43
  | _ => 0
def fBits : Nat → Nat
  | 1 => 48
  | 2 => 48
  | 3 => 16
  | 4 => 17
  | 5 => 16
  | 6 => 48
  | 7 => 32
  | 8 => 48
  | 9 => 32
  | 10 => 32
  | 11 => 32
  | 12 => 8
  | 13 => 8
  | 14 => 8
  | 15 => 16
  | 16 => 8
  | 17 => 8
  | 18 => 16
  | 19 => 16
  | 20 => 12
  | 21 => 8
  | 22 => 24
  | 23 => 16
  | 24 => 16
  | 25 => 32
  | 26 => 32
  | 27 => 32
  | 28 => 32
  | _ => 0
def fOf : Nat → Nat
  | 1 => 0
  | 2 => 0
  | 3 => 0
  | 4 => 0
  | 5 => 1
  | 6 => 1
  | 7 => 1
  | 8 => 1
  | 9 => 1
  | 10 => 2
  | 11 => 2
  | 12 => 2
  | 13 => 2
  | 14 => 2
  | 15 => 2
  | 16 => 3
  | 17 => 3
  | 18 => 4
  | 19 => 4
  | 20 => 5
  | 21 => 0
  | 22 => 0
  | 23 => 0
  | 24 => 0
  | 25 => 0
  | 26 => 0
  | 27 => 0
  | 28 => 0
  | _ => 0
def fKind : Nat → IntKind
  | 1 => .u64
  | 2 => .u64
  | 3 => .i64
  | 4 => .i64
  | 5 => .i64
  | 6 => .u64
  | 7 => .u32
  | 8 => .u64
  | 9 => .u32
  | 10 => .u32
  | 11 => .u32
  | 12 => .i64
  | 13 => .i64
  | 14 => .i64
  | 15 => .i64
  | 16 => .i64
  | 17 => .i64
  | 18 => .i64
  | 19 => .i64
  | 20 => .i64
  | 21 => .i64
  | 22 => .i64
  | 23 => .i64
  | 24 => .i64
  | 25 => .u32
  | 26 => .u32
  | 27 => .u32
  | 28 => .u32
  | _ => .i64
def fName : Nat → ByteArray
  | 1 => ⟨#[101, 116, 104, 46, 100, 115, 116]⟩
  | 2 => ⟨#[101, 116, 104, 46, 115, 114, 99]⟩
  | 3 => ⟨#[101, 116, 104, 46, 116, 121, 112, 101]⟩
  | 4 => ⟨#[118, 108, 97, 110, 46, 116, 97, 103]⟩
  | 5 => ⟨#[97, 114, 112, 46, 111, 112]⟩
  | 6 => ⟨#[97, 114, 112, 46, 115, 104, 97]⟩
  | 7 => ⟨#[97, 114, 112, 46, 115, 112, 97]⟩
  | 8 => ⟨#[97, 114, 112, 46, 116, 104, 97]⟩
  | 9 => ⟨#[97, 114, 112, 46, 116, 112, 97]⟩
  | 10 => ⟨#[105, 112, 52, 46, 115, 114, 99]⟩
  | 11 => ⟨#[105, 112, 52, 46, 100, 115, 116]⟩
  | 12 => ⟨#[105, 112, 46, 112, 114, 111, 116, 111]⟩
  | 13 => ⟨#[105, 112, 46, 116, 116, 108]⟩
  | 14 => ⟨#[105, 112, 46, 116, 111, 115]⟩
  | 15 => ⟨#[105, 112, 46, 102, 114, 97, 103]⟩
  | 16 => ⟨#[105, 99, 109, 112, 46, 116, 121, 112, 101]⟩
  | 17 => ⟨#[105, 99, 109, 112, 46, 99, 111, 100, 101]⟩
  | 18 => ⟨#[116, 112, 46, 115, 114, 99]⟩
  | 19 => ⟨#[116, 112, 46, 100, 115, 116]⟩
  | 20 => ⟨#[116, 99, 112, 46, 102, 108, 97, 103, 115]⟩
  | 21 => ⟨#[99, 116, 46, 115, 116, 97, 116, 101]⟩
  | 22 => ⟨#[100, 97, 116, 97, 112, 97, 116, 104]⟩
  | 23 => ⟨#[105, 110, 112, 111, 114, 116]⟩
  | 24 => ⟨#[111, 117, 116, 112, 111, 114, 116]⟩
  | 25 => ⟨#[114, 101, 103, 48]⟩
  | 26 => ⟨#[114, 101, 103, 49]⟩
  | 27 => ⟨#[114, 101, 103, 50]⟩
  | 28 => ⟨#[114, 101, 103, 51]⟩
  | _ => ⟨#[]⟩

def wrapK : IntKind → Int → Int
  | .i64, v => wrap64 v
  | .u32, v => v % 4294967296
  | _, v => v
def rdF (f : Nat) (cs : Array Value) : Int :=
  if f = 4 then (if boolAt cs 2 then IntKind.u64.wrap (IntKind.u64.wrap (numAt cs 3) + 65536) else 0) else IntKind.u64.wrap (numAt cs (fIdx f))
def wrF (f : Nat) (cs : Array Value) (v : Int) : Array Value :=
  if f = 4 then (if (bits BinOp.and IntKind.u64 v 65536 != 0) then tagYes cs v else tagNo cs) else cs.setIfInBounds (fIdx f) (.int (fKind f) (wrapK (fKind f) v))

/-- What a row of the table does. -/
structure Row (W : World) (R S : Value) (rd : Array Value → Int) (wr : Array Value → Int → Array Value) : Prop where
  read : ∃ r cap, R = .func (Fn.func r) #[] cap ∧ (∀ args W, (callFunc r args).run Tryz.prog W = .ok (.enter r args) W) ∧ ∀ W' cs, Below W.heap.size W W' → St cs → Calls Tryz.prog r (#[.agg cs] ++ cap) W' fun e w'' => e = .returned (.int .u64 (rd cs)) ∧ Below W'.heap.size W' w''
  write : ∃ s cap, S = .func (Fn.func s) #[] cap ∧ (∀ args W, (callFunc s args).run Tryz.prog W = .ok (.enter s args) W) ∧ ∀ W' cs v, Below W.heap.size W W' → St cs → Calls Tryz.prog s (#[.agg cs, .int .u64 v] ++ cap) W' fun e w'' => e = .returned (.agg (wr cs v)) ∧ Below W'.heap.size W' w''

theorem wrap_id {x : Int} (h0 : 0 ≤ x) (h1 : x ≤ 18446744073709551615) : IntKind.u64.wrap x = x := by
  simp [IntKind.wrap, IntKind.bits, IntKind.signed]; omega

theorem callR_u64 : ∀ args W, (callFunc 209 args).run Tryz.prog W = .ok (.enter 209 args) W := fun args W => by simp [go_sem]
theorem callW_u64 : ∀ args W, (callFunc 210 args).run Tryz.prog W = .ok (.enter 210 args) W := fun args W => by simp [go_sem]
theorem mkRow_u64 (W : World) (p k idx : Nat) (cap : Array Value) (hcall : ∀ args W, (callFunc k args).run Tryz.prog W = .ok (.enter k args) W) (Inv : World → Prop) (hk : ∀ W b, Inv W → Calls Tryz.prog k (#[.pointer (some ⟨b, 0, none⟩)] ++ cap) W fun e W' => e = .returned (.pointer (some ⟨b, idx, none⟩)) ∧ ∃ nq, W' = W.drewN nq)
    (hp : W.cell? ⟨p, 0, none⟩ = some (.func (Fn.func k) #[] cap)) (hInv : ∀ W', Below W.heap.size W W' → Inv W') (get : ∀ cs, St cs → ∃ x, cs[idx]? = some (.int .u64 x) ∧ 0 ≤ x ∧ x ≤ 18446744073709551615) :
    Row W (.func (Fn.func 209) #[] #[.pointer (some ⟨p, 0, none⟩)]) (.func (Fn.func 210) #[] #[.pointer (some ⟨p, 0, none⟩)]) (fun cs => IntKind.u64.wrap (numAt cs idx)) (fun cs v => cs.setIfInBounds idx (.int .u64 (wrapK .u64 v))) := by
  refine ⟨⟨_, _, rfl, callR_u64, fun W' cs hb' hst => ?_⟩, ⟨_, _, rfl, callW_u64, fun W' cs v hb' hst => ?_⟩⟩
  · obtain ⟨x, hx, hb⟩ := get cs hst
    have hp' : W'.cell? ⟨p, 0, none⟩ = some (.func (Fn.func k) #[] cap) := (hb'.cell (cell_lt hp)).trans hp
    have := read_u64 k idx cap hcall Inv hk cs x hx p W' hp' (hInv _ (hb'.alloc hb'.size _))
    rw [numAt_of hx, wrap_id hb.1 hb.2]
    exact this
  · obtain ⟨x, hx, hb⟩ := get cs hst
    have hp' : W'.cell? ⟨p, 0, none⟩ = some (.func (Fn.func k) #[] cap) := (hb'.cell (cell_lt hp)).trans hp
    exact write_u64 k idx cap hcall Inv hk cs hst.size hst.one x v hx p W' hp' (fun A => hInv _ ((hb'.alloc hb'.size _).alloc (by have := hb'.size; simp; omega) _))

theorem callR_i64 : ∀ args W, (callFunc 211 args).run Tryz.prog W = .ok (.enter 211 args) W := fun args W => by simp [go_sem]
theorem callW_i64 : ∀ args W, (callFunc 212 args).run Tryz.prog W = .ok (.enter 212 args) W := fun args W => by simp [go_sem]
theorem mkRow_i64 (W : World) (p k idx : Nat) (cap : Array Value) (hcall : ∀ args W, (callFunc k args).run Tryz.prog W = .ok (.enter k args) W) (Inv : World → Prop) (hk : ∀ W b, Inv W → Calls Tryz.prog k (#[.pointer (some ⟨b, 0, none⟩)] ++ cap) W fun e W' => e = .returned (.pointer (some ⟨b, idx, none⟩)) ∧ ∃ nq, W' = W.drewN nq)
    (hp : W.cell? ⟨p, 0, none⟩ = some (.func (Fn.func k) #[] cap)) (hInv : ∀ W', Below W.heap.size W W' → Inv W') (get : ∀ cs, St cs → ∃ x, cs[idx]? = some (.int .i64 x) ∧ -9223372036854775808 ≤ x ∧ x ≤ 9223372036854775807) :
    Row W (.func (Fn.func 211) #[] #[.pointer (some ⟨p, 0, none⟩)]) (.func (Fn.func 212) #[] #[.pointer (some ⟨p, 0, none⟩)]) (fun cs => IntKind.u64.wrap (numAt cs idx)) (fun cs v => cs.setIfInBounds idx (.int .i64 (wrapK .i64 v))) := by
  refine ⟨⟨_, _, rfl, callR_i64, fun W' cs hb' hst => ?_⟩, ⟨_, _, rfl, callW_i64, fun W' cs v hb' hst => ?_⟩⟩
  · obtain ⟨x, hx, hb⟩ := get cs hst
    have hp' : W'.cell? ⟨p, 0, none⟩ = some (.func (Fn.func k) #[] cap) := (hb'.cell (cell_lt hp)).trans hp
    have := read_i64 k idx cap hcall Inv hk cs x hx p W' hp' (hInv _ (hb'.alloc hb'.size _))
    rw [numAt_of hx]
    exact this
  · obtain ⟨x, hx, hb⟩ := get cs hst
    have hp' : W'.cell? ⟨p, 0, none⟩ = some (.func (Fn.func k) #[] cap) := (hb'.cell (cell_lt hp)).trans hp
    exact write_i64 k idx cap hcall Inv hk cs hst.size hst.one x v hx p W' hp' (fun A => hInv _ ((hb'.alloc hb'.size _).alloc (by have := hb'.size; simp; omega) _))

theorem callR_u32 : ∀ args W, (callFunc 213 args).run Tryz.prog W = .ok (.enter 213 args) W := fun args W => by simp [go_sem]
theorem callW_u32 : ∀ args W, (callFunc 214 args).run Tryz.prog W = .ok (.enter 214 args) W := fun args W => by simp [go_sem]
theorem mkRow_u32 (W : World) (p k idx : Nat) (cap : Array Value) (hcall : ∀ args W, (callFunc k args).run Tryz.prog W = .ok (.enter k args) W) (Inv : World → Prop) (hk : ∀ W b, Inv W → Calls Tryz.prog k (#[.pointer (some ⟨b, 0, none⟩)] ++ cap) W fun e W' => e = .returned (.pointer (some ⟨b, idx, none⟩)) ∧ ∃ nq, W' = W.drewN nq)
    (hp : W.cell? ⟨p, 0, none⟩ = some (.func (Fn.func k) #[] cap)) (hInv : ∀ W', Below W.heap.size W W' → Inv W') (get : ∀ cs, St cs → ∃ x, cs[idx]? = some (.int .u32 x) ∧ 0 ≤ x ∧ x ≤ 4294967295) :
    Row W (.func (Fn.func 213) #[] #[.pointer (some ⟨p, 0, none⟩)]) (.func (Fn.func 214) #[] #[.pointer (some ⟨p, 0, none⟩)]) (fun cs => IntKind.u64.wrap (numAt cs idx)) (fun cs v => cs.setIfInBounds idx (.int .u32 (wrapK .u32 v))) := by
  refine ⟨⟨_, _, rfl, callR_u32, fun W' cs hb' hst => ?_⟩, ⟨_, _, rfl, callW_u32, fun W' cs v hb' hst => ?_⟩⟩
  · obtain ⟨x, hx, hb⟩ := get cs hst
    have hp' : W'.cell? ⟨p, 0, none⟩ = some (.func (Fn.func k) #[] cap) := (hb'.cell (cell_lt hp)).trans hp
    have := read_u32 k idx cap hcall Inv hk cs x hx hb p W' hp' (hInv _ (hb'.alloc hb'.size _))
    rw [numAt_of hx, wrap_id hb.1 (by omega)]
    exact this
  · obtain ⟨x, hx, hb⟩ := get cs hst
    have hp' : W'.cell? ⟨p, 0, none⟩ = some (.func (Fn.func k) #[] cap) := (hb'.cell (cell_lt hp)).trans hp
    exact write_u32 k idx cap hcall Inv hk cs hst.size hst.one x v hx hb p W' hp' (fun A => hInv _ ((hb'.alloc hb'.size _).alloc (by have := hb'.size; simp; omega) _))

theorem callR_tag : ∀ args W, (callFunc 161 args).run Tryz.prog W = .ok (.enter 161 args) W := fun args W => by simp [go_sem]
theorem callW_tag : ∀ args W, (callFunc 162 args).run Tryz.prog W = .ok (.enter 162 args) W := fun args W => by simp [go_sem]
theorem mkRow_tag (W : World) : Row W (.func (Fn.func 161) #[] #[]) (.func (Fn.func 162) #[] #[]) (rdF 4) (wrF 4) := by
  refine ⟨⟨_, _, rfl, callR_tag, fun W' cs hb' hst => ?_⟩, ⟨_, _, rfl, callW_tag, fun W' cs v hb' hst => ?_⟩⟩
  · obtain ⟨b, h2⟩ := hst.bool 2 (by decide)
    obtain ⟨t, h3, _⟩ := hst.i64 3 (by decide)
    rw [show rdF 4 cs = if boolAt cs 2 then IntKind.u64.wrap (IntKind.u64.wrap (numAt cs 3) + 65536) else 0 from rfl, boolAt_of h2, numAt_of h3, Array.append_empty]
    cases b
    · exact readTag_no cs h2 W'
    · exact readTag_yes cs t h2 h3 W'
  · obtain ⟨b, h2⟩ := hst.bool 2 (by decide)
    obtain ⟨t, h3, _⟩ := hst.i64 3 (by decide)
    rw [show wrF 4 cs v = if (bits BinOp.and IntKind.u64 v 65536 != 0) then tagYes cs v else tagNo cs from rfl, Array.append_empty]
    cases hv : (bits BinOp.and IntKind.u64 v 65536 != 0)
    · exact writeTag_no cs t v b hst.size hst.one h2 h3 hv W'
    · exact writeTag_yes cs t v b hst.size hst.one h2 h3 hv W'

theorem rowOf_any (f : Nat) (hf : 1 ≤ f) (hf2 : f ≤ 28) (w : World) : Calls Tryz.prog 103 #[.int .i64 f] w fun e w' => ∃ R S, e = .returned (rowV (fName f) (fBits f) (fOf f) R S) ∧ Row w' R S (rdF f) (wrF f) ∧ Below w.heap.size w w' := by
  rcases (show f = 1 ∨ f = 2 ∨ f = 3 ∨ f = 4 ∨ f = 5 ∨ f = 6 ∨ f = 7 ∨ f = 8 ∨ f = 9 ∨ f = 10 ∨ f = 11 ∨ f = 12 ∨ f = 13 ∨ f = 14 ∨ f = 15 ∨ f = 16 ∨ f = 17 ∨ f = 18 ∨ f = 19 ∨ f = 20 ∨ f = 21 ∨ f = 22 ∨ f = 23 ∨ f = 24 ∨ f = 25 ∨ f = 26 ∨ f = 27 ∨ f = 28 from by omega) with rfl | rfl | rfl | rfl | rfl | rfl | rfl | rfl | rfl | rfl | rfl | rfl | rfl | rfl | rfl | rfl | rfl | rfl | rfl | rfl | rfl | rfl | rfl | rfl | rfl | rfl | rfl | rfl
  · refine (row_1 w).mono ?_
    rintro e w' ⟨p, rfl, hp, hb⟩
    exact ⟨_, _, rfl, mkRow_u64 w' p _ 0 _ callE_1 (fun _ => True) place_1 hp (fun _ _ => trivial) (fun cs h => h.u64 0 (by decide)), hb⟩
  · refine (row_2 w).mono ?_
    rintro e w' ⟨p, rfl, hp, hb⟩
    exact ⟨_, _, rfl, mkRow_u64 w' p _ 1 _ callE_2 (fun _ => True) place_2 hp (fun _ _ => trivial) (fun cs h => h.u64 1 (by decide)), hb⟩
  · refine (row_3 w).mono ?_
    rintro e w' ⟨p, rfl, hp, hb⟩
    exact ⟨_, _, rfl, mkRow_i64 w' p _ 4 _ callE_3 (fun _ => True) place_3 hp (fun _ _ => trivial) (fun cs h => h.i64 4 (by decide)), hb⟩
  · refine (row_4 w).mono ?_
    rintro e w' ⟨rfl, hb⟩
    exact ⟨_, _, rfl, mkRow_tag w', hb⟩
  · refine (row_5 w).mono ?_
    rintro e w' ⟨p, rfl, hp, hb⟩
    exact ⟨_, _, rfl, mkRow_i64 w' p _ 6 _ callE_4 (fun _ => True) place_4 hp (fun _ _ => trivial) (fun cs h => h.i64 6 (by decide)), hb⟩
  · refine (row_6 w).mono ?_
    rintro e w' ⟨p, rfl, hp, hb⟩
    exact ⟨_, _, rfl, mkRow_u64 w' p _ 7 _ callE_5 (fun _ => True) place_5 hp (fun _ _ => trivial) (fun cs h => h.u64 7 (by decide)), hb⟩
  · refine (row_7 w).mono ?_
    rintro e w' ⟨p, rfl, hp, hb⟩
    exact ⟨_, _, rfl, mkRow_u32 w' p _ 8 _ callE_6 (fun _ => True) place_6 hp (fun _ _ => trivial) (fun cs h => h.u32 8 (by decide)), hb⟩
  · refine (row_8 w).mono ?_
    rintro e w' ⟨p, rfl, hp, hb⟩
    exact ⟨_, _, rfl, mkRow_u64 w' p _ 9 _ callE_7 (fun _ => True) place_7 hp (fun _ _ => trivial) (fun cs h => h.u64 9 (by decide)), hb⟩
  · refine (row_9 w).mono ?_
    rintro e w' ⟨p, rfl, hp, hb⟩
    exact ⟨_, _, rfl, mkRow_u32 w' p _ 10 _ callE_8 (fun _ => True) place_8 hp (fun _ _ => trivial) (fun cs h => h.u32 10 (by decide)), hb⟩
  · refine (row_10 w).mono ?_
    rintro e w' ⟨p, rfl, hp, hb⟩
    exact ⟨_, _, rfl, mkRow_u32 w' p _ 17 _ callE_9 (fun _ => True) place_9 hp (fun _ _ => trivial) (fun cs h => h.u32 17 (by decide)), hb⟩
  · refine (row_11 w).mono ?_
    rintro e w' ⟨p, rfl, hp, hb⟩
    exact ⟨_, _, rfl, mkRow_u32 w' p _ 18 _ callE_10 (fun _ => True) place_10 hp (fun _ _ => trivial) (fun cs h => h.u32 18 (by decide)), hb⟩
  · refine (row_12 w).mono ?_
    rintro e w' ⟨p, rfl, hp, hb⟩
    exact ⟨_, _, rfl, mkRow_i64 w' p _ 16 _ callE_11 (fun _ => True) place_11 hp (fun _ _ => trivial) (fun cs h => h.i64 16 (by decide)), hb⟩
  · refine (row_13 w).mono ?_
    rintro e w' ⟨p, rfl, hp, hb⟩
    exact ⟨_, _, rfl, mkRow_i64 w' p _ 15 _ callE_12 (fun _ => True) place_12 hp (fun _ _ => trivial) (fun cs h => h.i64 15 (by decide)), hb⟩
  · refine (row_14 w).mono ?_
    rintro e w' ⟨p, rfl, hp, hb⟩
    exact ⟨_, _, rfl, mkRow_i64 w' p _ 12 _ callE_13 (fun _ => True) place_13 hp (fun _ _ => trivial) (fun cs h => h.i64 12 (by decide)), hb⟩
  · refine (row_15 w).mono ?_
    rintro e w' ⟨p, rfl, hp, hb⟩
    exact ⟨_, _, rfl, mkRow_i64 w' p _ 14 _ callE_14 (fun _ => True) place_14 hp (fun _ _ => trivial) (fun cs h => h.i64 14 (by decide)), hb⟩
  · refine (row_16 w).mono ?_
    rintro e w' ⟨p, rfl, hp, hb⟩
    exact ⟨_, _, rfl, mkRow_i64 w' p _ 21 _ callE_15 (fun _ => True) place_15 hp (fun _ _ => trivial) (fun cs h => h.i64 21 (by decide)), hb⟩
  · refine (row_17 w).mono ?_
    rintro e w' ⟨p, rfl, hp, hb⟩
    exact ⟨_, _, rfl, mkRow_i64 w' p _ 22 _ callE_16 (fun _ => True) place_16 hp (fun _ _ => trivial) (fun cs h => h.i64 22 (by decide)), hb⟩
  · refine (row_18 w).mono ?_
    rintro e w' ⟨p, rfl, hp, hb⟩
    exact ⟨_, _, rfl, mkRow_i64 w' p _ 24 _ callE_17 (fun _ => True) place_17 hp (fun _ _ => trivial) (fun cs h => h.i64 24 (by decide)), hb⟩
  · refine (row_19 w).mono ?_
    rintro e w' ⟨p, rfl, hp, hb⟩
    exact ⟨_, _, rfl, mkRow_i64 w' p _ 25 _ callE_18 (fun _ => True) place_18 hp (fun _ _ => trivial) (fun cs h => h.i64 25 (by decide)), hb⟩
  · refine (row_20 w).mono ?_
    rintro e w' ⟨p, rfl, hp, hb⟩
    exact ⟨_, _, rfl, mkRow_i64 w' p _ 29 _ callE_19 (fun _ => True) place_19 hp (fun _ _ => trivial) (fun cs h => h.i64 29 (by decide)), hb⟩
  · refine (row_21 w).mono ?_
    rintro e w' ⟨p, rfl, hp, hb⟩
    exact ⟨_, _, rfl, mkRow_i64 w' p _ 36 _ callE_20 (fun _ => True) place_20 hp (fun _ _ => trivial) (fun cs h => h.i64 36 (by decide)), hb⟩
  · refine (row_22 w).mono ?_
    rintro e w' ⟨p, rfl, hp, hb⟩
    exact ⟨_, _, rfl, mkRow_i64 w' p _ 37 _ callE_21 (fun _ => True) place_21 hp (fun _ _ => trivial) (fun cs h => h.i64 37 (by decide)), hb⟩
  · refine (row_23 w).mono ?_
    rintro e w' ⟨p, rfl, hp, hb⟩
    exact ⟨_, _, rfl, mkRow_i64 w' p _ 38 _ callE_22 (fun _ => True) place_22 hp (fun _ _ => trivial) (fun cs h => h.i64 38 (by decide)), hb⟩
  · refine (row_24 w).mono ?_
    rintro e w' ⟨p, rfl, hp, hb⟩
    exact ⟨_, _, rfl, mkRow_i64 w' p _ 39 _ callE_23 (fun _ => True) place_23 hp (fun _ _ => trivial) (fun cs h => h.i64 39 (by decide)), hb⟩
  · refine (row_25 w).mono ?_
    rintro e w' ⟨p, q, rfl, hp, hq, hb⟩
    exact ⟨_, _, rfl, mkRow_u32 w' p _ 40 _ callE_24 (fun W => W.cell? ⟨q, 0, none⟩ = some (.int .i64 0)) (placeR_0 q) hp (fun W' hb' => (hb'.cell (cell_lt hq)).trans hq) (fun cs h => h.u32 40 (by decide)), hb⟩
  · refine (row_26 w).mono ?_
    rintro e w' ⟨p, q, rfl, hp, hq, hb⟩
    exact ⟨_, _, rfl, mkRow_u32 w' p _ 41 _ callE_24 (fun W => W.cell? ⟨q, 0, none⟩ = some (.int .i64 1)) (placeR_1 q) hp (fun W' hb' => (hb'.cell (cell_lt hq)).trans hq) (fun cs h => h.u32 41 (by decide)), hb⟩
  · refine (row_27 w).mono ?_
    rintro e w' ⟨p, q, rfl, hp, hq, hb⟩
    exact ⟨_, _, rfl, mkRow_u32 w' p _ 42 _ callE_24 (fun W => W.cell? ⟨q, 0, none⟩ = some (.int .i64 2)) (placeR_2 q) hp (fun W' hb' => (hb'.cell (cell_lt hq)).trans hq) (fun cs h => h.u32 42 (by decide)), hb⟩
  · refine (row_28 w).mono ?_
    rintro e w' ⟨p, q, rfl, hp, hq, hb⟩
    exact ⟨_, _, rfl, mkRow_u32 w' p _ 43 _ callE_24 (fun W => W.cell? ⟨q, 0, none⟩ = some (.int .i64 3)) (placeR_3 q) hp (fun W' hb' => (hb'.cell (cell_lt hq)).trans hq) (fun cs h => h.u32 43 (by decide)), hb⟩
end Go.Proofs.YtnahhmcmahbnkaaGreatDoor
