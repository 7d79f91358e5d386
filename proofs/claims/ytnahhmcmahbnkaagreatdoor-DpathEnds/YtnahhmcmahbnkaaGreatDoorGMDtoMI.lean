/- agree, checkBoth, join, And of package match. Conditions: the terms can be read; two lists are at most a hundred terms together where they are joined. -/
import Derived.Test.YtnahhmcmahbnkaaGreatDoorMC
import Derived.Deep.DeepMust
import Derived.Lib.Builder
import Derived.Lib.AppendStr
import Derived.Lib.UnsafeStr
import Derived.Laws.Externs
import Derived.Lib.Walk
import Derived.Handy
import Derived.Laws.BytesArg
namespace Go.Proofs.YtnahhmcmahbnkaaGreatDoor
open Go.RowKit

theorem bits_xor (x y : Int) : bits BinOp.xor IntKind.u64 x y = ((bv x ^^^ bv y).toNat : Int) := wrapU _ (BitVec.isLt _)
/-- A term la a value. -/
def tmV (t : Tm) : Value := .agg #[.int .i64 t.f, .int .u64 (t.v.toNat : Int), .int .u64 (t.m.toNat : Int)]
def tmC (t : Tm) : Obj := .cells #[.int .i64 t.f, .int .u64 (t.v.toNat : Int), .int .u64 (t.m.toNat : Int)] 118
theorem agree_eq (x y : Tm) : (bits BinOp.and IntKind.u64 (bits BinOp.and IntKind.u64 (bits BinOp.xor IntKind.u64 (x.v.toNat : Int) (y.v.toNat : Int)) (x.m.toNat : Int)) (y.m.toNat : Int) == 0) = !cfl x y := by
  rw [bits_xor, bits_and, bits_and, bv_nat, bv_nat, bv_nat, bv_nat, bv_nat, bv_nat, beq0, cfl]
  simp [bne]
theorem wpList_append_ts {w : World} {ops : Array Oper} {rest : List Oper} {o : Oper} {act : Act} {Q : Exit → Act → World → Prop} (hw : Region.wanted o (yielded ops act.tmps) = true) (s x : Operand)
    (ho : o.op = .call { callee := .builtin .append, args := #[s, x], argTypes := #[50, 50] }) (hty : o.type = 50)
    (base : Nat) (v : Value) (xs : List Tm) (hs : act.eval s = v) (hown : w.ownsRow base 118 3 v xs.length (rowT xs))
    (a : Option Addr) (m c : Nat) (zs : List Tm) (hx : act.eval x = .slice a m c) (hts : TS w a m zs) (hsum : xs.length + m ≤ 5864062014805) (hbase : base ≤ w.heap.size)
    (h : ∀ a' cap' w', w'.ownsRow base 118 3 (.slice a' (xs.length + m) cap') (xs ++ zs).length (rowT (xs ++ zs)) → w.grownBy w' v.ownBlock → wpList Tryz.prog ops Q rest (act.put o.dst (.slice a' (xs.length + m) cap')) w') : wpList Tryz.prog ops Q (o :: rest) act w := by
  refine BigFrame.wpList_want hw fun K hK => ?_
  obtain ⟨a', cap', w', hr, h2, h3⟩ := run_append_ts w base v xs hown a m c zs hts hsum hbase
  unfold Oper.wp execOp
  simp only [ho, hty, resolve, invoke, builtin, Sem.run_bind, Sem.run_pure, Result.andThen_ok, List.map_toArray, List.map_cons, List.map_nil, hs, hx, hr]
  exact hK _ _ (h a' cap' w' h2 h3)
theorem step_append_ts {w : World} {ops : Array Oper} {o : Oper} {act : Act} {K : Act → World → Prop} {Q : Exit → Act → World → Prop} {E : Prop} (hw : Region.wanted o (yielded ops act.tmps) = true) (s x : Operand)
    (ho : o.op = .call { callee := .builtin .append, args := #[s, x], argTypes := #[50, 50] }) (hty : o.type = 50)
    (base : Nat) (v : Value) (xs : List Tm) (hs : act.eval s = v) (hown : w.ownsRow base 118 3 v xs.length (rowT xs))
    (a : Option Addr) (m c : Nat) (zs : List Tm) (hx : act.eval x = .slice a m c) (hts : TS w a m zs) (hsum : xs.length + m ≤ 5864062014805) (hbase : base ≤ w.heap.size)
    (h : ∀ a' cap' w', w'.ownsRow base 118 3 (.slice a' (xs.length + m) cap') (xs ++ zs).length (rowT (xs ++ zs)) → w.grownBy w' v.ownBlock → K (act.put o.dst (.slice a' (xs.length + m) cap')) w') :
    if Region.wanted o (yielded ops act.tmps) = true then Oper.wp Tryz.prog o act w K Q else E := by
  rw [if_pos hw]
  obtain ⟨a', cap', w', hr, h2, h3⟩ := run_append_ts w base v xs hown a m c zs hts hsum hbase
  unfold Oper.wp execOp
  simp only [ho, hty, resolve, invoke, builtin, Sem.run_bind, Sem.run_pure, Result.andThen_ok, List.map_toArray, List.map_cons, List.map_nil, hs, hx, hr]
  exact h a' cap' w' h2 h3
theorem own_below {w w' : World} {base : Nat} {v : Value} {n : Nat} {xs : List Value} (h : w.ownsRow base 118 3 v n xs) (hb : Below w.heap.size w w') : w'.ownsRow base 118 3 v n xs := by
  refine ⟨h.1, ?_⟩
  rcases h.2 with h0 | ⟨g, cap, cur, e, h1, h2, h3⟩
  · exact .inl h0
  · exact .inr ⟨g, cap, cur, e, h1, (hb.block _ (lt_of_heap h2)).trans h2, h3⟩
theorem own_below2 {w W w' : World} {base : Nat} {v : Value} {n : Nat} {xs : List Value} (h : w.ownsRow base 118 3 v n xs) (hb : Below W.heap.size W w') (hh : W.heap = w.heap) : w'.ownsRow base 118 3 v n xs := by
  refine ⟨h.1, ?_⟩
  rcases h.2 with h0 | ⟨g, cap, cur, e, h1, h2, h3⟩
  · exact .inl h0
  · rw [← hh] at h2
    exact .inr ⟨g, cap, cur, e, h1, (hb.block _ (lt_of_heap h2)).trans h2, h3⟩
/-- A slice of one new term. -/
theorem ts_one (w : World) (t : Tm) : TS (w.alloc (.cells #[.int .i64 t.f, .int .u64 (t.v.toNat : Int), .int .u64 (t.m.toNat : Int)] 118)) (some ⟨w.heap.size, 0, none⟩) 1 [t] := by
  refine ⟨rfl, by omega, .inr ⟨w.heap.size, 0, rfl, fun i u hi => ?_⟩⟩
  match i, hi with
  | 0, hi =>
    simp at hi
    subst hi
    exact ⟨cell_row (heap_alloc_new w _) 0, cell_row (heap_alloc_new w _) 1, cell_row (heap_alloc_new w _) 2⟩

theorem TS.drew {w : World} {a : Option Addr} {n : Nat} {ts : List Tm} (h : TS w a n ts) : TS w.drew a n ts := ⟨h.len, h.room, h.cells⟩
def sLen : Value → Nat
  | .slice _ n _ => n
  | _ => 0
def jMu (a' : Act) (_ : World) : Nat := sLen (a'.tmps.getD 0 undef) + sLen (a'.tmps.getD 1 undef)

/-- What holds at join's label. -/
def JoinAt (w : World) (la lb : List Tm) (a' : Act) (w' : World) : Prop :=
  ∃ (a1 : Option Addr) (n1 c1 : Nat) (ra : List Tm) (b1 : Option Addr) (n2 c2 : Nat) (rb : List Tm) (v : Value) (acc : List Tm) (u2 u3 u7 u8 u9 u10 u11 u12 u13 u14 u15 u16 u17 u18 u19 u20 u21 u22 u23 u24 u25 u26 u27 u28 u29 u30 u31 u32 u33 u34 u35 u36 u37 u38 u39 u40 u41 u42 u43 u44 u45 u46 u47 u48 u49 u50 u51 u52 u53 u54 u55 u56 u57 u58 u59 u60 u61 u62 u63 u64 u65 u66 u67 u68 u69 u70 u71 u72 u73 u74 u75 u76 u77 u78 u79 u80 u81 u82 u83 u84 u85 u86 u87 u88 u89 u90 u91 u92 u93 u94 u95 : Value),
    a' = { tmps := #[.slice a1 n1 c1, .slice b1 n2 c2, u2, u3, .slice none 0 0, .bool false, v, u7, u8, u9, u10, u11, u12, u13, u14, u15, u16, u17, u18, u19, u20, u21, u22, u23, u24, u25, u26, u27, u28, u29, u30, u31, u32, u33, u34, u35, u36, u37, u38, u39, u40, u41, u42, u43, u44, u45, u46, u47, u48, u49, u50, u51, u52, u53, u54, u55, u56, u57, u58, u59, u60, u61, u62, u63, u64, u65, u66, u67, u68, u69, u70, u71, u72, u73, u74, u75, u76, u77, u78, u79, u80, u81, u82, u83, u84, u85, u86, u87, u88, u89, u90, u91, u92, u93, u94, u95], defers := [] } ∧
    TS w a1 n1 ra ∧ n1 ≤ c1 ∧ TS w b1 n2 rb ∧ n2 ≤ c2 ∧ w'.ownsRow w.heap.size 118 3 v acc.length (rowT acc) ∧ Below w.heap.size w w' ∧ acc.length + n1 + n2 ≤ 100 ∧ Hid (jn la lb = (jn ra rb).map (acc ++ ·))

theorem JoinAt.elim {w : World} {la lb : List Tm} {a' : Act} {w' : World} (h : JoinAt w la lb a' w') {M : Prop}
    (k : ∀ (a1 : Option Addr) (n1 c1 : Nat) (ra : List Tm) (b1 : Option Addr) (n2 c2 : Nat) (rb : List Tm) (v : Value) (acc : List Tm) (u2 u3 u7 u8 u9 u10 u11 u12 u13 u14 u15 u16 u17 u18 u19 u20 u21 u22 u23 u24 u25 u26 u27 u28 u29 u30 u31 u32 u33 u34 u35 u36 u37 u38 u39 u40 u41 u42 u43 u44 u45 u46 u47 u48 u49 u50 u51 u52 u53 u54 u55 u56 u57 u58 u59 u60 u61 u62 u63 u64 u65 u66 u67 u68 u69 u70 u71 u72 u73 u74 u75 u76 u77 u78 u79 u80 u81 u82 u83 u84 u85 u86 u87 u88 u89 u90 u91 u92 u93 u94 u95 : Value),
      a' = { tmps := #[.slice a1 n1 c1, .slice b1 n2 c2, u2, u3, .slice none 0 0, .bool false, v, u7, u8, u9, u10, u11, u12, u13, u14, u15, u16, u17, u18, u19, u20, u21, u22, u23, u24, u25, u26, u27, u28, u29, u30, u31, u32, u33, u34, u35, u36, u37, u38, u39, u40, u41, u42, u43, u44, u45, u46, u47, u48, u49, u50, u51, u52, u53, u54, u55, u56, u57, u58, u59, u60, u61, u62, u63, u64, u65, u66, u67, u68, u69, u70, u71, u72, u73, u74, u75, u76, u77, u78, u79, u80, u81, u82, u83, u84, u85, u86, u87, u88, u89, u90, u91, u92, u93, u94, u95], defers := [] } →
      TS w a1 n1 ra → n1 ≤ c1 → TS w b1 n2 rb → n2 ≤ c2 → w'.ownsRow w.heap.size 118 3 v acc.length (rowT acc) → Below w.heap.size w w' → acc.length + n1 + n2 ≤ 100 → Hid (jn la lb = (jn ra rb).map (acc ++ ·)) → M) : M := by
  obtain ⟨a1, n1, c1, ra, b1, n2, c2, rb, v, acc, u2, u3, u7, u8, u9, u10, u11, u12, u13, u14, u15, u16, u17, u18, u19, u20, u21, u22, u23, u24, u25, u26, u27, u28, u29, u30, u31, u32, u33, u34, u35, u36, u37, u38, u39, u40, u41, u42, u43, u44, u45, u46, u47, u48, u49, u50, u51, u52, u53, u54, u55, u56, u57, u58, u59, u60, u61, u62, u63, u64, u65, u66, u67, u68, u69, u70, u71, u72, u73, u74, u75, u76, u77, u78, u79, u80, u81, u82, u83, u84, u85, u86, u87, u88, u89, u90, u91, u92, u93, u94, u95, h0, h1, hc1, h2, hc2, hown, hbl, hsz, hJ⟩ := h
  exact k a1 n1 c1 ra b1 n2 c2 rb v acc u2 u3 u7 u8 u9 u10 u11 u12 u13 u14 u15 u16 u17 u18 u19 u20 u21 u22 u23 u24 u25 u26 u27 u28 u29 u30 u31 u32 u33 u34 u35 u36 u37 u38 u39 u40 u41 u42 u43 u44 u45 u46 u47 u48 u49 u50 u51 u52 u53 u54 u55 u56 u57 u58 u59 u60 u61 u62 u63 u64 u65 u66 u67 u68 u69 u70 u71 u72 u73 u74 u75 u76 u77 u78 u79 u80 u81 u82 u83 u84 u85 u86 u87 u88 u89 u90 u91 u92 u93 u94 u95 h0 h1 hc1 h2 hc2 hown hbl hsz hJ
theorem tv_of {w : World} {base : Nat} {a : Option Addr} {n cap : Nat} {ts : List Tm} (h : w.ownsRow base 118 3 (.slice a n cap) n (rowT ts)) (hr : ts.length ≤ 5864062014805) (hn : ts.length = n) : TV w (.slice a n cap) ((some ts).getD []) := by
  subst hn
  exact own_tv' h hr rfl
theorem own_drewN {w : World} {base : Nat} {v : Value} {n : Nat} {xs : List Value} (h : w.ownsRow base 118 3 v n xs) (q : Nat) : (w.drewN q).ownsRow base 118 3 v n xs := h
/-- What join answers. -/
def JoinR (w : World) (la lb : List Tm) (e : Ending) (w' : World) : Prop := ∃ v, e = .returned (.tuple #[v, .bool (jn la lb).isSome]) ∧ TV w' v ((jn la lb).getD []) ∧ Below w.heap.size w w'
theorem jn_done {la lb ra rb acc l : List Tm} (h : jn la lb = (jn ra rb).map (acc ++ ·)) (hl : jn ra rb = some l) : jn la lb = some (acc ++ l) := by rw [h, hl]; rfl
theorem grown_below {w wr w2 : World} {v : Value} {n : Nat} {xs : List Value} (hb : Below w.heap.size w wr) (hown : wr.ownsRow w.heap.size 118 3 v n xs) (hg : wr.grownBy w2 v.ownBlock) : Below w.heap.size w w2 :=
  hb.grown hg hb.size (fun k hk => (hown.lt k hk).1)
theorem jn_stepL {la lb r rb acc : List Tm} {x y : Tm} (h : jn la lb = (jn (x :: r) (y :: rb)).map (acc ++ ·)) (hlt : x.f < y.f) : jn la lb = (jn r (y :: rb)).map ((acc ++ [x]) ++ ·) := by
  rw [h, jn_lt hlt, Option.map_map]
  congr 1
  funext l
  simp
theorem jn_stepR {la lb r rb acc : List Tm} {x y : Tm} (h : jn la lb = (jn (x :: r) (y :: rb)).map (acc ++ ·)) (hlt : y.f < x.f) : jn la lb = (jn (x :: r) rb).map ((acc ++ [y]) ++ ·) := by
  rw [h, jn_gt hlt, Option.map_map]
  congr 1
  funext l
  simp
theorem jn_stepE {la lb r rb acc : List Tm} {x y : Tm} (h : jn la lb = (jn (x :: r) (y :: rb)).map (acc ++ ·)) (he : x.f = y.f) (hc : cfl x y = false) : jn la lb = (jn r rb).map ((acc ++ [⟨x.f, x.v ||| y.v, x.m ||| y.m⟩]) ++ ·) := by
  rw [h, jn_eq he hc, Option.map_map]
  congr 1
  funext l
  simp
end Go.Proofs.YtnahhmcmahbnkaaGreatDoor
/- A strings.Builder of the call's own: WriteString and String. Conditions: it has never been copied; few bytes. -/
namespace Go.Proofs.YtnahhmcmahbnkaaGreatDoor
open Go.RowKit

theorem sizeB : (Tryz.prog.info? 128).map (·.size) = some 2 := by kernel_rfl
theorem liesB : liesAt Tryz.prog Tryz.prog.depth 128 (2 / Tryz.prog.cellsOf 128) 0 128 1 = true := by kernel_rfl
theorem infoByte : (Tryz.prog.info? 5).map (fun i => (i.zero, i.size, i.bytes)) = some (some (.int .u8 0), 1, 1) := by kernel_rfl
theorem cellsByte : Tryz.prog.cellsOf 5 = 1 := by kernel_rfl
set_option maxHeartbeats 1000000 in
set_option maxRecDepth 100000 in
theorem copyCheck_used (b : Nat) (w : World) (h0 : w.cell? ⟨b, 0, none⟩ = some (.pointer (some ⟨b, 0, none⟩))) :
    Calls Tryz.prog 72 #[.pointer (some ⟨b, 0, none⟩)] w fun e w' => e = .returned (.tuple #[]) ∧ w' = w := by
  obtain ⟨j, hj, _⟩ := Option.map_eq_some_iff.1 sizeB
  go_enter Tryz.func72, Tryz.ntmps72
  go_wp2
  rw [Lib.run_neq_ptr_same w _ Tryz.underlying125 hj]
  go_wp2
  go_end0
  exact ⟨rfl, rfl⟩
set_option maxHeartbeats 1000000 in
set_option maxRecDepth 100000 in
theorem copyCheck_fresh (b : Nat) (w : World) (h0 : w.cell? ⟨b, 0, none⟩ = some (.pointer none)) (hsh : w.shape? b = some (128, 2)) (hfz : w.frozen? ⟨b, 0, none⟩ = false) :
    Calls Tryz.prog 72 #[.pointer (some ⟨b, 0, none⟩)] w fun e w' => e = .returned (.tuple #[]) ∧ w' = w.setCell ⟨b, 0, none⟩ (.pointer (some ⟨b, 0, none⟩)) := by
  obtain ⟨j, hj, hjs⟩ := Option.map_eq_some_iff.1 sizeB
  go_enter Tryz.func72, Tryz.ntmps72
  go_wp2
  rw [Lib.run_to_unsafe w ⟨b, 0, none⟩ Tryz.underlying125 Tryz.underlying210 hj (by rw [hjs]; decide) hsh (Nat.zero_lt_succ 1)]
  simp only [Result.andThen]
  rw [Oper.upon_value]
  go_wp2
  rw [run_callFunc_extern Tryz.func102 (by kernel_rfl) (by kernel_rfl) (by kernel_rfl) (e := Extern.AbiNoEscape.same) (by kernel_rfl)]
  rw [Lib.run_noEscape]
  simp only [Result.andThen]
  rw [Oper.upon_value]
  go_wp2
  rw [Lib.run_from_unsafe w ⟨b, 0, none⟩ Tryz.underlying210 Tryz.underlying125 hj hsh liesB]
  simp only [Result.andThen]
  rw [Oper.upon_value]
  go_wp2
  go_end0
  exact ⟨rfl, rfl⟩
/-- Every term that lies by itself stays. -/
def Kept (w w' : World) : Prop := ∀ (k : Nat) (cs : Array Value), w.heap[k]? = some (Obj.cells cs 118 (0, 0)) → w'.heap[k]? = some (Obj.cells cs 118 (0, 0))
theorem Kept.refl (w : World) : Kept w w := fun _ _ h => h
theorem Kept.trans {a b c : World} (h1 : Kept a b) (h2 : Kept b c) : Kept a c := fun k cs h => h2 k cs (h1 k cs h)
theorem Kept.below {w w' : World} (h : Below w.heap.size w w') : Kept w w' := fun k _ hk => (h.block k (lt_of_heap hk)).trans hk
theorem kept_set {T e : TypeId} {B b : Nat} {p : Value} {bs : List Value} {w : World} (h : Lib.BuilderAt T e B b p bs w) (hT : T ≠ 118) (i : Nat) (v : Value) : Kept w (w.setCell ⟨b, i, none⟩ v) := by
  intro k cs hk
  rw [Below.heap_setCell _ _ _ _ (fun e => ?_)]
  · exact hk
  · obtain ⟨_, u, hb, _⟩ := h
    have : k = b := by first | exact e | exact e.symm
    subst this
    rw [hb] at hk
    simp only [Option.some.injEq, Obj.cells.injEq] at hk
    exact hT hk.2.1
theorem isB_below {T e : TypeId} {B b : Nat} {bs : List Value} {w w' : World} (h : Lib.IsBuilder T e B b bs w) (hb : Below w.heap.size w w') : Lib.IsBuilder T e B b bs w' := by
  have key : ∀ p, Lib.BuilderAt T e B b p bs w → Lib.BuilderAt T e B b p bs w' := by
    rintro p ⟨hB, v, h1, h2, h3⟩
    refine ⟨hB, v, (hb.block _ (lt_of_heap h1)).trans h1, ⟨h2.1, ?_⟩, h3⟩
    rcases h2.2 with h0 | ⟨g, cap, cur, e, g1, g2, g3⟩
    · exact .inl h0
    · exact .inr ⟨g, cap, cur, e, g1, (hb.block _ (lt_of_heap g2)).trans g2, g3⟩
  rcases h with h | h
  · exact .inl (key _ h)
  · exact .inr (key _ h)
theorem copyCheck_any (B b : Nat) (bs : List Value) (w : World) (h : Lib.IsBuilder 128 5 B b bs w) :
    Calls Tryz.prog 72 #[.pointer (some ⟨b, 0, none⟩)] w fun e w' => e = .returned (.tuple #[]) ∧ (Lib.BuilderAt 128 5 B b (.pointer (some ⟨b, 0, none⟩)) bs w' ∧ Below B w w' ∧ Kept w w') := by
  rcases h with h | h
  · refine (copyCheck_fresh b w h.cell0 h.shape h.frozen0).mono ?_
    rintro e w' ⟨rfl, rfl⟩
    exact ⟨rfl, h.used _, (Below.refl B w).setCell (p := ⟨b, 0, none⟩) h.1 _, kept_set h (by decide) 0 _⟩
  · refine (copyCheck_used b w h.cell0).mono ?_
    rintro e w' ⟨rfl, rfl⟩
    exact ⟨rfl, h, Below.refl B _, Kept.refl _⟩
set_option maxHeartbeats 2000000 in
set_option maxRecDepth 100000 in
theorem writeString_any (B b : Nat) (l : List UInt8) (s : ByteArray) (w : World) (h : Lib.IsBuilder 128 5 B b (Lib.byteCells l) w) (hlen : l.length + s.size ≤ 140737488355328) (hBw : B ≤ w.heap.size) :
    Calls Tryz.prog 44 #[.pointer (some ⟨b, 0, none⟩), .string s] w fun e w' => e = .returned (.tuple #[.int .i64 s.size, .nilIface]) ∧ Lib.IsBuilder 128 5 B b (Lib.byteCells (l ++ s.data.toList)) w' ∧ Below B w w' ∧ Kept w w' := by
  obtain ⟨i0, hi, hz0, hz1, hz2⟩ := info_parts infoByte
  have HI : Hid _ := hi
  clear hi
  go_enter Tryz.func44, Tryz.ntmps44
  go_wp2_with fail
  refine (copyCheck_any B b (Lib.byteCells l) _ h).mono ?_
  rintro e w1 ⟨rfl, h1, hb1, hk1⟩
  obtain ⟨hB, v, hbk, hown, hne⟩ := h1
  rw [Lib.byteCells_length] at hown
  have c0 : w1.cell? ⟨b, 0, none⟩ = some (.pointer (some ⟨b, 0, none⟩)) := by rw [Lib.cell_of_heap hbk]; rfl
  have c1 : w1.cell? ⟨b, 1, none⟩ = some v := by rw [Lib.cell_of_heap hbk]; rfl
  go_wp2_with (at_builtin; go_must (refine Lib.wpList_append_own_string _ rfl _ _ 126 9 rfl B 5 i0 Tryz.underlying126 Tryz.underlying9 HI.out hz0 hz1 hz2 _ _ _ rfl hown s rfl ?c3 ?c4 ?c5 ?_))
  case c3 => unfold maxLen; omega
  case c4 => omega
  case c5 => have := hb1.size; omega
  intro v' w2 hown' hgrow _
  have hlt : b < w1.heap.size := by
    rcases Nat.lt_or_ge b w1.heap.size with h' | h'
    · exact h'
    · simp [Array.getElem?_eq_none h'] at hbk
  have hb2 : w2.heap[b]? = some (.cells #[.pointer (some ⟨b, 0, none⟩), v] 128 (0, 0)) := by
    rw [hgrow.block b hlt (fun e => hne e.symm)]
    exact hbk
  have d0 : w2.cell? ⟨b, 0, none⟩ = some (.pointer (some ⟨b, 0, none⟩)) := by rw [Lib.cell_of_heap hb2]; rfl
  have d1 : w2.cell? ⟨b, 1, none⟩ = some v := by rw [Lib.cell_of_heap hb2]; rfl
  have f1 : w2.frozen? ⟨b, 1, none⟩ = false := Lib.frozen_of_heap hb2 1
  obtain ⟨ao, n', cap, rfl⟩ : ∃ ao n' cap, v' = .slice ao n' cap := by
    rcases hown'.2 with ⟨hv, _⟩ | ⟨g, cap, cur, hv, _⟩
    · exact ⟨_, _, _, hv⟩
    · exact ⟨_, _, _, hv⟩
  have hk2 : Kept w w2 := fun k cs hk => by
    have h1 := hk1 k cs hk
    rw [hgrow.block k (lt_of_heap h1) (fun e => ?_)]
    · exact h1
    · rcases hown.2 with ⟨rfl, _⟩ | ⟨g, cap, cur, rfl, _, hg, _⟩
      · simp [Value.ownBlock] at e
      · have : k = g := by simpa [Value.ownBlock] using e
        subst this
        rw [hg] at h1
        simp at h1
  have HK : Hid _ := hk2
  have HO : Hid _ := hown'
  have HG : Hid _ := hgrow
  have HH : Hid _ := hb2
  clear hown' hgrow hb2 hk2
  go_wp2
  go_ret2
  refine ⟨rfl, ?_, ?_, ?_⟩
  · refine .inr ?_
    rw [Lib.byteCells_append, ← Lib.strCells_eq]
    exact Lib.BuilderAt.put (T := 128) (e := 5) hB HH.out (bs' := Lib.byteCells l ++ Lib.strCells s) (by rw [List.length_append, Lib.byteCells_length, Lib.strCells_length]; exact HO.out) (by decide)
  · exact (hb1.grown HG.out (by have := hb1.size; omega) (fun k hk => (hown.lt k hk).1)).setCell (p := ⟨b, 1, none⟩) hB _
  · intro k cs hk
    have h1 := HK.out k cs hk
    rw [Below.heap_setCell _ _ _ _ (fun e => ?_)]
    · exact h1
    · have : k = b := by first | exact e | exact e.symm
      subst this
      rw [HH.out] at h1
      simp at h1
set_option maxHeartbeats 1000000 in
set_option maxRecDepth 100000 in
theorem string_any (B b : Nat) (l : List UInt8) (w : World) (h : Lib.IsBuilder 128 5 B b (Lib.byteCells l) w) (h0 : l ≠ []) :
    Calls Tryz.prog 48 #[.pointer (some ⟨b, 0, none⟩)] w fun e w' => e = .returned (.string ⟨l.toArray⟩) ∧ Below B w w' := by
  obtain ⟨p, hB, v, hbk, hown, hne⟩ : ∃ p, Lib.BuilderAt 128 5 B b p (Lib.byteCells l) w := by
    rcases h with h | h
    · exact ⟨_, h⟩
    · exact ⟨_, h⟩
  have hl0 : l.length ≠ 0 := by simpa using h0
  rw [Lib.byteCells_length] at hown
  obtain ⟨g, cap, cur, rfl, hbg, hg, hnc, hcm, hcs, htake⟩ : ∃ g cap cur, v = .slice (some ⟨g, 0, none⟩) l.length cap ∧ B ≤ g ∧ w.heap[g]? = some (.cells cur 5 (0, 0)) ∧ l.length ≤ cap ∧ cap ≤ maxLen ∧ cur.size = cap * 1 ∧ cur.toList.take (l.length * 1) = Lib.byteCells l := by
    rcases hown.2 with ⟨_, hz⟩ | ⟨g, cap, cur, hv, r⟩
    · exact absurd hz hl0
    · exact ⟨g, cap, cur, hv, r⟩
  have c1 : w.drew.cell? ⟨b, 1, none⟩ = some (.slice (some ⟨g, 0, none⟩) l.length cap) := by
    have : w.drew.heap[b]? = some (.cells #[p, .slice (some ⟨g, 0, none⟩) l.length cap] 128 (0, 0)) := hbk
    rw [Lib.cell_of_heap this]; rfl
  have hSD : (Builtin.unsafeSliceData_ #[126] 171 #[.slice (some ⟨g, 0, none⟩) l.length cap]).run Tryz.prog w.drew = .ok (.pointer (some ⟨g, 0, none⟩)) w.drew :=
    Lib.run_unsafeSliceData_row _ _ _ _ _ _ (by omega)
  have hUS : (Builtin.unsafeString_ #[171, 3] 9 #[.pointer (some ⟨g, 0, none⟩), .int .i64 l.length]).run Tryz.prog w.drew = .ok (.string ⟨l.toArray⟩) (w.drew.freeze ⟨g, 0, none⟩ l.length) := by
    refine Lib.run_unsafeString_row w.drew 171 3 9 5 Tryz.underlying171 cellsByte g cur.size (by have hg' : w.drew.heap[g]? = some (.cells cur 5 (0, 0)) := hg; simp [World.shape?, hg']) l h0 (by omega) (by unfold maxLen at hcm; omega) ?_
    intro j x hx
    have := hown.cells (g := g) rfl j (.int .u8 x.toNat) (by simp [Lib.byteCells, hx])
    exact this
  go_enter Tryz.func48, Tryz.ntmps48
  go_wp2
  go_region
  all_goals (go_wp2; go_ret; exact ⟨rfl, Lib.below_freeze (Below.drew (Below.refl B w)) (p := ⟨g, 0, none⟩) hbg _⟩)
end Go.Proofs.YtnahhmcmahbnkaaGreatDoor
/- Hexadecimal digits of the two numbers that the laws' lives prints. Condition: the table of trailing zeros holds 4 at its fifteenth place. -/
namespace Go.Proofs.YtnahhmcmahbnkaaGreatDoor
open Go.RowKit
set_option maxHeartbeats 400000 in
theorem tz64_16 (w : World) (htab : w.cell? ⟨2, 15, none⟩ = some (.int .u8 4)) : Calls Tryz.prog 234 #[.int .u64 16] w fun e w' => e = .returned (.int .i64 4) ∧ w' = w := by
  have hb : bits BinOp.and IntKind.u64 16 (IntKind.u64.wrap (-16)) = 16 := by decide +kernel
  have h2 : IntKind.u64.wrap (16 * 285870213051353865) = 4573923408821661840 := by decide +kernel
  have h3 : IntKind.u64.wrap 4573923408821661840 = 4573923408821661840 := by decide +kernel
  go_enter Tryz.func234, Tryz.ntmps234
  go_wp2
  go_ret
  exact ⟨rfl, rfl⟩
set_option maxHeartbeats 400000 in
theorem tz_16 (w : World) (htab : w.cell? ⟨2, 15, none⟩ = some (.int .u8 4)) : Calls Tryz.prog 218 #[.int .u64 16] w fun e w' => e = .returned (.int .i64 4) ∧ w' = w := by
  have HT : Hid _ := htab
  clear htab
  go_enter Tryz.func218, Tryz.ntmps218
  go_wp2_with fail
  refine (tz64_16 _ HT.out).mono ?_
  rintro e w' ⟨rfl, rfl⟩
  go_wp2_with fail
  go_ret
  exact ⟨rfl, rfl⟩
set_option maxHeartbeats 400000 in
theorem pow2_16 (w : World) : Calls Tryz.prog 217 #[.int .i64 16] w fun e w' => e = .returned (.bool true) ∧ w' = w := by
  go_enter Tryz.func217, Tryz.ntmps217
  go_wp2
  go_ret
  exact ⟨rfl, rfl⟩
set_option maxRecDepth 20000 in
set_option maxHeartbeats 1000000 in
theorem formatBits_2048 (w : World) (htab : w.cell? ⟨2, 15, none⟩ = some (.int .u8 4)) : Calls Tryz.prog 188 #[.slice none 0 0, .int .u64 2048, .int .i64 16, .bool false, .bool false] w fun e w' => e = .returned (.tuple #[.slice none 0 0, .string ⟨#[56, 48, 48]⟩]) ∧ Below w.heap.size w w' := by
  have hlt : 2 < w.heap.size := cell_lt htab
  have HT : Hid _ := htab
  clear htab
  have b1 : bits BinOp.and IntKind.u64 2048 15 = 0 := by decide +kernel
  have b2 : bits BinOp.and IntKind.u64 128 15 = 0 := by decide +kernel
  go_enter Tryz.func188, Tryz.ntmps188
  go_wp2_with fail
  refine (pow2_16 _).mono ?_
  rintro e w' ⟨rfl, rfl⟩
  go_wp2_with fail
  refine (tz_16 _ ((World.cell?_alloc_lt (a := ⟨2, 15, none⟩) _ _ hlt).trans HT.out)).mono ?_
  rintro e w' ⟨rfl, rfl⟩
  go_wp2_with fail
  go_rounds 4
  rw [run_convert_bytes_arg (P := Tryz.prog) _ 126 5 Tryz.underlying126 Tryz.underlying5 w.heap.size 62 3 3 [56, 48, 48] rfl ?hc 9 Tryz.underlying9]
  case hc =>
    intro i hi
    rw [World.cell?_alloc_new]
    rcases (show i = 0 ∨ i = 1 ∨ i = 2 by omega) with rfl | rfl | rfl <;> rfl
  simp only [Result.andThen]
  rw [Oper.upon_value]
  go_wp2
  go_ret2
  exact ⟨rfl, below1 _ _⟩
set_option maxRecDepth 20000 in
set_option maxHeartbeats 1000000 in
theorem formatBits_80 (w : World) (htab : w.cell? ⟨2, 15, none⟩ = some (.int .u8 4)) : Calls Tryz.prog 188 #[.slice none 0 0, .int .u64 80, .int .i64 16, .bool false, .bool false] w fun e w' => e = .returned (.tuple #[.slice none 0 0, .string ⟨#[53, 48]⟩]) ∧ Below w.heap.size w w' := by
  have hlt : 2 < w.heap.size := cell_lt htab
  have HT : Hid _ := htab
  clear htab
  have b1 : bits BinOp.and IntKind.u64 80 15 = 0 := by decide +kernel
  go_enter Tryz.func188, Tryz.ntmps188
  go_wp2_with fail
  refine (pow2_16 _).mono ?_
  rintro e w' ⟨rfl, rfl⟩
  go_wp2_with fail
  refine (tz_16 _ ((World.cell?_alloc_lt (a := ⟨2, 15, none⟩) _ _ hlt).trans HT.out)).mono ?_
  rintro e w' ⟨rfl, rfl⟩
  go_wp2_with fail
  go_rounds 4
  rw [run_convert_bytes_arg (P := Tryz.prog) _ 126 5 Tryz.underlying126 Tryz.underlying5 w.heap.size 63 2 2 [53, 48] rfl ?hc 9 Tryz.underlying9]
  case hc =>
    intro i hi
    rw [World.cell?_alloc_new]
    rcases (show i = 0 ∨ i = 1 by omega) with rfl | rfl <;> rfl
  simp only [Result.andThen]
  rw [Oper.upon_value]
  go_wp2
  go_ret2
  exact ⟨rfl, below1 _ _⟩

set_option maxHeartbeats 400000 in
theorem formatUint_2048 (w : World) (htab : w.cell? ⟨2, 15, none⟩ = some (.int .u8 4)) : Calls Tryz.prog 104 #[.int .u64 2048, .int .i64 16] w fun e w' => e = .returned (.string ⟨#[56, 48, 48]⟩) ∧ Below w.heap.size w w' := by
  have HT : Hid _ := htab
  clear htab
  go_enter Tryz.func104, Tryz.ntmps104
  go_wp2_with fail
  refine (formatBits_2048 _ HT.out).mono ?_
  rintro e w' ⟨rfl, hb⟩
  have HB : Hid _ := hb
  clear hb
  go_wp2_with fail
  go_ret
  exact ⟨rfl, HB.out⟩
set_option maxHeartbeats 400000 in
theorem sformatUint_2048 (w : World) (htab : w.cell? ⟨2, 15, none⟩ = some (.int .u8 4)) : Calls Tryz.prog 74 #[.int .u64 2048, .int .i64 16] w fun e w' => e = .returned (.string ⟨#[56, 48, 48]⟩) ∧ Below w.heap.size w w' := by
  have HT : Hid _ := htab
  clear htab
  go_enter Tryz.func74, Tryz.ntmps74
  go_wp2_with fail
  refine (formatUint_2048 _ HT.out).mono ?_
  rintro e w' ⟨rfl, hb⟩
  have HB : Hid _ := hb
  clear hb
  go_wp2_with fail
  go_ret
  exact ⟨rfl, HB.out⟩
set_option maxHeartbeats 400000 in
theorem hex_2048 (w : World) (htab : w.cell? ⟨2, 15, none⟩ = some (.int .u8 4)) : Calls Tryz.prog 46 #[.int .u64 2048] w fun e w' => e = .returned (.string ⟨#[48, 120, 56, 48, 48]⟩) ∧ Below w.heap.size w w' := by
  have HT : Hid _ := htab
  clear htab
  go_enter Tryz.func46, Tryz.ntmps46
  go_wp2_with fail
  refine (sformatUint_2048 _ HT.out).mono ?_
  rintro e w' ⟨rfl, hb⟩
  have HB : Hid _ := hb
  clear hb
  go_wp2_with fail
  go_ret
  exact ⟨rfl, HB.out⟩

set_option maxHeartbeats 400000 in
theorem formatUint_80 (w : World) (htab : w.cell? ⟨2, 15, none⟩ = some (.int .u8 4)) : Calls Tryz.prog 104 #[.int .u64 80, .int .i64 16] w fun e w' => e = .returned (.string ⟨#[53, 48]⟩) ∧ Below w.heap.size w w' := by
  have HT : Hid _ := htab
  clear htab
  go_enter Tryz.func104, Tryz.ntmps104
  go_wp2_with fail
  refine (formatBits_80 _ HT.out).mono ?_
  rintro e w' ⟨rfl, hb⟩
  have HB : Hid _ := hb
  clear hb
  go_wp2_with fail
  go_ret
  exact ⟨rfl, HB.out⟩
set_option maxHeartbeats 400000 in
theorem sformatUint_80 (w : World) (htab : w.cell? ⟨2, 15, none⟩ = some (.int .u8 4)) : Calls Tryz.prog 74 #[.int .u64 80, .int .i64 16] w fun e w' => e = .returned (.string ⟨#[53, 48]⟩) ∧ Below w.heap.size w w' := by
  have HT : Hid _ := htab
  clear htab
  go_enter Tryz.func74, Tryz.ntmps74
  go_wp2_with fail
  refine (formatUint_80 _ HT.out).mono ?_
  rintro e w' ⟨rfl, hb⟩
  have HB : Hid _ := hb
  clear hb
  go_wp2_with fail
  go_ret
  exact ⟨rfl, HB.out⟩
set_option maxHeartbeats 400000 in
theorem hex_80 (w : World) (htab : w.cell? ⟨2, 15, none⟩ = some (.int .u8 4)) : Calls Tryz.prog 46 #[.int .u64 80] w fun e w' => e = .returned (.string ⟨#[48, 120, 53, 48]⟩) ∧ Below w.heap.size w w' := by
  have HT : Hid _ := htab
  clear htab
  go_enter Tryz.func46, Tryz.ntmps46
  go_wp2_with fail
  refine (sformatUint_80 _ HT.out).mono ?_
  rintro e w' ⟨rfl, hb⟩
  have HB : Hid _ := hb
  clear hb
  go_wp2_with fail
  go_ret
  exact ⟨rfl, HB.out⟩

set_option maxHeartbeats 400000 in
theorem nameOf_any (f : Nat) (hf : 1 ≤ f) (hf2 : f ≤ 28) (w : World) : Calls Tryz.prog 45 #[.int .i64 f] w fun e w' => e = .returned (.string (fName f)) ∧ Below w.heap.size w w' := by
  have hne : ((fName f).toList == ([] : List UInt8)) = false := by
    have := fName_ne f hf hf2
    cases h : (fName f).toList with
    | nil => rw [h] at this; cases this
    | cons x r => rfl
  go_enter Tryz.func45, Tryz.ntmps45
  go_wp2_with fail
  refine (name_any f hf hf2 _).mono ?_
  rintro e w' ⟨rfl, hb⟩
  have HB : Hid _ := hb
  clear hb
  go_wp2_with fail
  · go_ret
    exact ⟨rfl, HB.out⟩
end Go.Proofs.YtnahhmcmahbnkaaGreatDoor
