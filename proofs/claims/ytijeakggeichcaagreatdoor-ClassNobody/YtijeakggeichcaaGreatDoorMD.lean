/- agree, checkBoth, join, And of package match. Conditions: the terms can be read; two lists are at most a hundred terms together where they are joined. -/
import Derived.Test.YtijeakggeichcaaGreatDoorMC
namespace Go.Proofs.YtijeakggeichcaaGreatDoor
open Go.RowKit

theorem bits_xor (x y : Int) : bits BinOp.xor IntKind.u64 x y = ((bv x ^^^ bv y).toNat : Int) := wrapU _ (BitVec.isLt _)
/-- A term la a value. -/
def tmV (t : Tm) : Value := .agg #[.int .i64 t.f, .int .u64 (t.v.toNat : Int), .int .u64 (t.m.toNat : Int)]
def tmC (t : Tm) : Obj := .cells #[.int .i64 t.f, .int .u64 (t.v.toNat : Int), .int .u64 (t.m.toNat : Int)] 68
theorem agree_eq (x y : Tm) : (bits BinOp.and IntKind.u64 (bits BinOp.and IntKind.u64 (bits BinOp.xor IntKind.u64 (x.v.toNat : Int) (y.v.toNat : Int)) (x.m.toNat : Int)) (y.m.toNat : Int) == 0) = !cfl x y := by
  rw [bits_xor, bits_and, bits_and, bv_nat, bv_nat, bv_nat, bv_nat, bv_nat, bv_nat, beq0, cfl]
  simp [bne]
theorem wpList_append_ts {w : World} {ops : Array Oper} {rest : List Oper} {o : Oper} {act : Act} {Q : Exit → Act → World → Prop} (hw : Region.wanted o (yielded ops act.tmps) = true) (s x : Operand)
    (ho : o.op = .call { callee := .builtin .append, args := #[s, x], argTypes := #[27, 27] }) (hty : o.type = 27)
    (base : Nat) (v : Value) (xs : List Tm) (hs : act.eval s = v) (hown : w.ownsRow base 68 3 v xs.length (rowT xs))
    (a : Option Addr) (m c : Nat) (zs : List Tm) (hx : act.eval x = .slice a m c) (hts : TS w a m zs) (hsum : xs.length + m ≤ 5864062014805) (hbase : base ≤ w.heap.size)
    (h : ∀ a' cap' w', w'.ownsRow base 68 3 (.slice a' (xs.length + m) cap') (xs ++ zs).length (rowT (xs ++ zs)) → w.grownBy w' v.ownBlock → wpList Tryz.prog ops Q rest (act.put o.dst (.slice a' (xs.length + m) cap')) w') : wpList Tryz.prog ops Q (o :: rest) act w := by
  refine BigFrame.wpList_want hw fun K hK => ?_
  obtain ⟨a', cap', w', hr, h2, h3⟩ := run_append_ts w base v xs hown a m c zs hts hsum hbase
  unfold Oper.wp execOp
  simp only [ho, hty, resolve, invoke, builtin, Sem.run_bind, Sem.run_pure, Result.andThen_ok, List.map_toArray, List.map_cons, List.map_nil, hs, hx, hr]
  exact hK _ _ (h a' cap' w' h2 h3)
theorem step_append_ts {w : World} {ops : Array Oper} {o : Oper} {act : Act} {K : Act → World → Prop} {Q : Exit → Act → World → Prop} {E : Prop} (hw : Region.wanted o (yielded ops act.tmps) = true) (s x : Operand)
    (ho : o.op = .call { callee := .builtin .append, args := #[s, x], argTypes := #[27, 27] }) (hty : o.type = 27)
    (base : Nat) (v : Value) (xs : List Tm) (hs : act.eval s = v) (hown : w.ownsRow base 68 3 v xs.length (rowT xs))
    (a : Option Addr) (m c : Nat) (zs : List Tm) (hx : act.eval x = .slice a m c) (hts : TS w a m zs) (hsum : xs.length + m ≤ 5864062014805) (hbase : base ≤ w.heap.size)
    (h : ∀ a' cap' w', w'.ownsRow base 68 3 (.slice a' (xs.length + m) cap') (xs ++ zs).length (rowT (xs ++ zs)) → w.grownBy w' v.ownBlock → K (act.put o.dst (.slice a' (xs.length + m) cap')) w') :
    if Region.wanted o (yielded ops act.tmps) = true then Oper.wp Tryz.prog o act w K Q else E := by
  rw [if_pos hw]
  obtain ⟨a', cap', w', hr, h2, h3⟩ := run_append_ts w base v xs hown a m c zs hts hsum hbase
  unfold Oper.wp execOp
  simp only [ho, hty, resolve, invoke, builtin, Sem.run_bind, Sem.run_pure, Result.andThen_ok, List.map_toArray, List.map_cons, List.map_nil, hs, hx, hr]
  exact h a' cap' w' h2 h3
theorem own_below {w w' : World} {base : Nat} {v : Value} {n : Nat} {xs : List Value} (h : w.ownsRow base 68 3 v n xs) (hb : Below w.heap.size w w') : w'.ownsRow base 68 3 v n xs := by
  refine ⟨h.1, ?_⟩
  rcases h.2 with h0 | ⟨g, cap, cur, e, h1, h2, h3⟩
  · exact .inl h0
  · exact .inr ⟨g, cap, cur, e, h1, (hb.block _ (lt_of_heap h2)).trans h2, h3⟩
theorem own_below2 {w W w' : World} {base : Nat} {v : Value} {n : Nat} {xs : List Value} (h : w.ownsRow base 68 3 v n xs) (hb : Below W.heap.size W w') (hh : W.heap = w.heap) : w'.ownsRow base 68 3 v n xs := by
  refine ⟨h.1, ?_⟩
  rcases h.2 with h0 | ⟨g, cap, cur, e, h1, h2, h3⟩
  · exact .inl h0
  · rw [← hh] at h2
    exact .inr ⟨g, cap, cur, e, h1, (hb.block _ (lt_of_heap h2)).trans h2, h3⟩
/-- A slice of one new term. -/
theorem ts_one (w : World) (t : Tm) : TS (w.alloc (.cells #[.int .i64 t.f, .int .u64 (t.v.toNat : Int), .int .u64 (t.m.toNat : Int)] 68)) (some ⟨w.heap.size, 0, none⟩) 1 [t] := by
  refine ⟨rfl, by omega, .inr ⟨w.heap.size, 0, rfl, fun i u hi => ?_⟩⟩
  match i, hi with
  | 0, hi =>
    simp at hi
    subst hi
    exact ⟨cell_row (heap_alloc_new w _) 0, cell_row (heap_alloc_new w _) 1, cell_row (heap_alloc_new w _) 2⟩

theorem TS.drew {w : World} {a : Option Addr} {n : Nat} {ts : List Tm} (h : TS w a n ts) : TS w.drew a n ts := ⟨h.len, h.room, h.cells⟩
def sLen : Value → Nat
  | .slice _ n _ => n
  | _ => 0
def jMu (a' : Act) (_ : World) : Nat := sLen (a'.tmps.getD 0 undef) + sLen (a'.tmps.getD 1 undef)

/-- What holds at join's label. -/
def JoinAt (w : World) (la lb : List Tm) (a' : Act) (w' : World) : Prop :=
  ∃ (a1 : Option Addr) (n1 c1 : Nat) (ra : List Tm) (b1 : Option Addr) (n2 c2 : Nat) (rb : List Tm) (v : Value) (acc : List Tm) (u2 u3 u7 u8 u9 u10 u11 u12 u13 u14 u15 u16 u17 u18 u19 u20 u21 u22 u23 u24 u25 u26 u27 u28 u29 u30 u31 u32 u33 u34 u35 u36 u37 u38 u39 u40 u41 u42 u43 u44 u45 u46 u47 u48 u49 u50 u51 u52 u53 u54 u55 u56 u57 u58 u59 u60 u61 u62 u63 u64 u65 u66 u67 u68 u69 u70 u71 u72 u73 u74 u75 u76 u77 u78 u79 u80 u81 u82 u83 u84 u85 u86 u87 u88 u89 u90 u91 u92 u93 u94 u95 : Value),
    a' = { tmps := #[.slice a1 n1 c1, .slice b1 n2 c2, u2, u3, .slice none 0 0, .bool false, v, u7, u8, u9, u10, u11, u12, u13, u14, u15, u16, u17, u18, u19, u20, u21, u22, u23, u24, u25, u26, u27, u28, u29, u30, u31, u32, u33, u34, u35, u36, u37, u38, u39, u40, u41, u42, u43, u44, u45, u46, u47, u48, u49, u50, u51, u52, u53, u54, u55, u56, u57, u58, u59, u60, u61, u62, u63, u64, u65, u66, u67, u68, u69, u70, u71, u72, u73, u74, u75, u76, u77, u78, u79, u80, u81, u82, u83, u84, u85, u86, u87, u88, u89, u90, u91, u92, u93, u94, u95], defers := [] } ∧
    TS w a1 n1 ra ∧ n1 ≤ c1 ∧ TS w b1 n2 rb ∧ n2 ≤ c2 ∧ w'.ownsRow w.heap.size 68 3 v acc.length (rowT acc) ∧ Below w.heap.size w w' ∧ acc.length + n1 + n2 ≤ 100 ∧ Hid (jn la lb = (jn ra rb).map (acc ++ ·))

theorem JoinAt.elim {w : World} {la lb : List Tm} {a' : Act} {w' : World} (h : JoinAt w la lb a' w') {M : Prop}
    (k : ∀ (a1 : Option Addr) (n1 c1 : Nat) (ra : List Tm) (b1 : Option Addr) (n2 c2 : Nat) (rb : List Tm) (v : Value) (acc : List Tm) (u2 u3 u7 u8 u9 u10 u11 u12 u13 u14 u15 u16 u17 u18 u19 u20 u21 u22 u23 u24 u25 u26 u27 u28 u29 u30 u31 u32 u33 u34 u35 u36 u37 u38 u39 u40 u41 u42 u43 u44 u45 u46 u47 u48 u49 u50 u51 u52 u53 u54 u55 u56 u57 u58 u59 u60 u61 u62 u63 u64 u65 u66 u67 u68 u69 u70 u71 u72 u73 u74 u75 u76 u77 u78 u79 u80 u81 u82 u83 u84 u85 u86 u87 u88 u89 u90 u91 u92 u93 u94 u95 : Value),
      a' = { tmps := #[.slice a1 n1 c1, .slice b1 n2 c2, u2, u3, .slice none 0 0, .bool false, v, u7, u8, u9, u10, u11, u12, u13, u14, u15, u16, u17, u18, u19, u20, u21, u22, u23, u24, u25, u26, u27, u28, u29, u30, u31, u32, u33, u34, u35, u36, u37, u38, u39, u40, u41, u42, u43, u44, u45, u46, u47, u48, u49, u50, u51, u52, u53, u54, u55, u56, u57, u58, u59, u60, u61, u62, u63, u64, u65, u66, u67, u68, u69, u70, u71, u72, u73, u74, u75, u76, u77, u78, u79, u80, u81, u82, u83, u84, u85, u86, u87, u88, u89, u90, u91, u92, u93, u94, u95], defers := [] } →
      TS w a1 n1 ra → n1 ≤ c1 → TS w b1 n2 rb → n2 ≤ c2 → w'.ownsRow w.heap.size 68 3 v acc.length (rowT acc) → Below w.heap.size w w' → acc.length + n1 + n2 ≤ 100 → Hid (jn la lb = (jn ra rb).map (acc ++ ·)) → M) : M := by
  obtain ⟨a1, n1, c1, ra, b1, n2, c2, rb, v, acc, u2, u3, u7, u8, u9, u10, u11, u12, u13, u14, u15, u16, u17, u18, u19, u20, u21, u22, u23, u24, u25, u26, u27, u28, u29, u30, u31, u32, u33, u34, u35, u36, u37, u38, u39, u40, u41, u42, u43, u44, u45, u46, u47, u48, u49, u50, u51, u52, u53, u54, u55, u56, u57, u58, u59, u60, u61, u62, u63, u64, u65, u66, u67, u68, u69, u70, u71, u72, u73, u74, u75, u76, u77, u78, u79, u80, u81, u82, u83, u84, u85, u86, u87, u88, u89, u90, u91, u92, u93, u94, u95, h0, h1, hc1, h2, hc2, hown, hbl, hsz, hJ⟩ := h
  exact k a1 n1 c1 ra b1 n2 c2 rb v acc u2 u3 u7 u8 u9 u10 u11 u12 u13 u14 u15 u16 u17 u18 u19 u20 u21 u22 u23 u24 u25 u26 u27 u28 u29 u30 u31 u32 u33 u34 u35 u36 u37 u38 u39 u40 u41 u42 u43 u44 u45 u46 u47 u48 u49 u50 u51 u52 u53 u54 u55 u56 u57 u58 u59 u60 u61 u62 u63 u64 u65 u66 u67 u68 u69 u70 u71 u72 u73 u74 u75 u76 u77 u78 u79 u80 u81 u82 u83 u84 u85 u86 u87 u88 u89 u90 u91 u92 u93 u94 u95 h0 h1 hc1 h2 hc2 hown hbl hsz hJ
theorem tv_of {w : World} {base : Nat} {a : Option Addr} {n cap : Nat} {ts : List Tm} (h : w.ownsRow base 68 3 (.slice a n cap) n (rowT ts)) (hr : ts.length ≤ 5864062014805) (hn : ts.length = n) : TV w (.slice a n cap) ((some ts).getD []) := by
  subst hn
  exact own_tv' h hr rfl
theorem own_drewN {w : World} {base : Nat} {v : Value} {n : Nat} {xs : List Value} (h : w.ownsRow base 68 3 v n xs) (q : Nat) : (w.drewN q).ownsRow base 68 3 v n xs := h
/-- What join answers. -/
def JoinR (w : World) (la lb : List Tm) (e : Ending) (w' : World) : Prop := ∃ v, e = .returned (.tuple #[v, .bool (jn la lb).isSome]) ∧ TV w' v ((jn la lb).getD []) ∧ Below w.heap.size w w'
theorem jn_done {la lb ra rb acc l : List Tm} (h : jn la lb = (jn ra rb).map (acc ++ ·)) (hl : jn ra rb = some l) : jn la lb = some (acc ++ l) := by rw [h, hl]; rfl
theorem grown_below {w wr w2 : World} {v : Value} {n : Nat} {xs : List Value} (hb : Below w.heap.size w wr) (hown : wr.ownsRow w.heap.size 68 3 v n xs) (hg : wr.grownBy w2 v.ownBlock) : Below w.heap.size w w2 :=
  hb.grown hg hb.size (fun k hk => (hown.lt k hk).1)
theorem jn_stepL {la lb r rb acc : List Tm} {x y : Tm} (h : jn la lb = (jn (x :: r) (y :: rb)).map (acc ++ ·)) (hlt : x.f < y.f) : jn la lb = (jn r (y :: rb)).map ((acc ++ [x]) ++ ·) := by
  rw [h, jn_lt hlt, Option.map_map]
  congr 1
  funext l
  simp
theorem jn_stepR {la lb r rb acc : List Tm} {x y : Tm} (h : jn la lb = (jn (x :: r) (y :: rb)).map (acc ++ ·)) (hlt : y.f < x.f) : jn la lb = (jn (x :: r) rb).map ((acc ++ [y]) ++ ·) := by
  rw [h, jn_gt hlt, Option.map_map]
  congr 1
  funext l
  simp
theorem jn_stepE {la lb r rb acc : List Tm} {x y : Tm} (h : jn la lb = (jn (x :: r) (y :: rb)).map (acc ++ ·)) (he : x.f = y.f) (hc : cfl x y = false) : jn la lb = (jn r rb).map ((acc ++ [⟨x.f, x.v ||| y.v, x.m ||| y.m⟩]) ++ ·) := by
  rw [h, jn_eq he hc, Option.map_map]
  congr 1
  funext l
  simp
end Go.Proofs.YtijeakggeichcaaGreatDoor
