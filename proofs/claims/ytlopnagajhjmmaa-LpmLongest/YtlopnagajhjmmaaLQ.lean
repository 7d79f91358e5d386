/- Lists of calls and of addresses among a law's arguments. Laws of the frame; no condition beyond the form's own reach. -/
import Derived.Test.YtlopnagajhjmmaaLO
namespace Go.Proofs.Ytlopnagajhjmmaa
open Go.ChangeShapes Go.WideShapes Go.ChangeAt Go.RowKit
structure Opd where
  k : Int
  p : BitVec 32
  n : Int
  v : Int
def I64 (x : Int) : Prop := -9223372036854775808 ≤ x ∧ x ≤ 9223372036854775807
def OpAt (w : World) (b o : Nat) (t : Opd) : Prop := w.cell? ⟨b, o, none⟩ = some (.int .i64 t.k) ∧ w.cell? ⟨b, o + 1, none⟩ = some (.int .u32 t.p.toNat) ∧ w.cell? ⟨b, o + 2, none⟩ = some (.int .i64 t.n) ∧ w.cell? ⟨b, o + 3, none⟩ = some (.int .i64 t.v)
structure OS (w : World) (a : Option Addr) (n : Nat) (ts : List Opd) : Prop where
  len : ts.length = n
  room : n * 32 ≤ 140737488351232
  ok : ∀ t ∈ ts, I64 t.k ∧ I64 t.n ∧ I64 t.v
  cells : n = 0 ∨ ∃ b off, a = some ⟨b, off, none⟩ ∧ ∀ i t, ts[i]? = some t → OpAt w b (off + i * 4) t
structure US (w : World) (a : Option Addr) (n : Nat) (ts : List (BitVec 32)) : Prop where
  len : ts.length = n
  room : n * 4 ≤ 140737488351232
  cells : n = 0 ∨ ∃ b off, a = some ⟨b, off, none⟩ ∧ ∀ i t, ts[i]? = some t → w.cell? ⟨b, off + i, none⟩ = some (.int .u32 t.toNat)
theorem OpAt.below {w w' : World} {b o : Nat} {t : Opd} (h : OpAt w b o t) (hb : Below w.heap.size w w') : OpAt w' b o t :=
  ⟨(hb.cell (cell_lt h.1)).trans h.1, (hb.cell (cell_lt h.2.1)).trans h.2.1, (hb.cell (cell_lt h.2.2.1)).trans h.2.2.1, (hb.cell (cell_lt h.2.2.2)).trans h.2.2.2⟩
theorem OS.at {w w' : World} {a : Option Addr} {n k : Nat} {ts : List Opd} {t : Opd} (h : OS w a n ts) (hb : Below w.heap.size w w') (ht : ts[k]? = some t) : ∃ b off, a = some ⟨b, off, none⟩ ∧ OpAt w' b (off + k * 4) t := by
  rcases h.cells with h0 | ⟨b, off, e, hc⟩
  · have := (List.getElem?_eq_some_iff.1 ht).1
    have := h.len
    omega
  · exact ⟨b, off, e, (hc k t ht).below hb⟩
theorem US.at {w w' : World} {a : Option Addr} {n k : Nat} {ts : List (BitVec 32)} {t : BitVec 32} (h : US w a n ts) (hb : Below w.heap.size w w') (ht : ts[k]? = some t) : ∃ b off, a = some ⟨b, off, none⟩ ∧ w'.cell? ⟨b, off + k, none⟩ = some (.int .u32 t.toNat) := by
  rcases h.cells with h0 | ⟨b, off, e, hc⟩
  · have := (List.getElem?_eq_some_iff.1 ht).1
    have := h.len
    omega
  · have c := hc k t ht
    exact ⟨b, off, e, (hb.cell (cell_lt c)).trans c⟩
theorem plain_add3 (b off i : Nat) : (⟨b, off, none⟩ : Addr).add i = ⟨b, off + i, none⟩ := by unfold Addr.add; split <;> simp_all
theorem cellsOp : Try.prog.cellsOf 32 = 4 := by kernel_rfl
theorem cellsU32 : Try.prog.cellsOf 30 = 1 := by kernel_rfl
theorem cellsInt : Try.prog.cellsOf 3 = 1 := by kernel_rfl
theorem bytesOp : Try.prog.bytesOf 32 = 32 := by kernel_rfl
theorem bytesU : Try.prog.bytesOf 30 = 4 := by kernel_rfl
theorem toNat_of {x : Int} (h0 : 0 ≤ x) (h1 : x ≤ 4294967295) : ∃ b : BitVec 32, x = (b.toNat : Int) := ⟨bv32 x, (toNat_bv h0 h1).symm⟩
set_option maxRecDepth 100000 in
theorem open_op {H : Type} {enc : TypeId × Value → H} {W : World} {n : Nat} {a : Addr} {i : Nat} {cs : List Value} {x : DataW H × List MemPlace}
    (h1 : W.cells? 0 (a.add (i * Try.prog.cellsOf 32)) (Try.prog.cellsOf 32) = some cs) (h2 : DataW.trod enc Try.prog W 0 (fun _ => true) true n 32 cs = some x) :
    ∃ t : Opd, (I64 t.k ∧ I64 t.n ∧ I64 t.v) ∧ W.cell? (a.add (i * 4)) = some (.int .i64 t.k) ∧ W.cell? (a.add (i * 4 + 1)) = some (.int .u32 (t.p.toNat : Int)) ∧ W.cell? (a.add (i * 4 + 2)) = some (.int .i64 t.n) ∧ W.cell? (a.add (i * 4 + 3)) = some (.int .i64 t.v) := by
  rw [cellsOp] at h1
  obtain ⟨_, hlen, hcell⟩ := World.cells?_some h1
  obtain ⟨xs, k, _, _, _, hxl, hf⟩ := DataW.trod_struct Try.underlying32 h2
  match xs, hxl, cs, hlen with
  | [y0, y1, y2, y3], _, [v0, v1, v2, v3], _ =>
    have g0 : DataW.trod enc Try.prog W 0 (fun _ => true) true k 3 (([v0, v1, v2, v3].drop 0).take (Try.prog.cellsOf 3)) = some y0 := hf 0 _ rfl
    have g1 : DataW.trod enc Try.prog W 0 (fun _ => true) true k 30 (([v0, v1, v2, v3].drop 1).take (Try.prog.cellsOf 30)) = some y1 := hf 1 _ rfl
    have g2 : DataW.trod enc Try.prog W 0 (fun _ => true) true k 3 (([v0, v1, v2, v3].drop 2).take (Try.prog.cellsOf 3)) = some y2 := hf 2 _ rfl
    have g3 : DataW.trod enc Try.prog W 0 (fun _ => true) true k 3 (([v0, v1, v2, v3].drop 3).take (Try.prog.cellsOf 3)) = some y3 := hf 3 _ rfl
    rw [cellsInt] at g0 g2 g3
    rw [cellsU32] at g1
    obtain ⟨x0, e0, _, w0⟩ := DataW.trod_int Try.underlying3 g0
    obtain ⟨x1, e1, _, w1⟩ := DataW.trod_int Try.underlying30 g1
    obtain ⟨x2, e2, _, w2⟩ := DataW.trod_int Try.underlying3 g2
    obtain ⟨x3, e3, _, w3⟩ := DataW.trod_int Try.underlying3 g3
    have b1 := bounds_u32 w1
    obtain ⟨p1, rfl⟩ := toNat_of b1.1 b1.2
    simp at e0 e1 e2 e3
    subst e0 e1 e2 e3
    have q0 := hcell 0 (by omega)
    have q1 := hcell 1 (by omega)
    have q2 := hcell 2 (by omega)
    have q3 := hcell 3 (by omega)
    rw [Deep.add_add] at q0 q1 q2 q3
    exact ⟨⟨x0, p1, x2, x3⟩, ⟨bounds_i64 w0, bounds_i64 w2, bounds_i64 w3⟩, by simpa using q0, by simpa using q1, by simpa using q2, by simpa using q3⟩
set_option maxRecDepth 100000 in
theorem open_ops {H : Type} {enc : TypeId × Value → H} {W : World} {v : Value} {d : DataW H} {p : List MemPlace} {r : Reach} {base : Nat} {ts : List TypeId} {ds : List (DataW H)} (j : Nat)
    (hv : Value.okWide Try.prog W r base 22 v) (h : DataW.Trod enc Try.prog W 0 (fun _ => true) true 22 v d p) (hsz : (DataW.weightsEach Try.prog ts ds).all (· ≤ reachBytes) = true) (ht : ts[j]? = some 22) (hd : ds[j]? = some d) :
    ∃ (l : List Opd) (a : Option Addr) (n c : Nat), v = .slice a n c ∧ OS W a n l := by
  obtain ⟨a, len, cap, rfl⟩ := okWide_slice Try.underlying22 hv
  obtain ⟨fuel, hf⟩ := h
  have hf' : DataW.trod enc Try.prog W 0 (fun _ => true) true fuel 22 [.slice a len cap] = some (d, p) := hf
  rcases Deep.open_slice Try.underlying22 hf' with ⟨e9, _⟩ | ⟨ad, len', cap', m, k, D, Pl, e9, _, hl, hmx, hm, hy9, hel⟩
  · simp at e9
    obtain ⟨rfl, rfl, rfl⟩ := e9
    exact ⟨[], none, 0, 0, rfl, rfl, by omega, by simp, .inl rfl⟩
  · simp at e9
    obtain ⟨rfl, rfl, rfl⟩ := e9
    simp at hm
    subst hm
    have hroom : m * 32 ≤ 140737488351232 := by
      have hd2 : d = _ := congrArg Prod.fst hy9
      have hs := sized_slice hsz ht (by rw [hd, hd2]) Try.underlying22
      rw [bytesOp] at hs
      simp only [List.length_map, List.length_range, reachBytes] at hs
      omega
    have each : ∀ i, i < m → ∃ t : Opd, (I64 t.k ∧ I64 t.n ∧ I64 t.v) ∧ W.cell? (ad.add (i * 4)) = some (.int .i64 t.k) ∧ W.cell? (ad.add (i * 4 + 1)) = some (.int .u32 (t.p.toNat : Int)) ∧ W.cell? (ad.add (i * 4 + 2)) = some (.int .i64 t.n) ∧ W.cell? (ad.add (i * 4 + 3)) = some (.int .i64 t.v) := fun i hi => by
      obtain ⟨cs', q1, q2⟩ := hel i hi
      exact open_op q1 q2
    haveI : Inhabited Opd := ⟨⟨0, 0, 0, 0⟩⟩
    obtain ⟨q, hq⟩ := Deep.choose_lt each
    refine ⟨(List.range len).map q, some ad, len, m, rfl, by simp, by omega, ?_, ?_⟩
    · intro t ht
      obtain ⟨i, hi, rfl⟩ := List.mem_map.1 ht
      exact (hq i (by have := List.mem_range.1 hi; omega)).1
    by_cases h0 : len = 0
    · exact .inl h0
    · obtain ⟨b, off, spot⟩ := ad
      have hspot : spot = none := by
        have := (hq 0 (by omega)).2.1
        simpa [Addr.add] using World.cell?_spot this
      subst hspot
      refine .inr ⟨b, off, rfl, fun i t hi => ?_⟩
      rw [List.getElem?_map] at hi
      have hi' : i < len := by
        rcases Nat.lt_or_ge i len with h | h
        · exact h
        · simp [h] at hi
      simp [hi'] at hi
      subst hi
      obtain ⟨_, r0, r1, r2, r3⟩ := hq i (by omega)
      rw [plain_add3] at r0 r1 r2 r3
      exact ⟨r0, by rw [Nat.add_assoc]; exact r1, by rw [Nat.add_assoc]; exact r2, by rw [Nat.add_assoc]; exact r3⟩
theorem open_u32s {H : Type} {enc : TypeId × Value → H} {W : World} {v : Value} {d : DataW H} {p : List MemPlace} {r : Reach} {base : Nat} {ts : List TypeId} {ds : List (DataW H)} (j : Nat)
    (hv : Value.okWide Try.prog W r base 44 v) (h : DataW.Trod enc Try.prog W 0 (fun _ => true) true 44 v d p) (hsz : (DataW.weightsEach Try.prog ts ds).all (· ≤ reachBytes) = true) (ht : ts[j]? = some 44) (hd : ds[j]? = some d) :
    ∃ (l : List (BitVec 32)) (a : Option Addr) (n c : Nat), v = .slice a n c ∧ US W a n l := by
  obtain ⟨a, len, cap, rfl⟩ := okWide_slice Try.underlying44 hv
  obtain ⟨fuel, hf⟩ := h
  rcases open_ints Try.underlying44 Try.underlying30 (by kernel_rfl) hf with ⟨hcs, _⟩ | ⟨x, l, c, zs, hcs, _, hl, hm, hz, hx, hcell, hwz⟩
  · simp [Value.cells] at hcs
    obtain ⟨rfl, rfl, rfl⟩ := hcs
    exact ⟨[], none, 0, 0, rfl, rfl, by omega, .inl rfl⟩
  · simp [Value.cells] at hcs
    obtain ⟨rfl, rfl, rfl⟩ := hcs
    simp only [Prod.mk.injEq] at hx
    obtain ⟨rfl, _⟩ := hx
    have hz' : zs.length = cap := by simpa using hz
    have hs := sized_slice hsz ht hd Try.underlying44
    rw [bytesU] at hs
    simp only [lits, List.length_map, List.length_take, List.length_drop, reachBytes] at hs
    refine ⟨(zs.take len).map bv32, some x, len, cap, rfl, ⟨by simp; omega, by omega, ?_⟩⟩
    by_cases h0 : len = 0
    · exact .inl h0
    · obtain ⟨b, off, spot⟩ := x
      have hc := hcell 0 (by omega)
      have hspot : spot = none := by simpa [Addr.add] using World.cell?_spot hc
      subst hspot
      refine .inr ⟨b, off, rfl, fun i t hi => ?_⟩
      rw [List.getElem?_map, List.getElem?_take] at hi
      have hi' : i < len := by
        rcases Nat.lt_or_ge i len with h | h
        · exact h
        · rw [if_neg (by omega)] at hi; cases hi
      have this := hcell i (by omega)
      rw [plain_add3] at this
      rw [if_pos hi', List.getElem?_eq_getElem (by omega)] at hi
      simp only [Option.map_some, Option.some.injEq] at hi
      subst hi
      rw [this]
      have hb := bounds_u32 (hwz _ (List.getElem_mem (show i < zs.length by omega)))
      rw [toNat_bv hb.1 hb.2]
      simp [List.getD_eq_getElem?_getD, List.getElem?_eq_getElem (show i < zs.length by omega)]
end Go.Proofs.Ytlopnagajhjmmaa
