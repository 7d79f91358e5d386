/- Numbers of bytes, the highest first: read, appended, made; rows of the call itself. Conditions: at most six bytes are read, eight appended. -/
import Derived.Test.YtnahhmcmahbnkaaGreatDoorGKittoLOpen
import Derived.Maps.AppendAt
import Derived.OneCell
import Derived.Deep.RegionHeld3
import Derived.Deep.RegionWith
import Derived.Deep.DrawnRows
import Derived.Deep.RegionLaw
namespace Go.Proofs.YtnahhmcmahbnkaaGreatDoor.Nm
open Go.RowKit

/-- The number of some bytes, the highest first. -/
def num (zs : List Int) : Int := zs.foldl (fun x z => x * 256 + z) 0

theorem num_snoc (zs : List Int) (z : Int) : num (zs ++ [z]) = num zs * 256 + z := by simp [num]

theorem take_snoc (zs : List Int) (k : Nat) (h : k < zs.length) : zs.take (k + 1) = zs.take k ++ [zs.getD k 0] := by
  rw [List.take_succ_eq_append_getElem h]
  simp [List.getD_eq_getElem?_getD, h]

theorem num_take (zs : List Int) (k : Nat) (h : k < zs.length) : num (zs.take (k + 1)) = num (zs.take k) * 256 + zs.getD k 0 := by
  rw [take_snoc zs k h, num_snoc]

theorem num_bd (zs : List Int) (h : ∀ i, 0 ≤ zs.getD i 0 ∧ zs.getD i 0 ≤ 255) (k : Nat) : 0 ≤ num (zs.take k) ∧ num (zs.take k) < 256 ^ k := by
  induction k with
  | zero => simp [num]
  | succ k ih =>
    by_cases hk : k < zs.length
    · rw [num_take zs k hk, Int.pow_succ]
      have := h k
      omega
    · rw [List.take_of_length_le (by omega)]
      rw [List.take_of_length_le (by omega)] at ih
      rw [Int.pow_succ]
      omega

theorem num_bd5 (zs : List Int) (h : ∀ i, 0 ≤ zs.getD i 0 ∧ zs.getD i 0 ≤ 255) (k : Nat) (hk : k ≤ 5) : 0 ≤ num (zs.take k) ∧ num (zs.take k) < 1099511627776 := by
  have := num_bd zs h k
  have h2 : (256 : Int) ^ k ≤ 1099511627776 := by
    match k, hk with
    | 0, _ => decide
    | 1, _ => decide
    | 2, _ => decide
    | 3, _ => decide
    | 4, _ => decide
    | 5, _ => decide
  omega

theorem num_bd6 {w : World} {a : Option Addr} {n : Nat} {zs : List Int} (h : BS w a n zs) (hn : n ≤ 6) : 0 ≤ num zs ∧ num zs < 281474976710656 := by
  have hl := h.len
  have := num_bd zs h.fits zs.length
  rw [List.take_length] at this
  have h2 : (256 : Int) ^ zs.length ≤ 281474976710656 := by
    rw [hl]
    match n, hn with
    | 0, _ => decide
    | 1, _ => decide
    | 2, _ => decide
    | 3, _ => decide
    | 4, _ => decide
    | 5, _ => decide
    | 6, _ => decide
  omega

theorem num_bd2 {w : World} {a : Option Addr} {zs : List Int} (h : BS w a 2 zs) : 0 ≤ num zs ∧ num zs ≤ 65535 := by
  have hl := h.len
  have := num_bd zs h.fits 2
  rw [List.take_of_length_le (by omega)] at this
  have h2 : (256 : Int) ^ 2 = 65536 := by decide
  omega

theorem or64 (x y : Int) (hx0 : 0 ≤ x) (hx1 : x < 1099511627776) (hy0 : 0 ≤ y) (hy1 : y ≤ 255) : bits .or .u64 (x * 256) y = x * 256 + y := by
  rw [u64_or _ _ (by omega) (by omega) (by omega) (by omega)]
  rw [nat_join 8 (x * 256).toNat y.toNat (by omega) (by omega)]
  omega

set_option maxHeartbeats 1000000 in
theorem number_some (b off cap : Nat) (zs : List Int) (w : World) (hm : zs.length ≤ 6) (hc : ∀ i, i < zs.length → w.cell? ⟨b, off + i, none⟩ = some (.int .u8 (zs.getD i 0))) (hf : ∀ i, 0 ≤ zs.getD i 0 ∧ zs.getD i 0 ≤ 255) :
    Calls Tryz.prog 255 #[.slice (some ⟨b, off, none⟩) zs.length cap] w fun e w' => e = .returned (.int .u64 (num zs)) ∧ w' = w := by
  go_enter Tryz.func255, Tryz.ntmps255
  go_wp2
  go_loop [3, 5, 8] (fun v _ i => ∃ k : Nat, k ≤ zs.length ∧ i = .int .i64 k ∧ v = .int .u64 (num (zs.take k))) (fun _ _ i => zs.length - (intOf i).toNat)
  case atStart => exact ⟨0, by omega, rfl, rfl⟩
  case round =>
    obtain ⟨k, hk, rfl, rfl⟩ := hrel
    by_cases hlt : k < zs.length
    · have hcj := hc k hlt
      have hfj := hf k
      have hb := num_bd5 zs hf k (by omega)
      have hs : Hid _ := num_take zs k hlt
      have ho := or64 _ _ hb.1 hb.2 hfj.1 hfj.2
      have hlt' : (k : Int) < (zs.length : Int) := by omega
      clear hc hf
      generalize num (zs.take k) = X at *
      generalize zs.getD k 0 = z at *
      go_wp2
      go_round
      case rel => exact ⟨k + 1, by omega, by go_num, by rw [hs.out]⟩
      case measure => simp [intOf]; omega
    · have hT : Hid (zs.take k = zs) := List.take_of_length_le (by omega)
      rw [hT.out]
      go_wp2
      go_ret
      exact ⟨rfl, rfl⟩

theorem number_empty (a : Option Addr) (cap : Nat) (w : World) :
    Calls Tryz.prog 255 #[.slice a 0 cap] w fun e w' => e = .returned (.int .u64 (num [])) ∧ w' = w := by
  go_enter Tryz.func255, Tryz.ntmps255
  go_wp2
  refine wp_loop_rounds 1 ?_
  rw [rounds_succ]
  go_wp2
  go_ret
  exact ⟨rfl, rfl⟩

theorem number_any {a : Option Addr} {n : Nat} {zs : List Int} {w : World} (cap : Nat) (h : BS w a n zs) (hn : n ≤ 6) :
    Calls Tryz.prog 255 #[.slice a n cap] w fun e w' => e = .returned (.int .u64 (num zs)) ∧ w' = w := by
  obtain ⟨rfl, hf, hm, hc⟩ := h
  rcases hc with h0 | ⟨b, off, rfl, hc⟩
  · have hz : zs = [] := List.length_eq_zero_iff.1 h0
    subst hz
    exact number_empty a cap w
  · exact number_some b off cap zs w hn hc hf

theorem run_append_bsa {P : Program} (w : World) (base : Nat) (t ty e : TypeId) (i : TypeInfo) (ht : P.underlying t = some (.slice e)) (hi : P.info? e = some i) (hz : i.zero = some (.int .u8 0)) (hsize : i.size = 1) (hby : i.bytes = 1)
    (v : Value) (n : Nat) (xs : List Int) (hown : w.ownsRow base e 1 v n (xs.map (Value.int .u8))) {a : Option Addr} {m : Nat} {zs : List Int} (c : Nat) (hbs : BS w a m zs)
    (hsum : n + m ≤ 140737488355328) (hbase : base ≤ w.heap.size) :
    ∃ v' w', (Builtin.append_ #[t, t] ty #[v, .slice a m c]).run P w = .ok v' w' ∧ w'.ownsRow base e 1 v' (n + m) ((xs ++ zs).map (Value.int .u8)) ∧ w.grownBy w' v.ownBlock ∧ (v'.ownBlock = v.ownBlock ∨ v'.ownBlock = some w.heap.size) := by
  have hml : n + m ≤ maxLen := by unfold maxLen; omega
  rcases a with _ | ad
  · have hm0 : m = 0 := by
      rcases hbs.cells with h | ⟨b, off, h, _⟩
      · exact h
      · cases h
    subst hm0
    have hz0 : zs = [] := List.length_eq_zero_iff.1 hbs.len
    subst hz0
    refine ⟨v, w, run_append_none w base t ty e i 1 ht hi v n c _ hown, by simpa using hown, World.grownBy.refl _ _, .inl rfl⟩
  · obtain ⟨v', w', h1, h2, h3, _, h5⟩ := run_append_own_at (P := P) w base t ty e i (.int .u8 0) 1 1 ht hi hz hsize hby rfl (by decide) v n _ hown ad m c (zs.map (Value.int .u8)) (by simp [hbs.len]) (fun j u hj => by
      obtain ⟨hjl, rfl⟩ := map_get hj
      rcases hbs.cells with h | ⟨b, off, h, hc⟩
      · have := hbs.len; omega
      · cases h
        rw [plain_add]; exact hc j hjl) (ints_oneCell _ _) hml (by omega) hbase
    exact ⟨v', w', h1, by simpa using h2, h3, h5⟩

/-- append of readable bytes to a row of bytes of the call's own, as an operation of a list; where the new row lies. -/
theorem wpList_append_bsa {P : Program} {w : World} {ops : Array Oper} {rest : List Oper} {o : Oper} {act : Act} {Q : Exit → Act → World → Prop} (hw : Region.wanted o (yielded ops act.tmps) = true) (s x : Operand) (t : TypeId)
    (ho : o.op = .call { callee := .builtin .append, args := #[s, x], argTypes := #[t, t] })
    (base : Nat) (e : TypeId) (i : TypeInfo) (ht : P.underlying t = some (.slice e)) (hi : P.info? e = some i) (hz : i.zero = some (.int .u8 0)) (hsize : i.size = 1) (hby : i.bytes = 1)
    (v : Value) (n : Nat) (xs : List Int) (hs : act.eval s = v) (hown : w.ownsRow base e 1 v n (xs.map (Value.int .u8)))
    (a : Option Addr) (m c : Nat) (zs : List Int) (hx : act.eval x = .slice a m c) (hbs : BS w a m zs) (hsum : n + m ≤ 140737488355328) (hbase : base ≤ w.heap.size)
    (h : ∀ a' cap' w', w'.ownsRow base e 1 (.slice a' (n + m) cap') (n + m) ((xs ++ zs).map (Value.int .u8)) → w.grownBy w' v.ownBlock → ((Value.slice a' (n + m) cap').ownBlock = v.ownBlock ∨ (Value.slice a' (n + m) cap').ownBlock = some w.heap.size) → wpList P ops Q rest (act.put o.dst (.slice a' (n + m) cap')) w') : wpList P ops Q (o :: rest) act w := by
  refine BigFrame.wpList_want hw fun K hK => ?_
  obtain ⟨v', w', hr, h2, h3, h4⟩ := run_append_bsa (P := P) w base t o.type e i ht hi hz hsize hby v n xs hown c hbs hsum hbase
  obtain ⟨a', cap', rfl, _⟩ := own_form h2
  unfold Oper.wp execOp
  simp only [ho, resolve, invoke, builtin, Sem.run_bind, Sem.run_pure, Result.andThen_ok, List.map_toArray, List.map_cons, List.map_nil, hs, hx, hr]
  exact hK _ _ (h a' cap' w' h2 h3 h4)

theorem grown_trans {w w1 w2 : World} {r r1 : Option Nat} (h : w.grownBy w1 r) (h1 : w1.grownBy w2 r1) (hr : r1 = r ∨ ∀ k, r1 = some k → w.heap.size ≤ k) : w.grownBy w2 r :=
  ⟨h1.os.trans h.os, h1.tape.trans h.tape, h1.output.trans h.output, Nat.le_trans h.size h1.size, fun k hk hne => by
    rw [h1.block k (Nat.lt_of_lt_of_le hk h.size) (by
      rcases hr with rfl | hr
      · exact hne
      · intro e; have := hr k e.symm; omega)]
    exact h.block k hk hne⟩

theorem bs_one (w : World) (x : Int) (B : Nat) (hB : B = w.heap.size) (hx : 0 ≤ x ∧ x ≤ 255) :
    BS (w.alloc (.cells #[.int .u8 x] 5)) (some ⟨B, 0, none⟩) 1 [x] := by
  refine bs_new 5 w _ [x] 1 B hB rfl rfl ?_ (by omega)
  simp [hx]

/-- A number's bytes, the highest first. -/
def be (v : Int) : Nat → List Int
  | 0 => []
  | s + 1 => (v / 2 ^ (8 * s) % 256) :: be v s

/-- What holds of a row of bytes that grows: where it lay when the call began, and where it lies. -/
structure Row (base : Nat) (W w' : World) (v0 v : Value) (n : Nat) (xs : List Int) : Prop where
  own : w'.ownsRow base 5 1 v n (xs.map (Value.int .u8))
  grown : W.grownBy w' v0.ownBlock
  where_ : v.ownBlock = v0.ownBlock ∨ ∀ k, v.ownBlock = some k → W.heap.size ≤ k

theorem Row.step {base : Nat} {W wr w1 : World} {v0 v v' : Value} {n m : Nat} {ys zs : List Int} {o : Obj} (h : Row base W wr v0 v n ys)
    (h1 : w1.ownsRow base 5 1 v' (n + m) ((ys ++ zs).map (Value.int .u8))) (h2 : (wr.alloc o).grownBy w1 v.ownBlock) (h3 : v'.ownBlock = v.ownBlock ∨ v'.ownBlock = some (wr.heap.size + 1)) : Row base W w1 v0 v' (n + m) (ys ++ zs) := by
  refine ⟨h1, grown_trans h.grown (grown_trans (World.grownBy_alloc wr o v.ownBlock) h2 (.inl rfl)) h.where_, ?_⟩
  rcases h3 with h3 | h3
  · rw [h3]; exact h.where_
  · refine .inr fun k hk => ?_
    rw [h3] at hk
    cases hk
    have := h.grown.size
    omega

theorem Row.refl {base : Nat} {W : World} {v : Value} {n : Nat} {xs : List Int} (h : W.ownsRow base 5 1 v n (xs.map (Value.int .u8))) : Row base W W v v n xs := ⟨h, World.grownBy.refl _ _, .inl rfl⟩

theorem be_bd (v : Int) (s : Nat) : ∀ i, 0 ≤ (be v s).getD i 0 ∧ (be v s).getD i 0 ≤ 255 := by
  induction s with
  | zero => intro i; simp [be]
  | succ s ih =>
    intro i
    match i with
    | 0 => simp only [be, List.getD_cons_zero]; omega
    | i + 1 => simpa [be] using ih i

theorem be_len (v : Int) (s : Nat) : (be v s).length = s := by
  induction s with
  | zero => rfl
  | succ s ih => simp [be, ih]

set_option maxHeartbeats 1000000 in
theorem appendNumber_any (base : Nat) (W : World) (a : Option Addr) (n cap : Nat) (xs : List Int) (hown : W.ownsRow base 5 1 (.slice a n cap) n (xs.map (Value.int .u8))) (hbase : base ≤ W.heap.size) (hn : n ≤ 1000000) (v : Int) (_hv : 0 ≤ v ∧ v ≤ 18446744073709551615) (s : Nat) (hs : s ≤ 8) :
    Calls Tryz.prog 153 #[.slice a n cap, .int .u64 v, .int .i64 s] W fun e w' => ∃ a' cap', e = .returned (.slice a' (n + s) cap') ∧ Row base W w' (.slice a n cap) (.slice a' (n + s) cap') (n + s) (xs ++ be v s) := by
  obtain ⟨i0, hi, hz0, hz1, hz2⟩ := info_parts info5
  have HO : Hid _ := hown
  clear hown
  go_enter Tryz.func153, Tryz.ntmps153
  go_wp2
  go_loopw [0, 2] (fun o r wr => ∃ (k : Nat) (j : Nat) (ys : List Int) (a' : Option Addr) (cap' : Nat), r = .int .i64 k ∧ k + j = s ∧ o = .slice a' (n + j) cap' ∧ Hid (ys ++ be v k = xs ++ be v s) ∧ Hid (Row base W wr (.slice a n cap) (.slice a' (n + j) cap') (n + j) ys)) (fun _ r _ => (intOf r).toNat)
  case atStart => exact ⟨s, 0, xs, a, cap, rfl, by omega, rfl, rfl, Row.refl HO.out⟩
  case round =>
    obtain ⟨k, j, ys, a', cap', rfl, hkj, rfl, hys, hrow⟩ := hrel
    by_cases hk : k = 0
    · subst hk
      obtain rfl : j = s := by omega
      go_wp2
      go_ret
      refine ⟨a', cap', rfl, ?_⟩
      have := hys.out
      simp only [be, List.append_nil] at this
      rw [← this]
      exact hrow.out
    · obtain ⟨r, rfl⟩ : ∃ r, k = r + 1 := ⟨k - 1, by omega⟩
      have hr : (r : Int) ≤ 7 := by omega
      have hbs : Hid (base ≤ wr.heap.size) := Nat.le_trans hbase hrow.out.grown.size
      have hj : n + j + 1 ≤ 140737488355328 := by omega
      go_wp2_with (at_builtin; refine wpList_append_bsa (by rfl) (.tmp 11) (.tmp 17) 126 rfl base 5 i0 Tryz.underlying126 hi hz0 hz1 hz2 _ (n + j) ys rfl (hrow.out.own.alloc _) (some ⟨wr.heap.size, 0, none⟩) 1 1 [v / 2 ^ (8 * r) % 256] rfl (bs_one wr _ _ rfl (by omega)) hj (by have := hbs.out; simp; omega) ?_)
      intro a2 cap2 w1 h1 h2 h3
      have hrow2 : Hid (Row base W w1 (.slice a n cap) (.slice a2 (n + j + 1) cap2) (n + j + 1) (ys ++ [v / 2 ^ (8 * r) % 256])) := hrow.out.step (by simpa using h1) h2 h3
      clear h1 h2 h3
      go_wp2
      go_roundw
      case rel => exact ⟨r, j + 1, ys ++ [v / 2 ^ (8 * r) % 256], a2, cap2, rfl, by omega, rfl, by show _ = _; rw [← hys.out]; simp [be], hrow2⟩
      case measure => simp [intOf]

theorem below1 (w : World) (a : Obj) : Below w.heap.size w (w.alloc a) := (Below.refl _ _).alloc (Nat.le_refl _) _

theorem below2 (w : World) (a b : Obj) : Below w.heap.size w ((w.alloc a).alloc b) := (below1 w a).alloc (by simp) _

theorem below3 (w : World) (a b c : Obj) : Below w.heap.size w (((w.alloc a).alloc b).alloc c) := (below2 w a b).alloc (by simp; omega) _

theorem below4 (w : World) (a b c d : Obj) : Below w.heap.size w ((((w.alloc a).alloc b).alloc c).alloc d) := (below3 w a b c).alloc (by simp; omega) _

/-- A variable of a call's own in block p that holds a row of bytes of the call's own. -/
structure Enc (w0 W : World) (p : Nat) (xs : List Int) : Prop where
  bel : Below w0.heap.size w0 W
  here : w0.heap.size ≤ p
  row : ∃ a cap, W.heap[p]? = some (.cells #[.slice a xs.length cap] 126 (0, 0)) ∧ W.ownsRow w0.heap.size 5 1 (.slice a xs.length cap) xs.length (xs.map (Value.int .u8))

theorem row_apart {W : World} {base p : Nat} {v u : Value} {n : Nat} {xs : List Value} (h : W.ownsRow base 5 1 v n xs) (hp : W.heap[p]? = some (.cells #[u] 126 (0, 0))) : v.ownBlock ≠ some p := by
  intro e
  rcases h.2 with ⟨rfl, _⟩ | ⟨g, cap, cur, rfl, _, hg, _⟩
  · cases e
  · simp only [Value.ownBlock] at e
    cases e
    rw [hg] at hp
    simp at hp

/-- The row that Bytes makes. -/
theorem own_made (w : World) (base n : Nat) (x : Int) (hb : base ≤ w.heap.size) (hn : n ≤ 1000000) : (w.alloc (.cells ((be x n).map (Value.int .u8)).toArray 5)).ownsRow base 5 1 (.slice (some ⟨w.heap.size, 0, none⟩) n n) n ((be x n).map (Value.int .u8)) := by
  have := World.ownsRow_lit (base := base) (e := 5) (size := 1) w ((be x n).map (Value.int .u8)).toArray n hb (by unfold maxLen; omega) (by simp [be_len])
  simpa using this

theorem bs_two (w : World) (x y : Int) (B : Nat) (hB : B = w.heap.size) (hx : 0 ≤ x ∧ x ≤ 255) (hy : 0 ≤ y ∧ y ≤ 255) :
    BS (w.alloc (.cells #[.int .u8 x, .int .u8 y] 5)) (some ⟨B, 0, none⟩) 2 [x, y] := by
  refine bs_new 5 w _ [x, y] 2 B hB rfl rfl ?_ (by omega)
  simp [hx, hy]

/-- A row of bytes of the call's own, over a world that has only grown since w1. -/
structure RB (w1 W : World) (v : Value) (n : Nat) (xs : List Int) : Prop where
  own : W.ownsRow w1.heap.size 5 1 v n (xs.map (Value.int .u8))
  bel : Below w1.heap.size w1 W

def MadeBy (f : Nat) (m : Int) : Prop := ∀ (x : Int), 0 ≤ x ∧ x ≤ 18446744073709551615 → ∀ w : World, Calls Tryz.prog f #[.int .u64 x, .int .i64 m] w fun e w' => e = .returned (.slice (some ⟨w.heap.size, 0, none⟩) m.toNat m.toNat) ∧ w' = w.alloc (.cells ((be x m.toNat).map (Value.int .u8)).toArray 5)

theorem bytes_first {f : Nat} {m : Int} (hm : MadeBy f m) (hm6 : m ≤ 6) {w1 W : World} (hb : Below w1.heap.size w1 W) (x : Int) (hx : 0 ≤ x ∧ x ≤ 18446744073709551615) :
    Calls Tryz.prog f #[.int .u64 x, .int .i64 m] W fun e w' => ∃ a, e = .returned (.slice a m.toNat m.toNat) ∧ RB w1 w' (.slice a m.toNat m.toNat) m.toNat (be x m.toNat) := by
  refine (hm x hx W).mono ?_
  rintro e w' ⟨rfl, rfl⟩
  exact ⟨_, rfl, own_made W _ _ x hb.size (by omega), hb.alloc hb.size _⟩

theorem bytes_next {f : Nat} {m : Int} (hm : MadeBy f m) (hm6 : m ≤ 6) {w1 W : World} {v : Value} {n : Nat} {xs : List Int} (h : RB w1 W v n xs) (x : Int) (hx : 0 ≤ x ∧ x ≤ 18446744073709551615) :
    Calls Tryz.prog f #[.int .u64 x, .int .i64 m] W fun e w' => ∃ a, e = .returned (.slice a m.toNat m.toNat) ∧ RB w1 w' v n xs ∧ BS w' a m.toNat (be x m.toNat) := by
  refine (hm x hx W).mono ?_
  rintro e w' ⟨rfl, rfl⟩
  refine ⟨_, rfl, ⟨h.own.alloc _, h.bel.alloc h.bel.size _⟩, ?_⟩
  exact own_bs (own_made W _ _ x (Nat.le_refl _) (by omega)) (be_bd _ _) (by omega)

theorem rb_step {w1 W w' : World} {v v' : Value} {n m : Nat} {xs zs : List Int} (h : RB w1 W v n xs) (h1 : w'.ownsRow w1.heap.size 5 1 v' (n + m) ((xs ++ zs).map (Value.int .u8))) (h2 : W.grownBy w' v.ownBlock) : RB w1 w' v' (n + m) (xs ++ zs) :=
  ⟨h1, h.bel.grown h2 h.bel.size (fun k hk => (World.ownsRow.lt h.own k hk).1)⟩

theorem wp_append_rb {P : Program} (hP : P.underlying 126 = some (.slice 5)) (hi5 : (P.info? 5).map (fun i => (i.zero, i.size, i.bytes)) = some (some (.int .u8 0), 1, 1)) {w1 w : World} {o : Oper} {act : Act} {K : Act → World → Prop} {Q : Exit → Act → World → Prop} (s x : Operand)
    (ho : o.op = .call { callee := .builtin .append, args := #[s, x], argTypes := #[126, 126] })
    (v : Value) (n : Nat) (xs : List Int) (hs : act.eval s = v) (hr : RB w1 w v n xs)
    (a : Option Addr) (m c : Nat) (zs : List Int) (hx : act.eval x = .slice a m c) (hbs : BS w a m zs) (hsum : n + m ≤ 140737488355328)
    (h : ∀ a' cap' w', RB w1 w' (.slice a' (n + m) cap') (n + m) (xs ++ zs) → K (act.put o.dst (.slice a' (n + m) cap')) w') : o.wp P act w K Q := by
  obtain ⟨i0, hi, hz0, hz1, hz2⟩ := info_parts hi5
  obtain ⟨v', w', hrun, h2, h3⟩ := run_append_bs (P := P) w w1.heap.size 126 o.type 5 i0 hP hi hz0 hz1 hz2 v n xs hr.own c hbs hsum hr.bel.size
  obtain ⟨a', cap', rfl, _⟩ := own_form h2
  unfold Oper.wp execOp
  simp only [ho, resolve, invoke, builtin, Sem.run_bind, Sem.run_pure, Result.andThen_ok, List.map_toArray, List.map_cons, List.map_nil, hs, hx, hrun]
  exact h a' cap' w' (rb_step hr h2 h3)

theorem wpList_append_rb {P : Program} (hP : P.underlying 126 = some (.slice 5)) (hi5 : (P.info? 5).map (fun i => (i.zero, i.size, i.bytes)) = some (some (.int .u8 0), 1, 1)) {w1 w : World} {ops : Array Oper} {rest : List Oper} {o : Oper} {act : Act} {Q : Exit → Act → World → Prop} (hw : Region.wanted o (yielded ops act.tmps) = true) (s x : Operand)
    (ho : o.op = .call { callee := .builtin .append, args := #[s, x], argTypes := #[126, 126] })
    (v : Value) (n : Nat) (xs : List Int) (hs : act.eval s = v) (hr : RB w1 w v n xs)
    (a : Option Addr) (m c : Nat) (zs : List Int) (hx : act.eval x = .slice a m c) (hbs : BS w a m zs) (hsum : n + m ≤ 140737488355328)
    (h : ∀ a' cap' w', RB w1 w' (.slice a' (n + m) cap') (n + m) (xs ++ zs) → wpList P ops Q rest (act.put o.dst (.slice a' (n + m) cap')) w') : wpList P ops Q (o :: rest) act w :=
  BigFrame.wpList_want hw fun _ hK => wp_append_rb hP hi5 s x ho v n xs hs hr a m c zs hx hbs hsum fun a' cap' w' h2 => hK _ _ (h a' cap' w' h2)

theorem step_append_rb {P : Program} (hP : P.underlying 126 = some (.slice 5)) (hi5 : (P.info? 5).map (fun i => (i.zero, i.size, i.bytes)) = some (some (.int .u8 0), 1, 1)) {w1 w : World} {ops : Array Oper} {o : Oper} {act : Act} {K : Act → World → Prop} {Q : Exit → Act → World → Prop} {E : Prop} (hgd : o.guard = none) (s x : Operand)
    (ho : o.op = .call { callee := .builtin .append, args := #[s, x], argTypes := #[126, 126] })
    (v : Value) (n : Nat) (xs : List Int) (hs : act.eval s = v) (hr : RB w1 w v n xs)
    (a : Option Addr) (m c : Nat) (zs : List Int) (hx : act.eval x = .slice a m c) (hbs : BS w a m zs) (hsum : n + m ≤ 140737488355328)
    (h : ∀ a' cap' w', RB w1 w' (.slice a' (n + m) cap') (n + m) (xs ++ zs) → K (act.put o.dst (.slice a' (n + m) cap')) w') :
    if Region.wanted o (yielded ops act.tmps) = true then Oper.wp P o act w K Q else E := by
  have hw : Region.wanted o (yielded ops act.tmps) = true := by simp [Region.wanted, hgd]
  rw [if_pos hw]
  exact wp_append_rb hP hi5 s x ho v n xs hs hr a m c zs hx hbs hsum h

theorem RB.drew {w1 W : World} {v : Value} {n : Nat} {xs : List Int} (h : RB w1 W v n xs) : RB w1 W.drew v n xs := ⟨h.own, h.bel.drew⟩

theorem RB.bs {w1 W : World} {a : Option Addr} {n cap : Nat} {xs : List Int} (h : RB w1 W (.slice a n cap) n xs) (hf : ∀ i, 0 ≤ xs.getD i 0 ∧ xs.getD i 0 ≤ 255) (hr : n ≤ 140737488355328) : BS W a n xs := own_bs h.own hf hr

theorem own_empty (w : World) (base : Nat) (hb : base ≤ w.heap.size) : (w.alloc (.cells #[] 5)).ownsRow base 5 1 (.slice (some ⟨w.heap.size, 0, none⟩) 0 0) 0 (([] : List Int).map (Value.int .u8)) :=
  World.ownsRow_made w #[] 0 hb (by unfold maxLen; omega) rfl

theorem own_caps {w : World} {base : Nat} {e : TypeId} {a : Option Addr} {n cap : Nat} {xs : List Value} (h : w.ownsRow base e 1 (.slice a n cap) n xs) : n ≤ cap ∧ cap ≤ 9223372036854775807 := by
  rcases h.2 with ⟨h0, rfl⟩ | ⟨g, cap', cur, e1, _, _, hnc, hm, _⟩
  · have : cap = 0 := by injection h0
    omega
  · have : cap = cap' := by injection e1
    unfold maxLen at hm
    omega

/-- A block of cells that are known. -/
def AtB (W : World) (b : Nat) (arr : Array Value) : Prop := b < W.heap.size ∧ ∀ i, W.cell? ⟨b, i, none⟩ = arr[i]?

theorem atB_new (w : World) (arr : Array Value) (t : TypeId) (b : Nat) (hb : b = w.heap.size) : AtB (w.alloc (.cells arr t)) b arr := by
  subst hb
  exact ⟨by simp, fun i => by simp [go_sem]⟩

theorem AtB.below {w w' : World} {b : Nat} {arr : Array Value} (h : AtB w b arr) (hb : Below w.heap.size w w') : AtB w' b arr :=
  ⟨Nat.lt_of_lt_of_le h.1 hb.size, fun i => (hb.cell h.1).trans (h.2 i)⟩

theorem xor_u8 (x y : Int) (hx : 0 ≤ x ∧ x ≤ 255) (hy : 0 ≤ y ∧ y ≤ 255) (hy0 : y ≠ 0) : (0 ≤ bits .xor .u8 x y ∧ bits .xor .u8 x y ≤ 255) ∧ bits .xor .u8 x y ≠ x := by
  rw [u8_xor x y hx.1 (by omega) hy.1 (by omega)]
  have h1 : x.toNat ^^^ y.toNat < 2 ^ 8 := Nat.xor_lt_two_pow (by omega) (by omega)
  refine ⟨by omega, fun e => ?_⟩
  have e1 : x.toNat ^^^ y.toNat = x.toNat := by omega
  have e2 : x.toNat ^^^ (x.toNat ^^^ y.toNat) = y.toNat := by rw [← Nat.xor_assoc, Nat.xor_self, Nat.zero_xor]
  rw [e1, Nat.xor_self] at e2
  omega

theorem set_ne (B : List Int) (k : Nat) (x : Int) (hk : k < B.length) (hx : x ≠ B.getD k 0) : B.set k x ≠ B := by
  intro e
  have := congrArg (fun l => l.getD k 0) e
  simp [List.getD_eq_getElem?_getD, hk] at this hx
  exact hx this

theorem fits_set {zs : List Int} (h : ∀ i, 0 ≤ zs.getD i 0 ∧ zs.getD i 0 ≤ 255) (k : Nat) (u : Int) (hu : 0 ≤ u ∧ u ≤ 255) : ∀ i, 0 ≤ (zs.set k u).getD i 0 ∧ (zs.set k u).getD i 0 ≤ 255 := by
  intro i
  have := h i
  simp only [List.getD_eq_getElem?_getD, List.getElem?_set] at *
  split
  · split
    · simpa using hu
    · simp
  · exact this

theorem bs_set {W : World} {g n k : Nat} {zs : List Int} {u : Int} (h : BS W (some ⟨g, 0, none⟩) n zs) (hk : k < n) (hu : 0 ≤ u ∧ u ≤ 255) : BS (W.setCell ⟨g, k, none⟩ (.int .u8 u)) (some ⟨g, 0, none⟩) n (zs.set k u) := by
  have hl := h.len
  refine ⟨by simpa using hl, fits_set h.fits k u hu, h.room, ?_⟩
  rcases h.cells with h0 | ⟨b, off, e, hc⟩
  · omega
  · cases e
    refine .inr ⟨g, 0, rfl, fun i hi => ?_⟩
    rw [List.length_set] at hi
    have hci := hc i hi
    rw [Nat.zero_add] at hci ⊢
    by_cases hik : i = k
    · subst hik
      rw [World.cell?_setCell_same _ _ _ hci]
      simp [List.getD_eq_getElem?_getD, hi]
    · rw [World.cell?_setCell_other _ _ _ _ (fun e => hik (congrArg Addr.off e).symm), hci]
      simp [List.getD_eq_getElem?_getD, show ¬ k = i from fun e => hik e.symm]

theorem bs_far {W : World} {g g' off n k : Nat} {zs : List Int} {u : Value} (h : BS W (some ⟨g, off, none⟩) n zs) (hg : g' ≠ g) : BS (W.setCell ⟨g', k, none⟩ u) (some ⟨g, off, none⟩) n zs := by
  refine ⟨h.len, h.fits, h.room, ?_⟩
  rcases h.cells with h0 | ⟨b, off', e, hc⟩
  · exact .inl h0
  · cases e
    exact .inr ⟨g, off, rfl, fun i hi => (World.cell?_setCell_other _ _ _ _ (fun e => hg (congrArg Addr.block e))).trans (hc i hi)⟩

theorem AtB.far {W : World} {b g k : Nat} {arr : Array Value} {u : Value} (h : AtB W b arr) (hg : g ≠ b) : AtB (W.setCell ⟨g, k, none⟩ u) b arr :=
  ⟨by simpa using h.1, fun i => (World.cell?_setCell_other _ _ _ _ (fun e => hg (congrArg Addr.block e))).trans (h.2 i)⟩

end Go.Proofs.YtnahhmcmahbnkaaGreatDoor.Nm
