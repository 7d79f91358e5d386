/- A zone with a list of connections; hold of one more. Conditions: as said. -/
import Derived.Test.YtjjehncnjcepkaaEF
import Derived.Test.YtjjehncnjcepkaaCK
import Derived.Lib.Hide
namespace Go.Proofs.Ytjjehncnjcepkaa
open Go.RowKit
def rows9 (f : Nat → Tup) : List Nat → Nat → List (Tup × Value × Nat)
  | [], _ => []
  | e :: r, i => (f e, .pointer (some ⟨e, 0, none⟩), i) :: rows9 f r (i + 1)
theorem rows9_snoc (f : Nat → Tup) (x : Nat) : ∀ (E : List Nat) (i : Nat), rows9 f (E ++ [x]) i = rows9 f E i ++ [(f x, .pointer (some ⟨x, 0, none⟩), i + E.length)]
  | [], i => rfl
  | e :: r, i => by simp only [List.cons_append, rows9, rows9_snoc f x r (i + 1), List.length_cons]; rw [show i + 1 + r.length = i + (r.length + 1) by omega]
theorem rows9_len (f : Nat → Tup) : ∀ (E : List Nat) (i : Nat), (rows9 f E i).length = E.length
  | [], _ => rfl
  | _ :: r, i => by simp [rows9, rows9_len f r (i + 1)]
theorem rows9_congr {f g : Nat → Tup} : ∀ {E : List Nat} (_ : ∀ e ∈ E, f e = g e) (i : Nat), rows9 f E i = rows9 g E i
  | [], _, _ => rfl
  | e :: r, h, i => by
    have := rows9_congr (E := r) (fun x hx => h x (List.mem_cons_of_mem _ hx)) (i + 1)
    simp [rows9, h e (by simp), this]
def at9 (f : Nat → Tup) (E : List Nat) (t : Tup) : Option Addr := (E.find? fun e => decide (t = f e)).map fun e => ⟨e, 0, none⟩
theorem find_rows9 (f : Nat → Tup) (t : Tup) : ∀ (E : List Nat) (i k : Nat), ((findG t (rows9 f E i) k).map (·.2)).getD (.pointer none) = .pointer (at9 f E t)
  | [], _, _ => rfl
  | e :: r, i, k => by
    by_cases h : t = f e
    · simp [rows9, findG, at9, h]
    · have := find_rows9 f t r (i + 1) (k + 1)
      simpa [rows9, findG, at9, h] using this
theorem none_rows9 (f : Nat → Tup) (t : Tup) : ∀ (E : List Nat) (i k : Nat), at9 f E t = none → findG t (rows9 f E i) k = none
  | [], _, _, _ => rfl
  | e :: r, i, k, h => by
    by_cases h' : t = f e
    · simp [at9, h'] at h
    · have := none_rows9 f t r (i + 1) (k + 1) (by simpa [at9, h'] using h)
      simpa [rows9, findG, h'] using this
theorem look_okT {K : Type} [DecidableEq K] {KT MT ET : TypeId} {kv : K → Value} (hK : KeyK KT kv) (hu : Try.prog.underlying MT = some (.map KT ET)) {w : World} {r c : Nat} {l : List (K × Value × Nat)} (hb : w.heap[r]? = some (.map (entG kv l).toArray c)) (t : K) {i : Nat} {v : Value} (hf : findG t l 0 = some (i, v)) :
    (Instr.lookup MT (.map (some r)) (kv t) true).run Try.prog w = .ok (.tuple #[v, .bool true]) w := by
  simp only [Instr.lookup, Sem.run_bind, run_underlying hu, Result.andThen_ok, MapKept.run_getObj_map hb, Sem.run_pure, hK.check, hK.find, hf]
  simp
structure TZ (w : World) (B tb zb : Nat) (room : Int) (q : Value) (E : List Nat) (z : Int) (O : Nat → Tup) (g1 g2 zs cz : Nat) : Prop where
  qs : QS w B tb zb room q E z O
  zm : w.heap[zb]? = some (.map (entG iv [(z, .agg #[.map (some g1), .map (some g2)], zs)]).toArray cz)
  m1 : w.heap[g1]? = some (.map (entG tv (rows9 O E 0)).toArray E.length)
  m2 : w.heap[g2]? = some (.map (entG tv (rows9 (fun e => turn (O e)) E 0)).toArray E.length)
  n12 : g1 ≠ g2
  nz1 : zb ≠ g1
  nz2 : zb ≠ g2
  bt : B ≤ tb
  bz : B ≤ zb
  b1 : B ≤ g1
  b2 : B ≤ g2
  be : ∀ e ∈ E, B ≤ e
theorem TZ.of {w w' : World} {B tb zb : Nat} {room : Int} {q : Value} {E : List Nat} {z : Int} {O : Nat → Tup} {g1 g2 zs cz : Nat} (h : TZ w B tb zb room q E z O g1 g2 zs cz) (hb : ∀ g, g < w.heap.size → w'.heap[g]? = w.heap[g]?) : TZ w' B tb zb room q E z O g1 g2 zs cz :=
  ⟨h.qs.of hb, (hb _ (lt_of_heap h.zm)).trans h.zm, (hb _ (lt_of_heap h.m1)).trans h.m1, (hb _ (lt_of_heap h.m2)).trans h.m2, h.n12, h.nz1, h.nz2, h.bt, h.bz, h.b1, h.b2, h.be⟩
def upd9 (O : Nat → Tup) (eb : Nat) (o : Tup) (x : Nat) : Tup := if x = eb then o else O x
/-- What one connection more leaves. -/
def More (w w' : World) (B tb zb : Nat) (room : Int) (E : List Nat) (z : Int) (O : Nat → Tup) (g1 g2 zs cz : Nat) (o : Tup) : Prop :=
  ∃ eb q', w.heap.size ≤ eb ∧ TZ w' B tb zb room q' (E ++ [eb]) z (upd9 O eb o) g1 g2 zs cz ∧ Below B w w'
theorem More.from {w w0 w' : World} {B tb zb : Nat} {room : Int} {E : List Nat} {z : Int} {O : Nat → Tup} {g1 g2 zs cz : Nat} {o : Tup} (h : More w w' B tb zb room E z O g1 g2 zs cz o) (hb : Below B w0 w) : More w0 w' B tb zb room E z O g1 g2 zs cz o := by
  obtain ⟨eb, q', a, b, c⟩ := h
  have := hb.size
  exact ⟨eb, q', by omega, b, hb.trans c⟩
set_option linter.unusedSimpArgs false in
set_option maxRecDepth 20000 in
set_option maxHeartbeats 4000000 in
theorem hold_old {w : World} {B tb zb : Nat} {room : Int} {q : Value} {E : List Nat} {z : Int} {O : Nat → Tup} {g1 g2 zs cz : Nat} (h0 : TZ w B tb zb room q E z O g1 g2 zs cz) (o : Tup) (hn : E.length < 100000) (f1 : at9 O E o = none) (f2 : at9 (fun e => turn (O e)) E (turn o) = none) (hB : B ≤ w.heap.size) :
    Calls Try.prog 42 #[.pointer (some ⟨tb, 0, none⟩), .agg (connC z o (turn o) false 30)] w fun e w' => e = .returned (.tuple #[]) ∧ More w w' B tb zb room E z O g1 g2 zs cz o := by
  obtain ⟨cn, hcn⟩ : ∃ cn, connC z o (turn o) false 30 = cn := ⟨_, rfl⟩
  have hc0 : cn[0]? = some (.int .i64 z) := by rw [← hcn]; rfl
  have hc13 : cn.size = 13 := by rw [← hcn]; rfl
  have h := h0.qs.t
  have hz := h0.zm
  have hf : findG z [(z, (.agg #[.map (some g1), .map (some g2)] : Value), zs)] 0 = some (0, .agg #[.map (some g1), .map (some g2)]) := by simp [findG]
  have HT0 : Hid _ := h0
  have HCE : Hid _ := hcn
  have HC13 : Hid _ := hc13
  have HC0 : Hid _ := hc0
  rw [hcn]
  have hlt := lt_of_heap h
  have hlz := lt_of_heap hz
  have htz : tb ≠ zb := fun e => by subst e; rw [h] at hz; cases hz
  have H : Hid _ := h
  have HZ : Hid _ := hz
  have HF : Hid _ := hf
  have HF1 : Hid _ := f1
  have HF2 : Hid _ := f2
  have HN9 : Hid _ := hn
  have A0 : Hid _ := heap_alloc_new w (.cells cn 51)
  have key : ∀ W, Below w.heap.size w W → W.heap[w.heap.size]? = some (.cells cn 51 (0, 0)) → W.cell? ⟨tb, 2, none⟩ = some (.map (some zb)) ∧ W.cell? ⟨w.heap.size, 0, none⟩ = some (.int .i64 z) ∧ W.heap[zb]? = some (.map (entG iv [(z, .agg #[.map (some g1), .map (some g2)], zs)]).toArray cz) := fun W hb hc =>
    ⟨cell_row ((hb.block _ hlt).trans H.out) 2, (cell_row hc 0).trans HC0.out, (hb.block _ hlz).trans HZ.out⟩
  have KC : Hid _ := key
  clear hcn hc0 hc13 h0 h hz hf key f1 f2 hn
  go_enter Try.func42, Try.ntmps42
  go_wp2_with fail
  refine wp_region_held_drew (S := (fun W => W.cell? ⟨tb, 2, none⟩ = some (.map (some zb)) ∧ W.cell? ⟨w.heap.size, 0, none⟩ = some (.int .i64 z) ∧ W.heap[zb]? = some (.map (entG iv [(z, .agg #[.map (some g1), .map (some g2)], zs)]).toArray cz))) (by kernel_rfl) ?_ (fun hHeld => ?_)
  · exact KC.out _ (below1 w _).drew A0.out
  refine wpAnyH_take (i := 0) (v := ?_) rfl (by kernel_rfl) (by kernel_rfl) (by kernel_rfl) (fun _ _ _ h => h) (Or.inl ⟨by rfl, ?_⟩) (by assumption) ?_
  rotate_left
  · (intro w hSw; (try dsimp only at hSw); go_simp; try with_reducible rfl)
  try simp only [List.getElem_toArray, List.getElem_cons_zero, List.getElem_cons_succ, Act.put, List.setIfInBounds_toArray, List.set_cons_zero, List.set_cons_succ]
  refine wpAnyH_take (i := 1) (v := ?_) rfl (by kernel_rfl) (by kernel_rfl) (by kernel_rfl) (fun _ _ _ h => h) (Or.inl ⟨by rfl, ?_⟩) (by assumption) ?_
  rotate_left
  · (intro w hSw; (try dsimp only at hSw); go_simp; try with_reducible rfl)
  try simp only [List.getElem_toArray, List.getElem_cons_zero, List.getElem_cons_succ, Act.put, List.setIfInBounds_toArray, List.set_cons_zero, List.set_cons_succ]
  refine wpAnyH_take (i := 2) (v := ?_) rfl (by kernel_rfl) (by kernel_rfl) (by kernel_rfl) (fun _ _ _ h => h) (Or.inl ⟨by rfl, ?_⟩) (by assumption) ?_
  rotate_left
  · (intro w hSw; (try dsimp only at hSw); go_simp; try with_reducible rfl)
  try simp only [List.getElem_toArray, List.getElem_cons_zero, List.getElem_cons_succ, Act.put, List.setIfInBounds_toArray, List.set_cons_zero, List.set_cons_succ]
  refine wpAnyH_take (i := 3) (v := ?_) rfl (by kernel_rfl) (by kernel_rfl) (by kernel_rfl) (fun _ _ _ h => h) (Or.inl ⟨by rfl, ?_⟩) (by assumption) ?_
  rotate_left
  · (intro w hSw; (try dsimp only at hSw); go_simp; try with_reducible rfl)
  try simp only [List.getElem_toArray, List.getElem_cons_zero, List.getElem_cons_succ, Act.put, List.setIfInBounds_toArray, List.set_cons_zero, List.set_cons_succ]
  refine wpAnyH_take (i := 4) (v := ?_) rfl (by kernel_rfl) (by kernel_rfl) (by kernel_rfl) (fun _ _ _ h => h) (Or.inl ⟨by rfl, ?_⟩) (by assumption) ?_
  rotate_left
  · (intro w hSw; (try dsimp only at hSw); go_simp; try with_reducible rfl)
  try simp only [List.getElem_toArray, List.getElem_cons_zero, List.getElem_cons_succ, Act.put, List.setIfInBounds_toArray, List.set_cons_zero, List.set_cons_succ]
  refine wpAnyH_take (i := 5) (v := ?_) rfl (by kernel_rfl) (by kernel_rfl) (by kernel_rfl) (fun _ _ _ h => h) (Or.inl ⟨by rfl, ?_⟩) (by assumption) ?_
  rotate_left
  · (intro w hSw; (try dsimp only at hSw); go_simp; try with_reducible rfl)
  try simp only [List.getElem_toArray, List.getElem_cons_zero, List.getElem_cons_succ, Act.put, List.setIfInBounds_toArray, List.set_cons_zero, List.set_cons_succ]
  refine wpAnyH_take (i := 6) (v := .tuple #[.agg #[.map (some g1), .map (some g2)], .bool true]) rfl (by kernel_rfl) (by kernel_rfl) (by kernel_rfl) (fun _ _ _ h => h) (yields_lookup2 (by rfl) 61 _ _ rfl (.map (some zb)) (iv z) _ rfl rfl (fun W h => look_okT intK Try.underlying61 h.2.2 z HF.out)) (by assumption) ?_
  try simp only [List.getElem_toArray, List.getElem_cons_zero, List.getElem_cons_succ, Act.put, List.setIfInBounds_toArray, List.set_cons_zero, List.set_cons_succ]
  refine wpAnyH_take (i := 7) (v := ?_) rfl (by kernel_rfl) (by kernel_rfl) (by kernel_rfl) (fun _ _ _ h => h) (Or.inl ⟨by rfl, ?_⟩) (by assumption) ?_
  rotate_left
  · (intro w hSw; (try dsimp only at hSw); go_simp; try with_reducible rfl)
  try simp only [List.getElem_toArray, List.getElem_cons_zero, List.getElem_cons_succ, Act.put, List.setIfInBounds_toArray, List.set_cons_zero, List.set_cons_succ]
  refine wpAnyH_take (i := 8) (v := ?_) rfl (by kernel_rfl) (by kernel_rfl) (by kernel_rfl) (fun _ _ _ h => h) (Or.inl ⟨by rfl, ?_⟩) (by assumption) ?_
  rotate_left
  · (intro w hSw; (try dsimp only at hSw); go_simp; try with_reducible rfl)
  try simp only [List.getElem_toArray, List.getElem_cons_zero, List.getElem_cons_succ, Act.put, List.setIfInBounds_toArray, List.set_cons_zero, List.set_cons_succ]
  refine wpAnyH_take (i := 9) (v := ?_) rfl (by kernel_rfl) (by kernel_rfl) (by kernel_rfl) (fun _ _ _ h => h) (Or.inl ⟨by rfl, ?_⟩) (by assumption) ?_
  rotate_left
  · (intro w hSw; (try dsimp only at hSw); go_simp; try with_reducible rfl)
  try simp only [List.getElem_toArray, List.getElem_cons_zero, List.getElem_cons_succ, Act.put, List.setIfInBounds_toArray, List.set_cons_zero, List.set_cons_succ]
  refine wpAnyH_ready (rs := [10]) (by kernel_rfl) (by simp) ?_
  refine AllReadyH.cons (o := _) rfl (fun K hK => ?_) AllReadyH.nil
  go_simp
  have B0 : Hid (((w.alloc (.cells cn 51)).alloc (.cells #[.map none, .map none] 60)).drew.heap[w.heap.size]? = some (.cells cn 51 (0, 0))) := two_first _ _ _
  have B1 : Hid (((w.alloc (.cells cn 51)).alloc (.cells #[.map none, .map none] 60)).drew.heap[w.heap.size + 1]? = some (.cells #[.map none, .map none] 60 (0, 0))) := two_last _ _ _
  have BB : Hid (Below w.heap.size w ((w.alloc (.cells cn 51)).alloc (.cells #[.map none, .map none] 60)).drew) := (below2 _ _ _).drew
  refine hK.out _ _ (KC.out _ BB.out B0.out) (fun hHeld2 => ?_)
  clear hK K hHeld hHeld2
  try simp only [List.getElem_toArray, List.getElem_cons_zero, List.getElem_cons_succ, Act.put, List.setIfInBounds_toArray, List.set_cons_zero, List.set_cons_succ]
  refine wpAnyH_ready (rs := [11]) (by kernel_rfl) (by simp) ?_
  refine AllReadyH.cons (o := _) rfl (fun K hK => ?_) AllReadyH.nil
  refine wp_store_row 60 _ _ rfl (w.heap.size + 1) #[.map none, .map none] #[.map (some g1), .map (some g2)] 60 rfl rfl B1.out size2 rfl (by kernel_rfl) ?_
  intro W1 z1 z2 z3 z4
  have C0 : Hid (W1.heap[w.heap.size]? = some (.cells cn 51 (0, 0))) := (z2 _ (by omega)).trans B0.out
  have CB : Hid (Below w.heap.size w W1) := BB.out.trans (z4.mono (by omega))
  have C1 : Hid _ := z1
  clear z1 z2 z3 z4
  refine hK.out _ _ (KC.out _ CB.out C0.out) (fun hHeld => ?_)
  clear hK K
  try simp only [List.getElem_toArray, List.getElem_cons_zero, List.getElem_cons_succ, Act.put, List.setIfInBounds_toArray, List.set_cons_zero, List.set_cons_succ]
  refine wpAnyH_take (i := 12) (v := ?_) rfl (by kernel_rfl) (by kernel_rfl) (by kernel_rfl) (fun _ _ _ h => h) (Or.inl ⟨by rfl, ?_⟩) (by assumption) ?_
  rotate_left
  · (intro w hSw; (try dsimp only at hSw); go_simp; try with_reducible rfl)
  try simp only [List.getElem_toArray, List.getElem_cons_zero, List.getElem_cons_succ, Act.put, List.setIfInBounds_toArray, List.set_cons_zero, List.set_cons_succ]
  clear hHeld B0 B1 BB
  refine wpAnyH_done (by kernel_rfl) ?_ _
  have C1a : Hid ((W1.alloc (.cells (entC z o (turn o) false 30 0) 68)).heap[w.heap.size + 1]? = some (.cells #[.map (some g1), .map (some g2)] 60 (0, 0))) := (heap_alloc_old _ _ (lt_of_heap C1.out)).trans C1.out
  go_wp2_with (first
    | refine wpList_load_row rfl 51 _ rfl w.heap.size rfl 51 cn (0, 0) _ C0.out Try.underlying51 rfl (by rw [HC13.out]; exact size13) ?_
    | refine wpList_build_as rfl 68 _ rfl (entC z o (turn o) false 30 0) (by rw [List.map_toArray]; show Try.prog.built 68 [(0, .agg cn)] = _; rw [← HCE.out]; exact ent_built z o (turn o) false 30) ?_
    | refine wpList_load_row rfl 60 _ rfl (w.heap.size + 1) rfl 60 #[.map (some g1), .map (some g2)] (0, 0) _ C1a.out Try.underlying60 rfl size2 ?_
    | fail)
  have T1 : Hid (TZ W1 B tb zb room q E z O g1 g2 zs cz) := HT0.out.of CB.out.block
  have hls := CB.out.size
  have hW1 : w.heap.size + 1 < W1.heap.size := lt_of_heap C1.out
  generalize hV : W1.heap.size = eb at *
  have T2 : Hid (TZ (W1.alloc (.cells (entC z o (turn o) false 30 0) 68)) B tb zb room q E z O g1 g2 zs cz) := T1.out.of (fun g hg => heap_alloc_old _ _ hg)
  have X3 : Hid ((W1.alloc (.cells (entC z o (turn o) false 30 0) 68)).heap[eb]? = some (.cells (entC z o (turn o) false 30 0) 68 (0, 0))) := by show _ = _; rw [← hV]; exact heap_alloc_new _ _
  have hlo : ∀ {k : Nat} {x : Obj}, w.heap[k]? = some x → k ≠ eb := fun {k x} hk => by have := lt_of_heap hk; omega
  have hne : eb ∉ E := fun hm => by obtain ⟨i, hi⟩ := mem_get.1 hm; exact hlo (HT0.out.qs.en i eb hi) rfl
  have n1 : g1 ≠ eb := hlo HT0.out.m1
  have n2 : g2 ≠ eb := hlo HT0.out.m2
  have nzb : zb ≠ eb := hlo HT0.out.zm
  have hs2 : (W1.alloc (.cells (entC z o (turn o) false 30 0) 68)).heap.size = eb + 1 := by simp [hV]
  refine (zadd_any g1 g2 E.length E.length eb (rows9 O E 0) (rows9 (fun e => turn (O e)) E 0) z o (turn o) false 30 0 _ HT0.out.n12 T2.out.m1 T2.out.m2 X3.out (none_rows9 _ _ _ _ _ HF1.out) (none_rows9 _ _ _ _ _ HF2.out) B HT0.out.b1 HT0.out.b2 (by omega)).mono ?_
  rintro e U ⟨rfl, u1, u2, uo, ub⟩
  have uo' : ∀ {k : Nat} {x : Obj}, (W1.alloc (.cells (entC z o (turn o) false 30 0) 68)).heap[k]? = some x → k ≠ g1 → k ≠ g2 → U.heap[k]? = some x := fun {k x} hk a b => (uo k (lt_of_heap hk) a b).trans hk
  have ue : U.heap[eb]? = some (.cells (entC z o (turn o) false 30 0) 68 (0, 0)) := uo' X3.out n1.symm n2.symm
  have nc : ∀ {k : Nat} {A : Array Value} {t : TypeId}, (W1.alloc (.cells (entC z o (turn o) false 30 0) 68)).heap[k]? = some (.cells A t (0, 0)) → k ≠ g1 ∧ k ≠ g2 := fun {k A t} hk => ⟨ne_map hk T2.out.m1, ne_map hk T2.out.m2⟩
  have hup : ∀ x ∈ E, upd9 O eb o x = O x := fun x hx => by unfold upd9; exact if_neg (fun p => by subst p; exact hne hx)
  have hue : upd9 O eb o eb = o := by simp [upd9]
  have uqs : QS U B tb zb room q E z (upd9 O eb o) := by
    have s := T2.out.qs
    refine ⟨uo' s.t (nc s.t).1 (nc s.t).2, ⟨s.own.1, ?_⟩, s.room, fun i x hi => ?_⟩
    · rcases s.own.2 with h' | ⟨g, cap, cur, e1, e2, e3, e4⟩
      · exact .inl h'
      · exact .inr ⟨g, cap, cur, e1, e2, uo' e3 (nc e3).1 (nc e3).2, e4⟩
    · rw [hup x (mem_get.2 ⟨i, hi⟩)]
      have m := s.en i x hi
      exact uo' m (nc m).1 (nc m).2
  have uz := uo' T2.out.zm HT0.out.nz1 HT0.out.nz2
  have hBU : B ≤ U.heap.size := by have := ub.size; omega
  have hBe : B ≤ eb := by omega
  have UQ : Hid _ := qadd_any (eb := eb) uqs HN9.out (by rw [hue]; exact ue) hne hBU HT0.out.bt hBe
  have hn1 : some g1 ≠ q.ownBlock := fun e => own_apart_map uqs.own u1 e.symm
  have hn2 : some g2 ≠ q.ownBlock := fun e => own_apart_map uqs.own u2 e.symm
  have hnz : some zb ≠ q.ownBlock := fun e => own_apart_map uqs.own uz e.symm
  have nt1 : g1 ≠ tb := (ne_map HT0.out.qs.t HT0.out.m1).symm
  have nt2 : g2 ≠ tb := (ne_map HT0.out.qs.t HT0.out.m2).symm
  have U1 : Hid _ := u1
  have U2 : Hid _ := u2
  have UZ : Hid _ := uz
  have UB : Hid (Below B w U) := ((CB.out.mono hB).trans ((below1 W1 _).mono (by omega))).trans ub
  have HUP : Hid _ := hup
  have HUE : Hid _ := hue
  clear u1 u2 uo ub uo' ue nc hup hue uqs uz C0 C1 C1a CB X3 T1 T2 A0 KC hlo
  go_wp2_with fail
  refine Calls.mono UQ.out ?_
  rintro e W9 ⟨rfl, k9⟩
  have K9 : Hid _ := k9
  clear k9 UQ
  go_wp2
  go_end0
  obtain ⟨q', s9, n9, b9⟩ := K9.out
  have hl : (E ++ [eb]).length = E.length + 1 := by simp
  refine ⟨rfl, eb, q', by omega, ⟨s9, ?_, ?_, ?_, HT0.out.n12, HT0.out.nz1, HT0.out.nz2, HT0.out.bt, HT0.out.bz, HT0.out.b1, HT0.out.b2, ?_⟩, UB.out.trans b9⟩
  · exact (n9 zb (lt_of_heap UZ.out) (Ne.symm htz) nzb hnz).trans UZ.out
  · rw [rows9_snoc, HUE.out, rows9_congr HUP.out, hl, Nat.zero_add]
    exact (n9 g1 (lt_of_heap U1.out) nt1 n1 hn1).trans U1.out
  · rw [rows9_snoc, HUE.out, rows9_congr (g := fun e => turn (O e)) (fun x hx => by rw [HUP.out x hx]), hl, Nat.zero_add]
    exact (n9 g2 (lt_of_heap U2.out) nt2 n2 hn2).trans U2.out
  · intro x hx
    rcases List.mem_append.1 hx with hx | hx
    · exact HT0.out.be x hx
    · simp at hx; subst hx; exact hBe
end Go.Proofs.Ytjjehncnjcepkaa
