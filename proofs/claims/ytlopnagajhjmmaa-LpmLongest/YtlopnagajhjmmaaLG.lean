/- Table.Find, Get, Len of a trie. Conditions: as said. -/
import Derived.Test.YtlopnagajhjmmaaLF
namespace Go.Proofs.Ytlopnagajhjmmaa
open Go.RowKit Tr
structure Tab (w : World) (tb : Nat) (t : Tr) : Prop where
  root : ∃ rb rv rth rl rr, t = node rb 0#32 0 rv rth rl rr ∧ w.heap[tb]? = some (.cells (tabC (ptr rb) t.ents.length) 59 (0, 0))
  own : Own w t
  wf : t.Wf
  nd : (tb :: t.blocks).Nodup
abbrev Nd := Nat × BitVec 32 × Nat × Int × Bool
/-- The nodes of a way, from its end on. -/
def nodes (C : List Fr) (b : Nat) (p : BitVec 32) (n : Nat) (v : Int) (th : Bool) : List Nd := (b, p, n, v, th) :: C.map fun f => (f.b, f.p, f.n, f.v, f.th)
def nodV (M : List Nd) : List Value := (M.map fun x => ptr x.1).reverse
theorem nodes_val (C : List Fr) (b : Nat) (p : BitVec 32) (n : Nat) (v : Int) (th : Bool) : pathV C ++ [ptr b] = nodV (nodes C b p n v th) := by
  simp [pathV, nodV, nodes, Function.comp_def]
theorem nodes_len (C : List Fr) (b : Nat) (p : BitVec 32) (n : Nat) (v : Int) (th : Bool) : (nodes C b p n v th).length = C.length + 1 := by simp [nodes]
def Lies (w : World) (x : Nd) : Prop := ∃ k0 k1, w.heap[x.1]? = some (.cells (nodC x.2.1 x.2.2.1 x.2.2.2.1 x.2.2.2.2 k0 k1) 57 (0, 0))
theorem ownF_lies {w : World} : ∀ {C : List Fr} {k : Option Nat}, OwnF w C k → ∀ f ∈ C, Lies w (f.b, f.p, f.n, f.v, f.th)
  | f :: C, k, ⟨h1, h2, h3⟩, g, hg => by
    rcases List.mem_cons.1 hg with rfl | hg
    · exact ⟨_, _, h1⟩
    · exact ownF_lies h3 g hg
theorem nodes_lie {w : World} {C : List Fr} {b : Nat} {p : BitVec 32} {n : Nat} {v : Int} {th : Bool} {l r : Tr} (h : Own w (plug C (node b p n v th l r))) : ∀ x ∈ nodes C b p n v th, Lies w x := by
  rw [own_plug] at h
  intro x hx
  rcases List.mem_cons.1 hx with rfl | hx
  · exact ⟨_, _, h.2.1⟩
  · obtain ⟨f, hf, rfl⟩ := List.mem_map.1 hx
    exact ownF_lies h.1 f hf
theorem size3 : (Try.prog.info? 37).map (·.size) = some 3 := by kernel_rfl
def roC (x : Ro) : Array Value := #[.int .u32 x.1.toNat, .int .i64 x.2.1, .int .i64 x.2.2]
theorem ro_one (x : Ro) : (roC x).all (·.oneCell') = true := by simp [roC, Value.oneCell']
theorem ro_size (x : Ro) : (Try.prog.info? 37).map (·.size) = some (roC x).size := size3
def ro0 : Ro := (0#32, 0, 0)
theorem results_route {fn : Func} {p u : Tmp} (h : fn.results = #[.cell p 37, .tmp u]) (tmps : Array Value) (w : World) (g : Nat) (cs : Array Value)
    (hp : tmps.getD p undef = .pointer (some ⟨g, 0, none⟩)) (hg : w.heap[g]? = some (.cells cs 37 (0, 0))) (hs : cs.size = 3) :
    (results fn tmps).run Try.prog w = .ok (.tuple #[.agg cs, tmps.getD u undef]) w := by
  rw [results_cell_tmp h, hp]
  simp only [asAddr, Sem.run_pure, Result.andThen_ok, run_loadVar_row w g 37 37 cs (0, 0) _ hg Try.underlying37 rfl (show (Try.prog.info? 37).map (·.size) = some cs.size by rw [hs]; exact size3)]
def Best (L : List Ro) (ip : BitVec 32) (x : Ro) : Prop := x ∈ L ∧ hasB x.1 x.2.1 ip = true ∧ ∀ y ∈ L, hasB y.1 y.2.1 ip = true → y.2.1 ≤ x.2.1
def NoneHas (L : List Ro) (ip : BitVec 32) : Prop := ∀ y ∈ L, hasB y.1 y.2.1 ip = false
/-- The way's nodes that are there are what has the address, the longest first. -/
theorem nodes_best {t : Tr} {ip : BitVec 32} {m : Nat} {C : List Fr} {b : Nat} {p : BitVec 32} {n : Nat} {v : Int} {th : Bool} {l r : Tr} (hw : t.Wf) (h : WayTo t ip 32 C b p n v th l r) (hs : Stops ip 32 (kidAt ip n l r)) (hm : m = 32)
    {A M : List Nd} {x : Nd} (e : nodes C b p n v th = A ++ x :: M) (hA : ∀ y ∈ A, y.2.2.2.2 = false) (hx : x.2.2.2.2 = true) : Best t.ents ip (x.2.1, x.2.2.1, x.2.2.2.1) := by
  have hw' : (plug C (node b p n v th l r)).Wf := h.t.symm ▸ hw
  have _ := hm
  obtain ⟨r1, r2, r3, r4⟩ := way_rises C b p n v th l r hw'
  have pw : (nodes C b p n v th).Pairwise (fun f g => g.2.2.1 < f.2.2.1) := by
    unfold nodes
    refine List.pairwise_cons.2 ⟨?_, ?_⟩
    · intro y hy; obtain ⟨f, hf, rfl⟩ := List.mem_map.1 hy; exact r3 f hf
    · rw [List.pairwise_map]; exact r4
  have mem : ∀ y ∈ nodes C b p n v th, y.2.2.2.2 = true → (y.2.1, y.2.2.1, y.2.2.2.1) ∈ t.ents ∧ hasB y.2.1 y.2.2.1 ip = true := by
    intro y hy ht
    rw [← h.t, mem_plug]
    rcases List.mem_cons.1 hy with rfl | hy
    · refine ⟨.inl ?_, h.has⟩
      simp only at ht
      simp [ents, ht]
    · obtain ⟨f, hf, rfl⟩ := List.mem_map.1 hy
      exact ⟨.inr (fr_mem hf ht), (h.on f hf).1⟩
  have hin : x ∈ nodes C b p n v th := by rw [e]; simp
  refine ⟨(mem x hin hx).1, (mem x hin hx).2, ?_⟩
  intro y hy hh
  have hy' := hy
  rw [← h.t] at hy'
  have le32 : y.2.1 ≤ 32 := by
    have hr := ents_under t hw
    cases ht : t with
    | nil => rw [ht] at hy; simp [ents] at hy
    | node b0 p0 n0 v0 th0 l0 r0 => exact (hr.1 b0 p0 n0 v0 th0 l0 r0 ht y hy).2.1
  have : ∃ z ∈ nodes C b p n v th, z.2.2.2.2 = true ∧ y = (z.2.1, z.2.2.1, z.2.2.2.1) := by
    rcases cov_all hw' h.on hs hy' hh le32 with ⟨h1, h2⟩ | ⟨f, hf, h1, h2⟩
    · exact ⟨(b, p, n, v, th), by simp [nodes], h1, h2⟩
    · exact ⟨(f.b, f.p, f.n, f.v, f.th), by simp only [nodes, List.mem_cons, List.mem_map]; exact .inr ⟨f, hf, rfl⟩, h1, h2⟩
  obtain ⟨z, hz, hzt, rfl⟩ := this
  rw [e] at hz pw
  rcases List.mem_append.1 hz with hz | hz
  · rw [hA z hz] at hzt; cases hzt
  rcases List.mem_cons.1 hz with rfl | hz
  · exact Nat.le_refl _
  · have := (List.pairwise_append.1 pw).2.1
    have := (List.pairwise_cons.1 this).1 z hz
    show z.2.2.1 ≤ x.2.2.1
    omega
theorem nodes_none {t : Tr} {ip : BitVec 32} {C : List Fr} {b : Nat} {p : BitVec 32} {n : Nat} {v : Int} {th : Bool} {l r : Tr} (hw : t.Wf) (h : WayTo t ip 32 C b p n v th l r) (hs : Stops ip 32 (kidAt ip n l r))
    (hA : ∀ y ∈ nodes C b p n v th, y.2.2.2.2 = false) : NoneHas t.ents ip := by
  have hw' : (plug C (node b p n v th l r)).Wf := h.t.symm ▸ hw
  intro y hy
  cases hh : hasB y.1 y.2.1 ip with
  | false => rfl
  | true =>
    exfalso
    have le32 : y.2.1 ≤ 32 := by
      have hr := ents_under t hw
      cases ht : t with
      | nil => rw [ht] at hy; simp [ents] at hy
      | node b0 p0 n0 v0 th0 l0 r0 => exact (hr.1 b0 p0 n0 v0 th0 l0 r0 ht y hy).2.1
    rw [← h.t] at hy
    rcases cov_all hw' h.on hs hy hh le32 with ⟨h1, h2⟩ | ⟨f, hf, h1, h2⟩
    · have := hA (b, p, n, v, th) (by simp [nodes])
      simp only at this
      rw [h1] at this; cases this
    · have := hA (f.b, f.p, f.n, f.v, f.th) (by simp only [nodes, List.mem_cons, List.mem_map]; exact .inr ⟨f, hf, rfl⟩)
      simp only at this
      rw [h1] at this; cases this
/-- The nodes of the whole way to an address. -/
def IsWay (t : Tr) (ip : BitVec 32) (m : Nat) (N : List Nd) : Prop := ∃ C b p n v th l r, N = nodes C b p n v th ∧ WayTo t ip m C b p n v th l r ∧ Stops ip m (kidAt ip n l r)
/-- What holds at Find's label: the nodes A are not there, M are left. -/
def FindAt (w : World) (tb : Nat) (t : Tr) (ip : BitVec 32) (a' : Act) (w' : World) : Prop :=
  ∃ (A M : List Nd) (g cap : Nat) (cur : Array Value) (u7 u8 u9 u10 u11 u12 u13 u14 u15 u16 u17 u18 u19 u20 u21 u22 u23 u24 u25 u26 u27 u28 u29 u30 u31 u32 u33 u34 u35 u36 u37 : Value),
    a' = { tmps := #[ptr tb, .int .u32 ip.toNat, undef, undef, ptr w.heap.size, .bool false, .slice (some ⟨g, 0, none⟩) M.length cap, u7, u8, u9, u10, u11, u12, u13, u14, u15, u16, u17, u18, u19, u20, u21, u22, u23, u24, u25, u26, u27, u28, u29, u30, u31, u32, u33, u34, u35, u36, u37], defers := [] } ∧ IsWay t ip 32 (A ++ M) ∧ Hid (∀ y ∈ A, y.2.2.2.2 = false) ∧ w'.heap[g]? = some (.cells cur 54 (0, 0)) ∧ (A ++ M).length ≤ cap ∧ cap ≤ maxLen ∧ Hid (∀ i : Nat, i < (A ++ M).length → cur[i]? = (nodV (A ++ M))[i]?) ∧ w'.heap[w.heap.size]? = some (.cells (roC ro0) 37 (0, 0)) ∧ g ≠ w.heap.size ∧ Below w.heap.size w w'
theorem nodV_at (A : List Nd) (x : Nd) (M : List Nd) : (nodV (A ++ x :: M))[M.length]? = some (ptr x.1) := by
  unfold nodV
  rw [List.map_append, List.reverse_append, List.map_cons, List.reverse_cons]
  rw [List.append_assoc, List.getElem?_append_right (by simp)]
  simp
theorem lies_bel {w w' : World} {x : Nd} (h : Lies w x) (hb : Below w.heap.size w w') : Lies w' x := by
  obtain ⟨k0, k1, h⟩ := h
  exact ⟨k0, k1, (hb.block _ (lt_of_heap h)).trans h⟩
set_option maxRecDepth 20000 in
set_option maxHeartbeats 2000000 in
theorem find_any {w : World} {tb : Nat} {t : Tr} (hT : Tab w tb t) (ip : BitVec 32) :
    Calls Try.prog 14 #[ptr tb, .int .u32 ip.toNat] w fun e w' => ((∃ x, e = .returned (.tuple #[.agg (roC x), .bool true]) ∧ Best t.ents ip x) ∨ (e = .returned (.tuple #[.agg (roC ro0), .bool false]) ∧ NoneHas t.ents ip)) ∧ Below w.heap.size w w' := by
  obtain ⟨rb, rv, rth, rl, rr, rfl, ht⟩ := hT.root
  obtain ⟨t, hTr⟩ : ∃ t, t = node rb 0#32 0 rv rth rl rr := ⟨_, rfl⟩
  have hA1 : (w.alloc (.cells (roC ro0) 37)).heap[tb]? = _ := (heap_alloc_old _ _ (lt_of_heap ht)).trans ht
  have HM : Hid _ := isMade_yes hA1
  have HP : Hid _ := path_any hA1 (own_frame hT.own fun b hb => heap_alloc_old _ _ (own_lt hT.own b hb)) hT.wf ip 32 (Nat.le_refl _)
  have hown := hT.own
  have hwf := hT.wf
  rw [← hTr] at HP hown hwf ⊢
  clear hT ht hA1
  go_enter Try.func14, Try.ntmps14
  go_wp2_with fail
  refine scope_jumps 0 (FindAt w tb t ip) (fun a' _ => lenOf (a'.tmps.getD 6 undef)) rfl ?_ ?_
  · rintro a' W ⟨A, M, g, cap, cur, u7, u8, u9, u10, u11, u12, u13, u14, u15, u16, u17, u18, u19, u20, u21, u22, u23, u24, u25, u26, u27, u28, u29, u30, u31, u32, u33, u34, u35, u36, u37, rfl, iw, hA, hg, hcap, hmx, hcur, hB, hgB, bel⟩
    have zb : Try.prog.built 37 [] = some (roC ro0) := by kernel_rfl
    have ZB : Hid _ := zb
    have HB : Hid _ := hB
    unfold maxLen at hmx
    cases M with
    | nil =>
      go_wp2_with (first
        | refine wpList_build_as rfl 37 _ rfl (roC ro0) (by rw [List.map_toArray]; exact ZB.out) ?_
        | refine wpList_store_row rfl 37 _ _ rfl w.heap.size (roC ro0) (roC ro0) 37 rfl rfl HB.out (ro_size _) rfl (ro_one _) ?_
        | fail)
      intro W8 y1 y2 y3 y4
      go_wp2
      simp only [Exit.jump]
      refine bodyPost_ret (results_route (p := 4) (u := 5) rfl _ _ w.heap.size _ rfl y1 rfl) rfl ⟨.inr ⟨rfl, ?_⟩, bel.trans (y4.mono (by omega))⟩
      obtain ⟨C, b, p, n, v, th, l, r, e, wt, st⟩ := iw
      rw [List.append_nil] at e
      exact nodes_none hwf wt st (e ▸ hA.out)
    | cons x M =>
      have hlen : M.length < (A ++ x :: M).length := by simp; omega
      have hce : W.cell? ⟨g, M.length, none⟩ = some (ptr x.1) := (cell_row hg M.length).trans ((hcur.out M.length hlen).trans (nodV_at A x M))
      have hli : Lies W x := by
        obtain ⟨C, b, p, n, v, th, l, r, e, wt, st⟩ := iw
        exact lies_bel (nodes_lie (wt.t.symm ▸ hown) x (e ▸ (by simp))) bel
      obtain ⟨k0, k1, hx⟩ := hli
      obtain ⟨xb, xp, xn, xv, xth⟩ := x
      have hx' : W.heap[xb]? = some (.cells (nodC xp xn xv xth k0 k1) 57 (0, 0)) := hx
      have hc3 : W.cell? ⟨xb, 3, none⟩ = some (.bool xth) := cell_row hx' 3
      have hMl : M.length + 1 ≤ cap := by simp at hcap; omega
      have hMc : (M.length : Int) < (M.length : Int) + 1 := by omega
      have hMd : (M.length : Int) ≤ (cap : Int) := by omega
      have HX : Hid _ := hx'
      have hce' : W.cell? ⟨g, M.length, none⟩ = some (ptr xb) := hce
      clear hce hx hx'
      cases xth
      · go_wp2
        go_step3
        refine ⟨rfl, ⟨A ++ [(xb, xp, xn, xv, false)], M, g, cap, cur, _, _, _, _, _, _, _, _, _, _, _, _, _, _, _, _, _, _, _, _, _, _, _, _, _, _, _, _, _, _, _, rfl, ?_, ?_, hg, ?_, ?_, ?_, HB.out, hgB, bel⟩, ?_⟩
        · rw [List.append_assoc]; exact iw
        · intro y hy
          rcases List.mem_append.1 hy with hy | hy
          · exact hA.out y hy
          · simp at hy; subst hy; rfl
        · rw [List.append_assoc]; exact hcap
        · unfold maxLen; exact hmx
        · intro i hi; rw [List.append_assoc] at hi ⊢; exact hcur.out i hi
        · show M.length < M.length + 1
          omega
      · go_wp2_with (first
          | refine wpList_load_at rfl 37 _ rfl xb 0 3 rfl _ 57 _ HX.out Try.underlying37 rfl rfl size3 ?_
          | refine wpList_store_row rfl 37 _ _ rfl w.heap.size (roC ro0) (roC (xp, xn, xv)) 37 rfl rfl HB.out (ro_size _) rfl (ro_one _) ?_
          | fail)
        intro W8 y1 y2 y3 y4
        go_wp2
        simp only [Exit.jump]
        refine bodyPost_ret (results_route (p := 4) (u := 5) rfl _ _ w.heap.size _ rfl y1 rfl) rfl ⟨.inl ⟨_, rfl, ?_⟩, bel.trans (y4.mono (by omega))⟩
        obtain ⟨C, b, p, n, v, th, l, r, e, wt, st⟩ := iw
        exact nodes_best hwf wt st rfl e.symm hA.out rfl
  · intro HG
    go_wp2_with (first
      | (go_at_call 30; refine Calls.mono HM.out ?_; rintro e w9 ⟨rfl, rfl⟩; skip)
      | (go_at_call 24; refine Calls.mono HP.out ?_; rintro e w9 ⟨C, b, p, n, v, th, l, r, q, rfl, wt, st, oq, bel⟩; skip)
      | fail)
    go_step3
    rename_i K hK
    obtain ⟨g, cap, cur, hq, q1, q2, q3, q4, q5, q6⟩ : ∃ g cap cur, q = .slice (some ⟨g, 0, none⟩) (C.length + 1) cap ∧ (w.alloc (.cells (roC ro0) 37)).heap.size ≤ g ∧ w9.heap[g]? = some (.cells cur 54 (0, 0)) ∧ C.length + 1 ≤ cap ∧ cap ≤ maxLen ∧ cur.size = cap * 1 ∧ cur.toList.take ((C.length + 1) * 1) = pathV C ++ [ptr b] := by
      rcases oq.h.2 with ⟨_, h⟩ | h
      · omega
      · exact h
    subst hq
    have hl : (nodes C b p n v th).length = C.length + 1 := nodes_len _ _ _ _ _ _
    rw [← hl]
    simp at q1
    refine hK _ _ (HG.out _ _ ⟨[], nodes C b p n v th, g, cap, cur, _, _, _, _, _, _, _, _, _, _, _, _, _, _, _, _, _, _, _, _, _, _, _, _, _, _, _, _, _, _, _, rfl, ⟨C, b, p, n, v, th, l, r, rfl, wt, st⟩, ?_, q2, ?_, q4, ?_, (bel.block _ (by simp)).trans (heap_alloc_new _ _), by omega, (below1 w _).trans (bel.mono (by simp))⟩)
    · intro y hy; simp at hy
    · rw [List.nil_append, hl]; exact q3
    · intro i hi
      rw [List.nil_append] at hi ⊢
      rw [← nodes_val, ← q6, hl] at *
      rw [List.getElem?_take, if_pos (by omega), Array.getElem?_toList]
end Go.Proofs.Ytlopnagajhjmmaa
