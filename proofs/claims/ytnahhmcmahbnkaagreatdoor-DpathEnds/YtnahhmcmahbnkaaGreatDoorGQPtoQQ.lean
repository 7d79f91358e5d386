/- Find. Conditions: as said. -/
import Derived.Test.YtnahhmcmahbnkaaGreatDoorGQNtoQO
import Derived.Lib.Hide
namespace Go.Proofs.YtnahhmcmahbnkaaGreatDoor
open Go.RowKit
theorem cmpI_neg (a b : Int) : cmpI a b < 0 ↔ a < b := by unfold cmpI; split <;> (try split) <;> omega
theorem cmpI_zero (a b : Int) : cmpI a b = 0 ↔ a = b := by unfold cmpI; split <;> (try split) <;> omega
theorem orI_neg (c : Int) (r : List Int) : orI (c :: r) < 0 ↔ c < 0 ∨ (c = 0 ∧ orI r < 0) := by
  have e : orI (c :: r) = if c = 0 then orI r else c := rfl
  rw [e]
  by_cases h : c = 0
  · simp [h]
  · simp [h]
theorem orI_nil : ¬ orI [] < 0 := by show ¬ (0 : Int) < 0; omega
theorem ordI_neg (p a q b : Int) : ordI p a q b < 0 ↔ q < p ∨ (q = p ∧ a < b) := by
  unfold ordI
  simp only [orI_neg, cmpI_neg, cmpI_zero, orI_nil, and_false, or_false]
theorem EntAt.one {w : World} {e : Nat} {p id q b : Int} {ts us : List Tm} (h : EntAt w e p id ts) (h2 : EntAt w e q b us) : p = q ∧ id = b := by
  obtain ⟨s, tb, at_, h1, _⟩ := h
  obtain ⟨s2, tb2, at2, h3, _⟩ := h2
  rw [h1] at h3
  injection h3 with h3
  injection h3 with h3 _ _
  have e0 := congrArg (fun A : Array Value => A[0]?) h3
  have e2 := congrArg (fun A : Array Value => A[2]?) h3
  simp at e0 e2
  exact ⟨e0, e2⟩
theorem Ahead.trans {w : World} {x y z : Nat} (h : Ahead w x y) (h2 : Ahead w y z) : Ahead w x z := by
  obtain ⟨p, a, ts, q, b, us, h3, h4, h5⟩ := h
  obtain ⟨p', a', ts', q', b', us', h6, h7, h8⟩ := h2
  obtain ⟨rfl, rfl⟩ := h4.one h6
  refine ⟨p, a, ts, q', b', us', h3, h7, ?_⟩
  rw [ordI_neg] at *
  omega
theorem Ahead.irrefl {w : World} {x : Nat} (h : Ahead w x x) : False := by
  obtain ⟨p, a, ts, q, b, us, h3, h4, h5⟩ := h
  obtain ⟨rfl, rfl⟩ := h3.one h4
  rw [ordI_neg] at h5
  omega
theorem FirstR.back {w w' : World} {cs : Array Value} {x : ByteArray × Value × Nat} {sh : List Tm} {lq : List (ByteArray × Value × Nat)} {r : Option Addr} (h : FirstR w' cs sh lq r) (ht : TupOk w x sh lq) (hb : Below w.heap.size w w') : FirstR w cs sh lq r := by
  rcases h with h | ⟨zs, h1, h2 | ⟨i, v, e, h3, h4, h5⟩⟩
  · exact .inl h
  · exact .inr ⟨zs, h1, .inl h2⟩
  · obtain ⟨b9, _, hb9⟩ := findG_at h3
    obtain ⟨_, _, _, _, _, _, _, _, _, _, _, h7⟩ := ht
    obtain ⟨e0, f1, _⟩ := h7 _ (List.mem_of_getElem? hb9)
    dsimp only at f1
    have := FirstQ.back f1 h4 hb
    subst this
    exact .inr ⟨zs, h1, .inr ⟨i, v, e, h3, f1, h5⟩⟩
theorem FirstR.ent {w : World} {cs : Array Value} {x : ByteArray × Value × Nat} {sh : List Tm} {lq : List (ByteArray × Value × Nat)} {e : Nat} (h : FirstR w cs sh lq (some ⟨e, 0, none⟩)) (ht : TupOk w x sh lq) : ∃ p id ts, EntAt w e p id ts := by
  rcases h with ⟨_, h⟩ | ⟨zs, h1, ⟨_, h2⟩ | ⟨i, v, e', h3, h4, h5⟩⟩
  · cases h
  · cases h2
  · cases h5
    obtain ⟨b9, _, hb9⟩ := findG_at h3
    obtain ⟨_, _, _, _, _, _, _, _, _, _, _, h7⟩ := ht
    obtain ⟨e0, f1, q⟩ := h7 _ (List.mem_of_getElem? hb9)
    dsimp only at f1
    have := FirstQ.back f1 h4 (Below.refl _ _)
    subst this
    exact q
theorem FirstR.form {w : World} {cs : Array Value} {sh : List Tm} {lq : List (ByteArray × Value × Nat)} {r : Option Addr} (h : FirstR w cs sh lq r) : r = none ∨ ∃ e, r = some ⟨e, 0, none⟩ := by
  rcases h with ⟨_, h⟩ | ⟨zs, h1, ⟨_, h2⟩ | ⟨i, v, e', h3, h4, h5⟩⟩
  · exact .inl h
  · exact .inl h2
  · exact .inr ⟨e', h5⟩
theorem FirstR.one {w : World} {cs : Array Value} {sh : List Tm} {lq : List (ByteArray × Value × Nat)} {r r' : Option Addr} (h : FirstR w cs sh lq r) (h2 : FirstR w cs sh lq r') : r = r' := by
  rcases h with ⟨h1, rfl⟩ | ⟨zs, h1, h3⟩
  · rcases h2 with ⟨_, rfl⟩ | ⟨zs2, h4, _⟩
    · rfl
    · rw [h1] at h4; cases h4
  · rcases h2 with ⟨h4, _⟩ | ⟨zs2, h4, h5⟩
    · rw [h1] at h4; cases h4
    · rw [h1] at h4
      cases h4
      rcases h3 with ⟨h6, rfl⟩ | ⟨i, v, e, h6, h7, rfl⟩
      · rcases h5 with ⟨_, rfl⟩ | ⟨i', v', e', h8, _⟩
        · rfl
        · rw [h6] at h8; cases h8
      · rcases h5 with ⟨h8, _⟩ | ⟨i', v', e', h8, h9, rfl⟩
        · rw [h6] at h8; cases h8
        · rw [h6] at h8
          cases h8
          rw [FirstQ.back h7 h9 (Below.refl _ _)]
theorem nodup_eq {K : Type} : ∀ {l : List (K × Value × Nat)} (_ : (l.map (·.2.2)).Nodup) {x y : K × Value × Nat}, x ∈ l → y ∈ l → x.2.2 = y.2.2 → x = y
  | [], _, _, _, h, _, _ => by simp at h
  | z :: r, hn, x, y, hx, hy, e => by
    rw [List.map_cons, List.nodup_cons] at hn
    rcases List.mem_cons.1 hx with h1 | h1
    · rcases List.mem_cons.1 hy with h2 | h2
      · rw [h1, h2]
      · have h9 := List.mem_map_of_mem (f := fun z : K × Value × Nat => z.2.2) h2
        rw [← e, h1] at h9
        exact absurd h9 hn.1
    · rcases List.mem_cons.1 hy with h2 | h2
      · have h9 := List.mem_map_of_mem (f := fun z : K × Value × Nat => z.2.2) h1
        rw [e, h2] at h9
        exact absurd h9 hn.1
      · exact nodup_eq hn.2 h1 h2 e
section
variable {w : World} {cs : Array Value} {sh : ByteArray × Value × Nat → List Tm} {lq : ByteArray × Value × Nat → List (ByteArray × Value × Nat)} {l : List (ByteArray × Value × Nat)} {seen : Array Nat} {x : ByteArray × Value × Nat}
theorem seen_push {y b : Nat} (h : (seen.push b).contains y = true) : seen.contains y = true ∨ y = b := by
  rw [contains_push] at h
  simpa using h
theorem seen_old {y b : Nat} (h : seen.contains y = true) : (seen.push b).contains y = true := by rw [contains_push, h]; rfl
theorem seen_new (b : Nat) : (seen.push b).contains b = true := by rw [contains_push]; simp
/-- A tuple that has nothing to say. -/
theorem Best.skip {r : Option Nat} (h : Best w cs sh lq l seen r) (hnb : (l.map (·.2.2)).Nodup) (hx : x ∈ l) (hf : FirstR w cs (sh x) (lq x) none) : Best w cs sh lq l (seen.push x.2.2) r := by
  refine ⟨fun y hy hs e' he => ?_, fun e he => ?_⟩
  · rcases seen_push hs with h1 | h1
    · exact h.1 y hy h1 e' he
    · obtain rfl : y = x := nodup_eq hnb hy hx h1
      have := hf.one he
      cases this
  · obtain ⟨y, hy, h1, h2⟩ := h.2 e he
    exact ⟨y, hy, seen_old h1, h2⟩
/-- A tuple whose first one is now the first one. -/
theorem Best.take {r : Option Nat} {e : Nat} (h : Best w cs sh lq l seen r) (hnb : (l.map (·.2.2)).Nodup) (hx : x ∈ l) (hf : FirstR w cs (sh x) (lq x) (some ⟨e, 0, none⟩)) (hr : ∀ e0, r = some e0 → Ahead w e e0) : Best w cs sh lq l (seen.push x.2.2) (some e) := by
  refine ⟨fun y hy hs e' he => ?_, fun e0 he => ?_⟩
  · rcases seen_push hs with h1 | h1
    · obtain ⟨e0, h2, h3⟩ := h.1 y hy h1 e' he
      exact ⟨e, rfl, fun h4 => h3 (h4.trans (hr e0 h2))⟩
    · obtain rfl : y = x := nodup_eq hnb hy hx h1
      have := hf.one he
      cases this
      exact ⟨e, rfl, fun h4 => h4.irrefl⟩
  · cases he
    exact ⟨x, hx, seen_new _, hf⟩
/-- A tuple whose first one is not ahead. -/
theorem Best.leave {e0 e : Nat} (h : Best w cs sh lq l seen (some e0)) (hnb : (l.map (·.2.2)).Nodup) (hx : x ∈ l) (hf : FirstR w cs (sh x) (lq x) (some ⟨e, 0, none⟩)) (hr : ¬ Ahead w e e0) : Best w cs sh lq l (seen.push x.2.2) (some e0) := by
  refine ⟨fun y hy hs e' he => ?_, fun e1 he => ?_⟩
  · rcases seen_push hs with h1 | h1
    · exact h.1 y hy h1 e' he
    · obtain rfl : y = x := nodup_eq hnb hy hx h1
      have := hf.one he
      cases this
      exact ⟨e0, rfl, hr⟩
  · obtain ⟨y, hy, h1, h2⟩ := h.2 e1 he
    exact ⟨y, hy, seen_old h1, h2⟩
end
end Go.Proofs.YtnahhmcmahbnkaaGreatDoor
/- Find: the walk. Conditions: as said. -/
namespace Go.Proofs.YtnahhmcmahbnkaaGreatDoor
open Go.RowKit
theorem results_rule {fn : Func} {p u : Tmp} (h : fn.results = #[.cell p 106, .tmp u]) (tmps : Array Value) (w : World) (g : Nat) (cs : Array Value)
    (hp : tmps.getD p undef = .pointer (some ⟨g, 0, none⟩)) (hg : w.heap[g]? = some (.cells cs 106 (0, 0))) (hs : cs.size = 3) :
    (results fn tmps).run Tryz.prog w = .ok (.tuple #[.agg cs, tmps.getD u undef]) w := by
  rw [results_cell_tmp h, hp]
  simp only [asAddr, Sem.run_pure, Result.andThen_ok, run_loadVar_row w g 106 106 cs (0, 0) _ hg Tryz.underlying106 rfl (by rw [hs]; exact size3r)]
abbrev ruZ : Array Value := ruC 0 (.slice none 0 0) 0
/-- What Find answers. -/
def FindA (w w' : World) (e : Ending) : Option Nat → Prop
  | none => e = .returned (.tuple #[.agg ruZ, .bool false])
  | some e0 => ∃ p id ts y, EntAt w e0 p id ts ∧ e = .returned (.tuple #[.agg (ruC p y id), .bool true]) ∧ TV w' y ts
theorem build_rule0 : Tryz.prog.built 106 [] = some ruZ := by kernel_rfl
theorem eql_pent (a : Addr) (W : World) : (binOp .eql 146 (.pointer (some a)) (.pointer none)).run Tryz.prog W = .ok (.bool false) W := by
  first | kernel_rfl | simp [binOp, go_sem]
theorem eql_pent0 (W : World) : (binOp .eql 146 (.pointer none) (.pointer none)).run Tryz.prog W = .ok (.bool true) W := by
  first | kernel_rfl | simp [binOp, go_sem]
theorem yields_loadE {ops : Array Oper} {S : World → Prop} {op : Oper} {a : Act} (hw : Region.wanted op (yielded ops a.tmps) = true) (x : Operand) (ho : op.op = .load 106 x)
    (b : Nat) (hx : a.eval x = .pointer (some ⟨b, 0, none⟩)) (p id : Int) (s : Value) (tb : Nat) (at_ : Int) (hS : ∀ w, S w → w.heap[b]? = some (.cells (enC p s id tb at_) 151 (0, 0))) : YieldsIf Tryz.prog ops S op (.agg (ruC p s id)) a := by
  have := yieldsIf_load_mid (P := Tryz.prog) (ops := ops) (S := S) (op := op) (a := a) hw 106 x ho b 0 hx (ruC p s id).toList _ (fun w hw' => World.rangeAt_of_block (hS w hw') 0 3) Tryz.underlying106 rfl size3r
  simpa using this
set_option linter.unusedSimpArgs false in
set_option maxRecDepth 100000 in
set_option maxHeartbeats 8000000 in
theorem find_any {w : World} {B cb rb tm cr ct : Nat} {lr : List (Int × Value × Nat)} {lt : List (ByteArray × Value × Nat)} (hc : Cl w B cb rb tm cr ct lr lt) (cs : Array Value) (hst : St cs)
    (shf : ByteArray × Value × Nat → List Tm) (lqf : ByteArray × Value × Nat → List (ByteArray × Value × Nat)) (htu : ∀ x ∈ lt, TupOk w x (shf x) (lqf x)) (hborn : ∀ x ∈ lt, x.2.2 < ct) (hnb : (lt.map (·.2.2)).Nodup) :
    Calls Tryz.prog 36 #[.pointer (some ⟨cb, 0, none⟩), .agg cs] w fun e w' => (∃ seen r, (∀ x ∈ lt, seen.contains x.2.2 = true) ∧ Best w cs shf lqf lt seen r ∧ FindA w w' e r) ∧ Below w.heap.size w w' := by
  have b0 := below2 w (.cells cs 38) (.cells ruZ 106)
  have HI : Hid _ := isMade_yes (hc.of b0).c
  have HCL : Hid _ := hc
  have HTU : Hid _ := htu
  have HBN : Hid _ := hborn
  have HNB : Hid _ := hnb
  have HIS : Hid _ := info_size hst.size
  have S0 : Hid _ := two_first w (.cells cs 38) (.cells ruZ 106)
  have Z0 : Hid _ := two_last w (.cells cs 38) (.cells ruZ 106)
  have B0 : Hid _ := b0
  have HBO : Hid _ := bitsOf_any cs ((w.alloc (.cells cs 38)).alloc (.cells ruZ 106))
  have hsz0 : ((w.alloc (.cells cs 38)).alloc (.cells ruZ 106)).heap.size = w.heap.size + 2 := by simp
  have HZ0 : Hid _ := hsz0
  clear hc htu hborn hnb b0 hsz0
  go_enter Tryz.func36, Tryz.ntmps36
  go_wp2_with fail
  refine Calls.mono HI.out ?_
  rintro e W0 ⟨rfl, hw0⟩
  rw [hw0]
  clear hw0 HI
  go_wp2_with (first
    | refine wpList_load_row rfl 38 _ rfl w.heap.size rfl 38 cs (0, 0) _ S0.out Tryz.underlying38 rfl HIS.out ?_
    | fail)
  refine Calls.mono HBO.out ?_
  rintro e W1 ⟨rfl, hr1, hb1⟩
  rw [HZ0.out] at hr1 ⊢
  have Z1 : Hid (W1.heap[w.heap.size + 1]? = some (.cells ruZ 106 (0, 0))) := (hb1.block _ (by rw [HZ0.out]; omega)).trans Z0.out
  have B1 : Hid (Below w.heap.size w W1) := B0.out.trans (hb1.mono B0.out.size)
  have R1 : Hid _ := hr1
  have m1 : W1.heap[tm]? = some (.map (entG sv lt).toArray ct) := (HCL.out.of B1.out).m
  have M1 : Hid _ := m1
  have c1 : W1.cell? ⟨cb, 1, none⟩ = some (.map (some tm)) := cell_row (HCL.out.of B1.out).c 1
  have hrg := run_range_map (P := Tryz.prog) W1 143 _ _ tm _ ct Tryz.underlying143 m1
  have SZ1 : Hid (w.heap.size + 4 ≤ W1.heap.size) := by
    show _ ≤ _
    obtain ⟨A, h1, _⟩ := hr1.rd
    have := lt_of_heap h1
    omega
  clear hb1 hr1 HBO B0 Z0 S0 HIS m1
  go_wp2_with fail
  clear hrg c1
  have D0 : Hid (RD (W1.alloc (.mapIter (some tm) ct #[] ct)) cs (w.heap.size + 2) (w.heap.size + 2 + 1)) := R1.out.of (below1 _ _)
  have I0 : Hid ((W1.alloc (.mapIter (some tm) ct #[] ct)).heap[W1.heap.size]? = some (.mapIter (some tm) ct #[] ct)) := heap_alloc_new _ _
  have E0 : Hid (Below w.heap.size w (W1.alloc (.mapIter (some tm) ct #[] ct))) := B1.out.alloc B1.out.size _
  have Y0 : Hid ((W1.alloc (.mapIter (some tm) ct #[] ct)).heap[w.heap.size + 1]? = some (.cells ruZ 106 (0, 0))) := (heap_alloc_old _ _ (lt_of_heap Z1.out)).trans Z1.out
  clear R1 Z1 B1
  obtain ⟨it, hit⟩ : ∃ it, W1.heap.size = it := ⟨_, rfl⟩
  have SIT : Hid (w.heap.size + 4 ≤ it) := by show _ ≤ _; rw [← hit]; exact SZ1.out
  rw [hit] at I0
  rw [hit]
  go_loopw [6, 9, 10] (fun fnd _ _ wr => ∃ (seen : Array Nat) (r : Option Nat), fnd = .pointer (r.map fun e => ⟨e, 0, none⟩) ∧ Hid (Best w cs shf lqf lt seen r) ∧ Hid (wr.heap[it]? = some (.mapIter (some tm) ct seen ct)) ∧ Hid (RD wr cs (w.heap.size + 2) (w.heap.size + 2 + 1)) ∧ Hid (Below w.heap.size w wr) ∧ Hid (wr.heap[w.heap.size + 1]? = some (.cells ruZ 106 (0, 0)))) (fun _ _ _ wr => wr.rangeLeft tm it)
  case atStart => exact ⟨#[], none, rfl, ⟨fun x hx hs => by simp at hs, fun e he => by cases he⟩, I0.out, D0.out, E0.out, Y0.out⟩
  case round =>
    obtain ⟨seen, r, rfl, hbest, hitw, hrd, hbw, hzr⟩ := hrel
    have HML : Hid (wr.heap[tm]? = some (.map (entG sv lt).toArray ct)) := (HCL.out.of hbw.out).m
    have HLF : Hid (wr.rangeLeft tm it = (leftOf (entG sv lt).toArray seen).size) := by
      show _ = _
      unfold World.rangeLeft
      rw [HML.out, hitw.out]
    rcases iter_step hitw.out HML.out HBN.out HNB.out 0 with ⟨hn, hall⟩ | ⟨x, hx, W, hs, hn, hen, i1, i2, i3⟩
    · have HALL : Hid _ := hall
      clear hall
      cases r with
      | none =>
        have hq := eql_pent0
        simp only [Option.map_none]
        go_wp2_with (first
          | refine wpList_build_as rfl 106 _ rfl ruZ (by rw [List.map_toArray]; exact build_rule0) ?_
          | refine wpList_store_row rfl 106 _ _ rfl (w.heap.size + 1) ruZ ruZ 106 rfl rfl hzr.out size3r rfl (ru_one _ _ _ rfl) ?_
          | fail)
        intro W9 z1 z2 z3 z4
        have B9 : Hid (Below w.heap.size w W9) := hbw.out.trans (z4.mono (by omega))
        clear hn
        go_wp2
        exact bodyPost_ret (results_rule (p := 4) (u := 5) rfl _ _ (w.heap.size + 1) ruZ rfl z1 rfl) rfl ⟨⟨seen, none, HALL.out, hbest.out, rfl⟩, B9.out⟩
      | some e0 =>
        obtain ⟨x0, hx0, _, hf0⟩ := hbest.out.2 e0 rfl
        obtain ⟨p, id, ts, hent⟩ := FirstR.ent hf0 (HTU.out x0 hx0)
        have HEN : Hid _ := hent
        obtain ⟨s, tb, at_, he, hsv⟩ := hent.of hbw.out
        have HE : Hid _ := he
        obtain ⟨sa, sn, sc, rfl⟩ : ∃ a n c, s = .slice a n c := by obtain ⟨a, n, c, e, _⟩ := hsv; exact ⟨a, n, c, e⟩
        have HCO : Hid _ := copyOf_any p id (.slice sa sn sc) ts wr hsv
        have HLT : Hid (ts.length ≤ 5864062014805) := by obtain ⟨a, n, c, _, _, ht⟩ := hsv; show _ ≤ _; rw [ht.len]; exact ht.room
        have hq := eql_pent
        simp only [Option.map_some]
        clear hent he hsv hf0 hx0
        go_wp2_with (first
          | refine wpList_load_as rfl 106 _ rfl e0 0 3 rfl (enC p (.slice sa sn sc) id tb at_) (ruC p (.slice sa sn sc) id) 151 _ HE.out Tryz.underlying106 rfl rfl rfl size3r ?_
          | fail)
        refine Calls.mono HCO.out ?_
        rintro e W8 ⟨y, rfl, hy, hb8⟩
        have HY : Hid _ := hy
        have hyo : y.oneCell' = true := by
          rcases hy.2 with ⟨e, _⟩ | ⟨g, cap, cur, e, _⟩
          · rw [e]; rfl
          · rw [e]; rfl
        have YO : Hid _ := hyo
        have Z8 : Hid (W8.heap[w.heap.size + 1]? = some (.cells ruZ 106 (0, 0))) := (hb8.block _ (lt_of_heap hzr.out)).trans hzr.out
        have B8 : Hid (Below w.heap.size w W8) := hbw.out.trans (hb8.mono hbw.out.size)
        have SZ8 : Hid (w.heap.size + 1 < wr.heap.size) := lt_of_heap hzr.out
        clear hy hyo hb8 HCO
        go_wp2_with (first
          | refine wpList_store_row rfl 106 _ _ rfl (w.heap.size + 1) ruZ (ruC p y id) 106 rfl rfl Z8.out size3r rfl (ru_one _ _ _ YO.out) ?_
          | fail)
        intro W9 z1 z2 z3 z4
        have B9 : Hid (Below w.heap.size w W9) := B8.out.trans (z4.mono (by omega))
        have T9 : Hid (TV W9 y ts) := own_tv (own_from HY.out (fun g h1 h2 => z2 g (by have := SZ8.out; omega))) HLT.out
        clear hn
        go_wp2
        exact bodyPost_ret (results_rule (p := 4) (u := 5) rfl _ _ (w.heap.size + 1) (ruC p y id) rfl z1 rfl) rfl ⟨⟨seen, some e0, HALL.out, hbest.out, p, id, ts, y, HEN.out, rfl, T9.out⟩, B9.out⟩
    · have HX : Hid _ := hx
      obtain ⟨tb, s, mk, qm, c, hxp, _⟩ := HTU.out x hx
      rw [hxp] at hn hen
      have BW : Hid (Below w.heap.size w W) := by
        refine ⟨i2.os.trans hbw.out.os, i2.tape.trans hbw.out.tape, i2.output.trans hbw.out.output, Nat.le_trans hbw.out.size i2.size, fun g hg => (i2.keep g (Nat.lt_of_lt_of_le hg hbw.out.size) (by have := SIT.out; omega)).trans (hbw.out.block g hg)⟩
      have RW : Hid (RD W cs (w.heap.size + 2) (w.heap.size + 2 + 1)) := RD.but hrd.out i2 (by have := SIT.out; omega) (by have := SIT.out; omega)
      have ZW : Hid (W.heap[w.heap.size + 1]? = some (.cells ruZ 106 (0, 0))) := (i2.keep _ (lt_of_heap hzr.out) (by have := SIT.out; omega)).trans hzr.out
      have IW : Hid _ := i1
      have I3 : Hid _ := i3
      have HXP : Hid _ := hxp
      have HFA : Hid (Calls Tryz.prog 64 #[.pointer (some ⟨tb, 0, none⟩), tellV (w.heap.size + 2) (w.heap.size + 2 + 1)] W fun e w' => (∃ r, e = .returned (.pointer r) ∧ FirstR w cs (shf x) (lqf x) r) ∧ RD w' cs (w.heap.size + 2) (w.heap.size + 2 + 1) ∧ But (w.heap.size + 2 + 1) W w') := by
        show Calls _ _ _ _ _
        obtain ⟨tb', s', mk', qm', c', h1, h2, h3, h4, h5, h6, h7⟩ := (HTU.out x hx).of BW.out
        rw [hxp] at h1
        cases h1
        refine (first_any RW.out hst h2 h3 h4 h5 h6 (fun y hy => by obtain ⟨e, f, _⟩ := h7 y hy; exact ⟨e, f⟩)).mono ?_
        rintro e w' ⟨⟨r, he, hf⟩, q1, q2⟩
        exact ⟨⟨r, he, FirstR.back hf (HTU.out x hx) BW.out⟩, q1, q2⟩
      have hkv : sv x.1 = .string x.1 := rfl
      rw [hkv] at hn hen
      clear i1 i2 i3 hxp hx hs hitw hrd hbw hzr HML
      go_wp2_with fail
      refine Calls.mono HFA.out ?_
      rintro z W2 ⟨⟨rr, rfl, hf⟩, hr2, hb2⟩
      have HFR : Hid _ := hf
      have I2 : Hid (W2.heap[it]? = some (.mapIter (some tm) ct (seen.push x.2.2) ct)) := (hb2.keep _ (lt_of_heap IW.out) (by have := SIT.out; omega)).trans IW.out
      have Z2 : Hid (W2.heap[w.heap.size + 1]? = some (.cells ruZ 106 (0, 0))) := (hb2.keep _ (lt_of_heap ZW.out) (by omega)).trans ZW.out
      have B2 : Hid (Below w.heap.size w W2) := by
        refine ⟨hb2.os.trans BW.out.os, hb2.tape.trans BW.out.tape, hb2.output.trans BW.out.output, Nat.le_trans BW.out.size hb2.size, fun g hg => (hb2.keep g (Nat.lt_of_lt_of_le hg BW.out.size) (by omega)).trans (BW.out.block g hg)⟩
      have R2 : Hid _ := hr2
      have LF : Hid (∀ V : World, V.heap[it]? = some (.mapIter (some tm) ct (seen.push x.2.2) ct) → Below w.heap.size w V → V.rangeLeft tm it < wr.rangeLeft tm it) := by
        show ∀ V, _
        intro V h1 h2
        rw [HLF.out]
        unfold World.rangeLeft
        rw [(HCL.out.of h2).m, h1]
        exact I3.out
      have hrf : rr = none ∨ ∃ e, rr = some ⟨e, 0, none⟩ := FirstR.form hf
      clear hf hr2 hb2 hn hen HFA IW ZW BW RW
      rcases hrf with rfl | ⟨e, rfl⟩
      · have hq0 := neq_pent0
        have BS : Hid _ := Best.skip hbest.out HNB.out HX.out HFR.out
        go_wp2_with fail
        go_quiet (fail)
        clear hq0
        go_wp2
        go_roundw
        case rel => exact ⟨seen.push x.2.2, r, rfl, BS.out, I2.out, ⟨R2.out.st, R2.out.rd⟩, below_drewN B2.out _, Z2.out⟩
        case measure => exact LF.out _ I2.out (below_drewN B2.out _)
      · cases r with
        | none =>
          have hq0 := neq_pent
          have hq1 := eql_pent0
          have BS : Hid _ := Best.take hbest.out HNB.out HX.out HFR.out (fun e0 h => by cases h)
          simp only [Option.map_none]
          go_wp2_with fail
          go_quiet (fail)
          clear hq0 hq1
          go_wp2
          go_roundw
          case rel => exact ⟨seen.push x.2.2, some e, rfl, BS.out, I2.out, ⟨R2.out.st, R2.out.rd⟩, below_drewN B2.out _, Z2.out⟩
          case measure => exact LF.out _ I2.out (below_drewN B2.out _)
        | some e0 =>
          obtain ⟨p, id, ts, hent⟩ := FirstR.ent HFR.out (HTU.out x HX.out)
          obtain ⟨x0, hx0, _, hf0⟩ := hbest.out.2 e0 rfl
          obtain ⟨q, jd, us, hent0⟩ := FirstR.ent hf0 (HTU.out x0 hx0)
          have HEN : Hid _ := hent
          have HEN0 : Hid _ := hent0
          obtain ⟨s1, tb1, at1, he1, _⟩ := hent.of B2.out
          obtain ⟨s2, tb2, at2, he2, _⟩ := hent0.of B2.out
          have KE : Hid (∀ V : World, Below W2.heap.size W2 V → V.heap[e]? = some (.cells (enC p s1 id tb1 at1) 151 (0, 0)) ∧ V.heap[e0]? = some (.cells (enC q s2 jd tb2 at2) 151 (0, 0))) := fun V hV => ⟨(hV.block _ (lt_of_heap he1)).trans he1, (hV.block _ (lt_of_heap he2)).trans he2⟩
          simp only [Option.map_some]
          clear hent hent0 he1 he2 hf0 hx0
          go_wp2_with fail
          refine wp_region_held_drew (S := (fun V : World => V.heap[e]? = some (.cells (enC p s1 id tb1 at1) 151 (0, 0)) ∧ V.heap[e0]? = some (.cells (enC q s2 jd tb2 at2) 151 (0, 0)))) (by kernel_rfl) ?_ (fun hHeld => ?_)
          · exact KE.out _ (Below.refl _ _).drew
          refine wpAnyH_take (i := 0) (v := ?_) rfl (by kernel_rfl) (by kernel_rfl) (by kernel_rfl) (fun _ _ _ h => h) (Or.inl ⟨by rfl, ?_⟩) (by assumption) ?_
          rotate_left
          · (intro w hSw; (try dsimp only at hSw); go_simp; try with_reducible rfl)
          try simp only [List.getElem_toArray, List.getElem_cons_zero, List.getElem_cons_succ, Act.put, List.setIfInBounds_toArray, List.set_cons_zero, List.set_cons_succ]
          refine wpAnyH_take (i := 1) (v := .bool true) rfl (by kernel_rfl) (by kernel_rfl) (by kernel_rfl) (fun _ _ _ h => h) (Or.inl ⟨by rfl, fun w _ => by first | kernel_rfl | rfl⟩) (by assumption) ?_
          try simp only [List.getElem_toArray, List.getElem_cons_zero, List.getElem_cons_succ, Act.put, List.setIfInBounds_toArray, List.set_cons_zero, List.set_cons_succ]
          refine wpAnyH_take (i := 2) (v := ?_) rfl (by kernel_rfl) (by kernel_rfl) (by kernel_rfl) (fun _ _ _ h => h) (Or.inl ⟨by rfl, ?_⟩) (by assumption) ?_
          rotate_left
          · (intro w hSw; (try dsimp only at hSw); go_simp; try with_reducible rfl)
          try simp only [List.getElem_toArray, List.getElem_cons_zero, List.getElem_cons_succ, Act.put, List.setIfInBounds_toArray, List.set_cons_zero, List.set_cons_succ]
          refine wpAnyH_take (i := 3) (v := ?_) rfl (by kernel_rfl) (by kernel_rfl) (by kernel_rfl) (fun _ _ _ h => h) (Or.inl ⟨by rfl, ?_⟩) (by assumption) ?_
          rotate_left
          · (intro w hSw; (try dsimp only at hSw); go_simp; try with_reducible rfl)
          try simp only [List.getElem_toArray, List.getElem_cons_zero, List.getElem_cons_succ, Act.put, List.setIfInBounds_toArray, List.set_cons_zero, List.set_cons_succ]
          refine wpAnyH_take (i := 4) (v := .bool false) rfl (by kernel_rfl) (by kernel_rfl) (by kernel_rfl) (fun _ _ _ h => h) (Or.inl ⟨by rfl, fun w _ => by first | kernel_rfl | rfl⟩) (by assumption) ?_
          try simp only [List.getElem_toArray, List.getElem_cons_zero, List.getElem_cons_succ, Act.put, List.setIfInBounds_toArray, List.set_cons_zero, List.set_cons_succ]
          refine wpAnyH_take (i := 5) (v := ?_) rfl (by kernel_rfl) (by kernel_rfl) (by kernel_rfl) (fun _ _ _ h => h) (Or.inl ⟨by rfl, ?_⟩) (by assumption) ?_
          rotate_left
          · (intro w hSw; (try dsimp only at hSw); go_simp; try with_reducible rfl)
          try simp only [List.getElem_toArray, List.getElem_cons_zero, List.getElem_cons_succ, Act.put, List.setIfInBounds_toArray, List.set_cons_zero, List.set_cons_succ]
          refine wpAnyH_take (i := 6) (v := ?_) rfl (by kernel_rfl) (by kernel_rfl) (by kernel_rfl) (fun _ _ _ h => h) (Or.inl ⟨by rfl, ?_⟩) (by assumption) ?_
          rotate_left
          · (intro w hSw; (try dsimp only at hSw); go_simp; try with_reducible rfl)
          try simp only [List.getElem_toArray, List.getElem_cons_zero, List.getElem_cons_succ, Act.put, List.setIfInBounds_toArray, List.set_cons_zero, List.set_cons_succ]
          refine wpAnyH_take (i := 7) (v := ?_) rfl (by kernel_rfl) (by kernel_rfl) (by kernel_rfl) (fun _ _ _ h => h) (Or.inl ⟨by rfl, ?_⟩) (by assumption) ?_
          rotate_left
          · (intro w hSw; (try dsimp only at hSw); go_simp; try with_reducible rfl)
          try simp only [List.getElem_toArray, List.getElem_cons_zero, List.getElem_cons_succ, Act.put, List.setIfInBounds_toArray, List.set_cons_zero, List.set_cons_succ]
          refine wpAnyH_take (i := 8) (v := ?_) rfl (by kernel_rfl) (by kernel_rfl) (by kernel_rfl) (fun _ _ _ h => h) (Or.inl ⟨by rfl, ?_⟩) (by assumption) ?_
          rotate_left
          · (intro w hSw; (try dsimp only at hSw); go_simp; try with_reducible rfl)
          try simp only [List.getElem_toArray, List.getElem_cons_zero, List.getElem_cons_succ, Act.put, List.setIfInBounds_toArray, List.set_cons_zero, List.set_cons_succ]
          refine wpAnyH_take (i := 9) (v := .agg (ruC p s1 id)) rfl (by kernel_rfl) (by kernel_rfl) (by kernel_rfl) (fun _ _ _ h => h) (yields_loadE (by rfl) _ rfl e rfl p id s1 tb1 at1 (fun _ h => h.1)) (by assumption) ?_
          try simp only [List.getElem_toArray, List.getElem_cons_zero, List.getElem_cons_succ, Act.put, List.setIfInBounds_toArray, List.set_cons_zero, List.set_cons_succ]
          refine wpAnyH_take (i := 10) (v := ?_) rfl (by kernel_rfl) (by kernel_rfl) (by kernel_rfl) (fun _ _ _ h => h) (Or.inl ⟨by rfl, ?_⟩) (by assumption) ?_
          rotate_left
          · (intro w hSw; (try dsimp only at hSw); go_simp; try with_reducible rfl)
          try simp only [List.getElem_toArray, List.getElem_cons_zero, List.getElem_cons_succ, Act.put, List.setIfInBounds_toArray, List.set_cons_zero, List.set_cons_succ]
          refine wpAnyH_take (i := 11) (v := ?_) rfl (by kernel_rfl) (by kernel_rfl) (by kernel_rfl) (fun _ _ _ h => h) (Or.inl ⟨by rfl, ?_⟩) (by assumption) ?_
          rotate_left
          · (intro w hSw; (try dsimp only at hSw); go_simp; try with_reducible rfl)
          try simp only [List.getElem_toArray, List.getElem_cons_zero, List.getElem_cons_succ, Act.put, List.setIfInBounds_toArray, List.set_cons_zero, List.set_cons_succ]
          refine wpAnyH_take (i := 12) (v := ?_) rfl (by kernel_rfl) (by kernel_rfl) (by kernel_rfl) (fun _ _ _ h => h) (Or.inl ⟨by rfl, ?_⟩) (by assumption) ?_
          rotate_left
          · (intro w hSw; (try dsimp only at hSw); go_simp; try with_reducible rfl)
          try simp only [List.getElem_toArray, List.getElem_cons_zero, List.getElem_cons_succ, Act.put, List.setIfInBounds_toArray, List.set_cons_zero, List.set_cons_succ]
          refine wpAnyH_take (i := 13) (v := .agg (ruC q s2 jd)) rfl (by kernel_rfl) (by kernel_rfl) (by kernel_rfl) (fun _ _ _ h => h) (yields_loadE (by rfl) _ rfl e0 rfl q jd s2 tb2 at2 (fun _ h => h.2)) (by assumption) ?_
          try simp only [List.getElem_toArray, List.getElem_cons_zero, List.getElem_cons_succ, Act.put, List.setIfInBounds_toArray, List.set_cons_zero, List.set_cons_succ]
          refine wpAnyH_ready (rs := [14]) (by kernel_rfl) (by simp) ?_
          refine AllReadyH.cons (o := _) rfl (fun K hK => ?_) AllReadyH.nil
          go_simp
          refine (inOrder_any p id q jd s1 s2 W2.drew).mono ?_
          rintro z W3 ⟨rfl, hb3⟩
          go_wp2_with fail
          have B3 : Hid (Below W2.heap.size W2 W3) := (Below.refl W2.heap.size W2).drew.trans hb3
          refine hK.out _ _ (KE.out _ B3.out) (fun hHeld2 => ?_)
          clear hK K hHeld hb3
          have hHeld := hHeld2
          clear hHeld2
          try simp only [List.getElem_toArray, List.getElem_cons_zero, List.getElem_cons_succ, Act.put, List.setIfInBounds_toArray, List.set_cons_zero, List.set_cons_succ]
          refine wpAnyH_take (i := 15) (v := ?_) rfl (by kernel_rfl) (by kernel_rfl) (by kernel_rfl) (fun _ _ _ h => h) (Or.inl ⟨by rfl, ?_⟩) (by assumption) ?_
          rotate_left
          · (intro w hSw; (try dsimp only at hSw); go_simp; try with_reducible rfl)
          try simp only [List.getElem_toArray, List.getElem_cons_zero, List.getElem_cons_succ, Act.put, List.setIfInBounds_toArray, List.set_cons_zero, List.set_cons_succ]
          refine wpAnyH_take (i := 16) (v := ?_) rfl (by kernel_rfl) (by kernel_rfl) (by kernel_rfl) (fun _ _ _ h => h) (Or.inl ⟨by rfl, ?_⟩) (by assumption) ?_
          rotate_left
          · (intro w hSw; (try dsimp only at hSw); go_simp; try with_reducible rfl)
          try simp only [List.getElem_toArray, List.getElem_cons_zero, List.getElem_cons_succ, Act.put, List.setIfInBounds_toArray, List.set_cons_zero, List.set_cons_succ]
          refine wpAnyH_take (i := 17) (v := ?_) rfl (by kernel_rfl) (by kernel_rfl) (by kernel_rfl) (fun _ _ _ h => h) (Or.inl ⟨by rfl, ?_⟩) (by assumption) ?_
          rotate_left
          · (intro w hSw; (try dsimp only at hSw); go_simp; try with_reducible rfl)
          try simp only [List.getElem_toArray, List.getElem_cons_zero, List.getElem_cons_succ, Act.put, List.setIfInBounds_toArray, List.set_cons_zero, List.set_cons_succ]
          clear hHeld
          refine wpAnyH_done (by kernel_rfl) ?_ _
          have I3' : Hid (W3.heap[it]? = some (.mapIter (some tm) ct (seen.push x.2.2) ct)) := (B3.out.block _ (lt_of_heap I2.out)).trans I2.out
          have Z3 : Hid (W3.heap[w.heap.size + 1]? = some (.cells ruZ 106 (0, 0))) := (B3.out.block _ (lt_of_heap Z2.out)).trans Z2.out
          have R3 : Hid _ := R2.out.of B3.out
          have BB : Hid (Below w.heap.size w W3) := B2.out.trans (B3.out.mono B2.out.size)
          by_cases ho : ordI p id q jd < 0
          · have BS : Hid _ := Best.take hbest.out HNB.out HX.out HFR.out (fun e1 h => by cases h; exact ⟨p, id, ts, q, jd, us, HEN.out, HEN0.out, ho⟩)
            go_wp2
            go_roundw
            case rel => exact ⟨seen.push x.2.2, some e, rfl, BS.out, I3'.out, R3.out, BB.out, Z3.out⟩
            case measure => exact LF.out _ I3'.out BB.out
          · have BS : Hid _ := Best.leave hbest.out HNB.out HX.out HFR.out (fun h => by
              obtain ⟨p', a', ts', q', b', us', h1, h2, h3⟩ := h
              obtain ⟨rfl, rfl⟩ := h1.one HEN.out
              obtain ⟨rfl, rfl⟩ := h2.one HEN0.out
              exact ho h3)
            go_wp2
            go_roundw
            case rel => exact ⟨seen.push x.2.2, some e0, rfl, BS.out, I3'.out, R3.out, BB.out, Z3.out⟩
            case measure => exact LF.out _ I3'.out BB.out
end Go.Proofs.YtnahhmcmahbnkaaGreatDoor
