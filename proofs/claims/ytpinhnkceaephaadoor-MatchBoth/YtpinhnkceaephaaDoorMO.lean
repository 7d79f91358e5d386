/- The walk of MatchBoth. Conditions: the terms can be read; the State has its 49 cells; the table of trailing zeros holds 4 at its fifteenth place. -/
import Derived.Test.YtpinhnkceaephaaDoorMN
namespace Go.Proofs.YtpinhnkceaephaaDoor
open Go.RowKit
theorem imp_of {la lb : List Tm} (h1 : chk abV 0 la = true) (h2 : chk abV 0 lb = true) : impOf la lb = fol la lb := by simp [impOf, h1, h2]
theorem and_none {la lb : List Tm} (h : (chk abV 0 la && chk abV 0 lb) = false) : andOf la lb = none := if_neg (by simp [h])
theorem err_90 {la lb : List Tm} (h : (chk abV 0 la && chk abV 0 lb) = false) : errOf la lb = 90 := if_neg (by simp [h])
/-- The box of a State in the world of a call, and what lies below it. -/
structure Bx (w : World) (cs : Array Value) (W : World) : Prop where
  below : Below w.heap.size w W
  box : W.heap[w.heap.size]? = some (.cells cs 46 (0, 0))
theorem Bx.next {w W W' : World} {cs : Array Value} (h : Bx w cs W) (hb : Below W.heap.size W W') : Bx w cs W' :=
  ⟨h.below.trans (hb.mono h.below.size), (hb.block _ (lt_of_heap h.box)).trans h.box⟩
theorem wpList_load_want {P : Program} {ops : Array Oper} {rest : List Oper} {o : Oper} {a : Act} {w : World} {Q : Exit → Act → World → Prop} (hw : Region.wanted o (yielded ops a.tmps) = true) (ty : TypeId) (x : Operand) (ho : o.op = .load ty x)
    (g : Nat) (hx : a.eval x = .pointer (some ⟨g, 0, none⟩)) (t : TypeId) (cs : Array Value) (fr : Nat × Nat) (d : TypeDesc) (hg : w.heap[g]? = some (.cells cs t fr))
    (hu : P.underlying ty = some d) (hd : (match d with | .struct _ | .array _ _ => true | _ => false) = true) (hi : (P.info? ty).map (·.size) = some cs.size)
    (h : wpList P ops Q rest (a.put o.dst (.agg cs)) w) : wpList P ops Q (o :: rest) a w :=
  BigFrame.wpList_want hw fun _ hK => wp_load_row ty x ho g hx t cs fr d hg hu hd hi (hK _ _ h)
theorem Bx.start (w : World) (cs : Array Value) : Bx w cs (w.alloc (.cells cs 46)) := ⟨below1 w _, heap_alloc_new _ _⟩

set_option maxRecDepth 20000 in
set_option maxHeartbeats 4000000 in
theorem both_n1 (va vb : Value) (cs : Array Value) (la lb : List Tm) (w : World) (hst : St cs) (ha : TV w va la) (hb : TV w vb lb) (htab : w.cell? ⟨2, 15, none⟩ = some (.int .u8 4)) (hca : chk abV 0 la = false) :
    Calls Tryd.prog 5 #[.agg cs, va, vb] w fun e w' => e = .returned (.bool true) ∧ Below w.heap.size w w' := by
  have HA : Hid (TV w va la) := ha
  have HBb : Hid (TV w vb lb) := hb
  have HT : Hid _ := htab
  have hgl : 2 < w.heap.size := cell_lt htab
  have HGL : Hid _ := hgl
  have HST : Hid _ := hst
  have HI : Hid _ := info_size hst.size
  clear ha hb htab hgl hst
  have HEa : Hid (chkE la = 90) := if_neg (by simp [hca])
  have HN : Hid (andOf la lb = none) := and_none (by simp [hca])
  have HE : Hid (errOf la lb = 90) := err_90 (by simp [hca])
  clear hca
  go_enter Tryd.func5, Tryd.ntmps5
  have HX0 : Hid _ := Bx.start w cs
  go_wp2_with fail
  refine (lives_any _ ((World.cell?_alloc_lt (a := ⟨2, 15, none⟩) _ _ HGL.out).trans HT.out)).mono ?_
  rintro e W1 ⟨rfl, hb⟩
  have HX1 : Hid (Bx w cs W1) := HX0.out.next hb
  clear hb HT HX0
  go_wp2_with (first | refine wpList_load_want (by rfl) 46 _ rfl w.heap.size rfl 46 cs (0, 0) _ HX1.out.box Tryd.underlying46 rfl HI.out ?_ | fail)
  refine (check_any va la _ (HA.out.below HX1.out.below)).mono ?_
  rw [HEa.out]
  rintro e W2 ⟨rfl, hb⟩
  have HX2 : Hid (Bx w cs W2) := HX1.out.next hb
  clear hb HX1
  go_wp2_with (first | refine wpList_load_want (by rfl) 46 _ rfl w.heap.size rfl 46 cs (0, 0) _ HX2.out.box Tryd.underlying46 rfl HI.out ?_ | fail)
  refine (and_any va vb la lb _ (HA.out.below HX2.out.below) (HBb.out.below HX2.out.below)).mono ?_
  rw [HN.out, HE.out]
  rintro e W3 ⟨x, rfl, hx, hb⟩
  have HX3 : Hid (Bx w cs W3) := HX2.out.next hb
  simp only [Option.isSome_none]
  clear hb hx HX2
  go_wp2_with (first | refine wpList_load_want (by rfl) 46 _ rfl w.heap.size rfl 46 cs (0, 0) _ HX3.out.box Tryd.underlying46 rfl HI.out ?_ | fail)
  go_ret
  exact ⟨rfl, HX3.out.below⟩
set_option maxRecDepth 20000 in
set_option maxHeartbeats 4000000 in
theorem both_n2 (va vb : Value) (cs : Array Value) (la lb : List Tm) (w : World) (hst : St cs) (ha : TV w va la) (hb : TV w vb lb) (htab : w.cell? ⟨2, 15, none⟩ = some (.int .u8 4)) (hca : chk abV 0 la = true) (hcb : chk abV 0 lb = false) :
    Calls Tryd.prog 5 #[.agg cs, va, vb] w fun e w' => e = .returned (.bool true) ∧ Below w.heap.size w w' := by
  have HA : Hid (TV w va la) := ha
  have HBb : Hid (TV w vb lb) := hb
  have HT : Hid _ := htab
  have hgl : 2 < w.heap.size := cell_lt htab
  have HGL : Hid _ := hgl
  have HST : Hid _ := hst
  have HI : Hid _ := info_size hst.size
  clear ha hb htab hgl hst
  have HEa : Hid (chkE la = 0) := if_pos hca
  have HEb : Hid (chkE lb = 90) := if_neg (by simp [hcb])
  have HN : Hid (andOf la lb = none) := and_none (by simp [hcb])
  have HE : Hid (errOf la lb = 90) := err_90 (by simp [hcb])
  clear hca hcb
  go_enter Tryd.func5, Tryd.ntmps5
  have HX0 : Hid _ := Bx.start w cs
  go_wp2_with fail
  refine (lives_any _ ((World.cell?_alloc_lt (a := ⟨2, 15, none⟩) _ _ HGL.out).trans HT.out)).mono ?_
  rintro e W1 ⟨rfl, hb⟩
  have HX1 : Hid (Bx w cs W1) := HX0.out.next hb
  clear hb HT HX0
  go_wp2_with (first | refine wpList_load_want (by rfl) 46 _ rfl w.heap.size rfl 46 cs (0, 0) _ HX1.out.box Tryd.underlying46 rfl HI.out ?_ | fail)
  refine (check_any va la _ (HA.out.below HX1.out.below)).mono ?_
  rw [HEa.out]
  rintro e W2 ⟨rfl, hb⟩
  have HX2 : Hid (Bx w cs W2) := HX1.out.next hb
  clear hb HX1
  go_wp2_with (first | refine wpList_load_want (by rfl) 46 _ rfl w.heap.size rfl 46 cs (0, 0) _ HX2.out.box Tryd.underlying46 rfl HI.out ?_ | fail)
  refine (check_any vb lb _ (HBb.out.below HX2.out.below)).mono ?_
  rw [HEb.out]
  rintro e W3 ⟨rfl, hb⟩
  have HX3 : Hid (Bx w cs W3) := HX2.out.next hb
  clear hb HX2
  go_wp2_with (first | refine wpList_load_want (by rfl) 46 _ rfl w.heap.size rfl 46 cs (0, 0) _ HX3.out.box Tryd.underlying46 rfl HI.out ?_ | fail)
  refine (and_any va vb la lb _ (HA.out.below HX3.out.below) (HBb.out.below HX3.out.below)).mono ?_
  rw [HN.out, HE.out]
  rintro e W4 ⟨x, rfl, hx, hb⟩
  have HX4 : Hid (Bx w cs W4) := HX3.out.next hb
  simp only [Option.isSome_none]
  clear hb hx HX3
  go_wp2_with (first | refine wpList_load_want (by rfl) 46 _ rfl w.heap.size rfl 46 cs (0, 0) _ HX4.out.box Tryd.underlying46 rfl HI.out ?_ | fail)
  go_ret
  exact ⟨rfl, HX4.out.below⟩
set_option maxRecDepth 20000 in
set_option maxHeartbeats 4000000 in
theorem both_y_f_n (va vb : Value) (cs : Array Value) (la lb : List Tm) (w : World) (hst : St cs) (ha : TV w va la) (hb : TV w vb lb) (htab : w.cell? ⟨2, 15, none⟩ = some (.int .u8 4)) (hca : chk abV 0 la = true) (hcb : chk abV 0 lb = true) (hsa : sat (gets cs) la = false) (hj : jn la lb = none) :
    Calls Tryd.prog 5 #[.agg cs, va, vb] w fun e w' => e = .returned (.bool true) ∧ Below w.heap.size w w' := by
  have HA : Hid (TV w va la) := ha
  have HBb : Hid (TV w vb lb) := hb
  have HT : Hid _ := htab
  have hgl : 2 < w.heap.size := cell_lt htab
  have HGL : Hid _ := hgl
  have HST : Hid _ := hst
  have HI : Hid _ := info_size hst.size
  clear ha hb htab hgl hst
  have HEa : Hid (chkE la = 0) := if_pos hca
  have HEb : Hid (chkE lb = 0) := if_pos hcb
  have HE : Hid (errOf la lb = 0) := if_pos (by simp [hca, hcb])
  have HCa : Hid _ := hca
  have HCb : Hid _ := hcb
  have HSa : Hid _ := hsa
  have HN : Hid (andOf la lb = none) := (and_of hca hcb).trans hj
  clear hca hcb hsa hj
  go_enter Tryd.func5, Tryd.ntmps5
  have HX0 : Hid _ := Bx.start w cs
  go_wp2_with fail
  refine (lives_any _ ((World.cell?_alloc_lt (a := ⟨2, 15, none⟩) _ _ HGL.out).trans HT.out)).mono ?_
  rintro e W1 ⟨rfl, hb⟩
  have HX1 : Hid (Bx w cs W1) := HX0.out.next hb
  clear hb HT HX0
  go_wp2_with (first | refine wpList_load_want (by rfl) 46 _ rfl w.heap.size rfl 46 cs (0, 0) _ HX1.out.box Tryd.underlying46 rfl HI.out ?_ | fail)
  refine (check_any va la _ (HA.out.below HX1.out.below)).mono ?_
  rw [HEa.out]
  rintro e W2 ⟨rfl, hb⟩
  have HX2 : Hid (Bx w cs W2) := HX1.out.next hb
  clear hb HX1
  go_wp2_with (first | refine wpList_load_want (by rfl) 46 _ rfl w.heap.size rfl 46 cs (0, 0) _ HX2.out.box Tryd.underlying46 rfl HI.out ?_ | fail)
  refine (check_any vb lb _ (HBb.out.below HX2.out.below)).mono ?_
  rw [HEb.out]
  rintro e W3 ⟨rfl, hb⟩
  have HX3 : Hid (Bx w cs W3) := HX2.out.next hb
  clear hb HX2
  go_wp2_with (first | refine wpList_load_want (by rfl) 46 _ rfl w.heap.size rfl 46 cs (0, 0) _ HX3.out.box Tryd.underlying46 rfl HI.out ?_ | fail)
  refine (satisfies_any cs HST.out va la HCa.out _ (HA.out.below HX3.out.below)).mono ?_
  rw [HSa.out]
  rintro e W4 ⟨rfl, hb⟩
  have HX4 : Hid (Bx w cs W4) := HX3.out.next hb
  clear hb HX3
  go_wp2_with (first | refine wpList_load_want (by rfl) 46 _ rfl w.heap.size rfl 46 cs (0, 0) _ HX4.out.box Tryd.underlying46 rfl HI.out ?_ | fail)
  refine (and_any va vb la lb _ (HA.out.below HX4.out.below) (HBb.out.below HX4.out.below)).mono ?_
  rw [HN.out, HE.out]
  rintro e W5 ⟨x, rfl, hx, hb⟩
  have HX5 : Hid (Bx w cs W5) := HX4.out.next hb
  simp only [Option.isSome_none]
  clear hb hx HX4
  go_wp2_with (first | refine wpList_load_want (by rfl) 46 _ rfl w.heap.size rfl 46 cs (0, 0) _ HX5.out.box Tryd.underlying46 rfl HI.out ?_ | fail)
  refine (meet_any va vb la lb _ (HA.out.below HX5.out.below) (HBb.out.below HX5.out.below)).mono ?_
  rw [HN.out]
  rintro e W6 ⟨rfl, hb⟩
  have HX6 : Hid (Bx w cs W6) := HX5.out.next hb
  clear hb HX5
  simp only [Option.isSome_none]
  go_wp2_with (first | refine wpList_load_want (by rfl) 46 _ rfl w.heap.size rfl 46 cs (0, 0) _ HX6.out.box Tryd.underlying46 rfl HI.out ?_ | fail)
  go_ret
  exact ⟨rfl, HX6.out.below⟩
set_option maxRecDepth 20000 in
set_option maxHeartbeats 4000000 in
theorem both_y_f_sf (va vb : Value) (cs : Array Value) (la lb : List Tm) (w : World) (hst : St cs) (ha : TV w va la) (hb : TV w vb lb) (htab : w.cell? ⟨2, 15, none⟩ = some (.int .u8 4)) (hca : chk abV 0 la = true) (hcb : chk abV 0 lb = true) (hsa : sat (gets cs) la = false) (lx : List Tm) (hj : jn la lb = some lx) (hi : impOf la lb = false) :
    Calls Tryd.prog 5 #[.agg cs, va, vb] w fun e w' => e = .returned (.bool true) ∧ Below w.heap.size w w' := by
  have HA : Hid (TV w va la) := ha
  have HBb : Hid (TV w vb lb) := hb
  have HT : Hid _ := htab
  have hgl : 2 < w.heap.size := cell_lt htab
  have HGL : Hid _ := hgl
  have HST : Hid _ := hst
  have HI : Hid _ := info_size hst.size
  clear ha hb htab hgl hst
  have HEa : Hid (chkE la = 0) := if_pos hca
  have HEb : Hid (chkE lb = 0) := if_pos hcb
  have HE : Hid (errOf la lb = 0) := if_pos (by simp [hca, hcb])
  have HCa : Hid _ := hca
  have HCb : Hid _ := hcb
  have HSa : Hid _ := hsa
  have HN : Hid (andOf la lb = some lx) := (and_of hca hcb).trans hj
  have HCx : Hid (chk abV 0 lx = true) := (jn_some hca hcb hj).1
  have HSx : Hid (sat (gets cs) lx = false) := by
    show _ = _
    rw [sat_both hca hcb hj, hsa]; rfl
  have HIa : Hid (impOf lx la = true) := (imp_of HCx.out hca).trans (fol_left hca hcb hj)
  have HIb : Hid (impOf lx lb = true) := (imp_of HCx.out hcb).trans (fol_right hca hcb hj)
  have HIM : Hid _ := hi
  clear hca hcb hsa hj hi
  go_enter Tryd.func5, Tryd.ntmps5
  have HX0 : Hid _ := Bx.start w cs
  go_wp2_with fail
  refine (lives_any _ ((World.cell?_alloc_lt (a := ⟨2, 15, none⟩) _ _ HGL.out).trans HT.out)).mono ?_
  rintro e W1 ⟨rfl, hb⟩
  have HX1 : Hid (Bx w cs W1) := HX0.out.next hb
  clear hb HT HX0
  go_wp2_with (first | refine wpList_load_want (by rfl) 46 _ rfl w.heap.size rfl 46 cs (0, 0) _ HX1.out.box Tryd.underlying46 rfl HI.out ?_ | fail)
  refine (check_any va la _ (HA.out.below HX1.out.below)).mono ?_
  rw [HEa.out]
  rintro e W2 ⟨rfl, hb⟩
  have HX2 : Hid (Bx w cs W2) := HX1.out.next hb
  clear hb HX1
  go_wp2_with (first | refine wpList_load_want (by rfl) 46 _ rfl w.heap.size rfl 46 cs (0, 0) _ HX2.out.box Tryd.underlying46 rfl HI.out ?_ | fail)
  refine (check_any vb lb _ (HBb.out.below HX2.out.below)).mono ?_
  rw [HEb.out]
  rintro e W3 ⟨rfl, hb⟩
  have HX3 : Hid (Bx w cs W3) := HX2.out.next hb
  clear hb HX2
  go_wp2_with (first | refine wpList_load_want (by rfl) 46 _ rfl w.heap.size rfl 46 cs (0, 0) _ HX3.out.box Tryd.underlying46 rfl HI.out ?_ | fail)
  refine (satisfies_any cs HST.out va la HCa.out _ (HA.out.below HX3.out.below)).mono ?_
  rw [HSa.out]
  rintro e W4 ⟨rfl, hb⟩
  have HX4 : Hid (Bx w cs W4) := HX3.out.next hb
  clear hb HX3
  go_wp2_with (first | refine wpList_load_want (by rfl) 46 _ rfl w.heap.size rfl 46 cs (0, 0) _ HX4.out.box Tryd.underlying46 rfl HI.out ?_ | fail)
  refine (and_any va vb la lb _ (HA.out.below HX4.out.below) (HBb.out.below HX4.out.below)).mono ?_
  rw [HN.out, HE.out]
  rintro e W5 ⟨x, rfl, hx, hb⟩
  have HX5 : Hid (Bx w cs W5) := HX4.out.next hb
  simp only [Option.isSome_some]
  have HV5 : Hid (TV W5 x lx) := hx
  clear hb hx HX4
  go_wp2_with (first | refine wpList_load_want (by rfl) 46 _ rfl w.heap.size rfl 46 cs (0, 0) _ HX5.out.box Tryd.underlying46 rfl HI.out ?_ | fail)
  refine (satisfies_any cs HST.out x lx HCx.out _ HV5.out).mono ?_
  rw [HSx.out]
  rintro e W6 ⟨rfl, hb⟩
  have HX6 : Hid (Bx w cs W6) := HX5.out.next hb
  have HV6 : Hid (TV W6 x lx) := HV5.out.below hb
  clear hb HX5 HV5
  go_wp2_with (first | refine wpList_load_want (by rfl) 46 _ rfl w.heap.size rfl 46 cs (0, 0) _ HX6.out.box Tryd.underlying46 rfl HI.out ?_ | fail)
  refine (implies_any x va lx la _ HV6.out (HA.out.below HX6.out.below)).mono ?_
  rw [HIa.out]
  rintro e W7 ⟨rfl, hb⟩
  have HX7 : Hid (Bx w cs W7) := HX6.out.next hb
  have HV7 : Hid (TV W7 x lx) := HV6.out.below hb
  clear hb HX6 HV6
  go_wp2_with (first | refine wpList_load_want (by rfl) 46 _ rfl w.heap.size rfl 46 cs (0, 0) _ HX7.out.box Tryd.underlying46 rfl HI.out ?_ | fail)
  refine (implies_any x vb lx lb _ HV7.out (HBb.out.below HX7.out.below)).mono ?_
  rw [HIb.out]
  rintro e W8 ⟨rfl, hb⟩
  have HX8 : Hid (Bx w cs W8) := HX7.out.next hb
  have HV8 : Hid (TV W8 x lx) := HV7.out.below hb
  clear hb HX7 HV7
  go_wp2_with (first | refine wpList_load_want (by rfl) 46 _ rfl w.heap.size rfl 46 cs (0, 0) _ HX8.out.box Tryd.underlying46 rfl HI.out ?_ | fail)
  refine (implies_any va vb la lb _ (HA.out.below HX8.out.below) (HBb.out.below HX8.out.below)).mono ?_
  rw [HIM.out]
  rintro e W9 ⟨rfl, hb⟩
  have HX9 : Hid (Bx w cs W9) := HX8.out.next hb
  have HV9 : Hid (TV W9 x lx) := HV8.out.below hb
  clear hb HX8 HV8
  go_wp2_with (first | refine wpList_load_want (by rfl) 46 _ rfl w.heap.size rfl 46 cs (0, 0) _ HX9.out.box Tryd.underlying46 rfl HI.out ?_ | fail)
  go_ret
  exact ⟨rfl, HX9.out.below⟩
set_option maxRecDepth 20000 in
set_option maxHeartbeats 4000000 in
theorem both_y_f_st (va vb : Value) (cs : Array Value) (la lb : List Tm) (w : World) (hst : St cs) (ha : TV w va la) (hb : TV w vb lb) (htab : w.cell? ⟨2, 15, none⟩ = some (.int .u8 4)) (hca : chk abV 0 la = true) (hcb : chk abV 0 lb = true) (hsa : sat (gets cs) la = false) (lx : List Tm) (hj : jn la lb = some lx) (hi : impOf la lb = true) :
    Calls Tryd.prog 5 #[.agg cs, va, vb] w fun e w' => e = .returned (.bool true) ∧ Below w.heap.size w w' := by
  have HA : Hid (TV w va la) := ha
  have HBb : Hid (TV w vb lb) := hb
  have HT : Hid _ := htab
  have hgl : 2 < w.heap.size := cell_lt htab
  have HGL : Hid _ := hgl
  have HST : Hid _ := hst
  have HI : Hid _ := info_size hst.size
  clear ha hb htab hgl hst
  have HEa : Hid (chkE la = 0) := if_pos hca
  have HEb : Hid (chkE lb = 0) := if_pos hcb
  have HE : Hid (errOf la lb = 0) := if_pos (by simp [hca, hcb])
  have HCa : Hid _ := hca
  have HCb : Hid _ := hcb
  have HSa : Hid _ := hsa
  have HN : Hid (andOf la lb = some lx) := (and_of hca hcb).trans hj
  have HCx : Hid (chk abV 0 lx = true) := (jn_some hca hcb hj).1
  have HSx : Hid (sat (gets cs) lx = false) := by
    show _ = _
    rw [sat_both hca hcb hj, hsa]; rfl
  have HIa : Hid (impOf lx la = true) := (imp_of HCx.out hca).trans (fol_left hca hcb hj)
  have HIb : Hid (impOf lx lb = true) := (imp_of HCx.out hcb).trans (fol_right hca hcb hj)
  have HIM : Hid _ := hi
  clear hca hcb hsa hj hi
  go_enter Tryd.func5, Tryd.ntmps5
  have HX0 : Hid _ := Bx.start w cs
  go_wp2_with fail
  refine (lives_any _ ((World.cell?_alloc_lt (a := ⟨2, 15, none⟩) _ _ HGL.out).trans HT.out)).mono ?_
  rintro e W1 ⟨rfl, hb⟩
  have HX1 : Hid (Bx w cs W1) := HX0.out.next hb
  clear hb HT HX0
  go_wp2_with (first | refine wpList_load_want (by rfl) 46 _ rfl w.heap.size rfl 46 cs (0, 0) _ HX1.out.box Tryd.underlying46 rfl HI.out ?_ | fail)
  refine (check_any va la _ (HA.out.below HX1.out.below)).mono ?_
  rw [HEa.out]
  rintro e W2 ⟨rfl, hb⟩
  have HX2 : Hid (Bx w cs W2) := HX1.out.next hb
  clear hb HX1
  go_wp2_with (first | refine wpList_load_want (by rfl) 46 _ rfl w.heap.size rfl 46 cs (0, 0) _ HX2.out.box Tryd.underlying46 rfl HI.out ?_ | fail)
  refine (check_any vb lb _ (HBb.out.below HX2.out.below)).mono ?_
  rw [HEb.out]
  rintro e W3 ⟨rfl, hb⟩
  have HX3 : Hid (Bx w cs W3) := HX2.out.next hb
  clear hb HX2
  go_wp2_with (first | refine wpList_load_want (by rfl) 46 _ rfl w.heap.size rfl 46 cs (0, 0) _ HX3.out.box Tryd.underlying46 rfl HI.out ?_ | fail)
  refine (satisfies_any cs HST.out va la HCa.out _ (HA.out.below HX3.out.below)).mono ?_
  rw [HSa.out]
  rintro e W4 ⟨rfl, hb⟩
  have HX4 : Hid (Bx w cs W4) := HX3.out.next hb
  clear hb HX3
  go_wp2_with (first | refine wpList_load_want (by rfl) 46 _ rfl w.heap.size rfl 46 cs (0, 0) _ HX4.out.box Tryd.underlying46 rfl HI.out ?_ | fail)
  refine (and_any va vb la lb _ (HA.out.below HX4.out.below) (HBb.out.below HX4.out.below)).mono ?_
  rw [HN.out, HE.out]
  rintro e W5 ⟨x, rfl, hx, hb⟩
  have HX5 : Hid (Bx w cs W5) := HX4.out.next hb
  simp only [Option.isSome_some]
  have HV5 : Hid (TV W5 x lx) := hx
  clear hb hx HX4
  go_wp2_with (first | refine wpList_load_want (by rfl) 46 _ rfl w.heap.size rfl 46 cs (0, 0) _ HX5.out.box Tryd.underlying46 rfl HI.out ?_ | fail)
  refine (satisfies_any cs HST.out x lx HCx.out _ HV5.out).mono ?_
  rw [HSx.out]
  rintro e W6 ⟨rfl, hb⟩
  have HX6 : Hid (Bx w cs W6) := HX5.out.next hb
  have HV6 : Hid (TV W6 x lx) := HV5.out.below hb
  clear hb HX5 HV5
  go_wp2_with (first | refine wpList_load_want (by rfl) 46 _ rfl w.heap.size rfl 46 cs (0, 0) _ HX6.out.box Tryd.underlying46 rfl HI.out ?_ | fail)
  refine (implies_any x va lx la _ HV6.out (HA.out.below HX6.out.below)).mono ?_
  rw [HIa.out]
  rintro e W7 ⟨rfl, hb⟩
  have HX7 : Hid (Bx w cs W7) := HX6.out.next hb
  have HV7 : Hid (TV W7 x lx) := HV6.out.below hb
  clear hb HX6 HV6
  go_wp2_with (first | refine wpList_load_want (by rfl) 46 _ rfl w.heap.size rfl 46 cs (0, 0) _ HX7.out.box Tryd.underlying46 rfl HI.out ?_ | fail)
  refine (implies_any x vb lx lb _ HV7.out (HBb.out.below HX7.out.below)).mono ?_
  rw [HIb.out]
  rintro e W8 ⟨rfl, hb⟩
  have HX8 : Hid (Bx w cs W8) := HX7.out.next hb
  have HV8 : Hid (TV W8 x lx) := HV7.out.below hb
  clear hb HX7 HV7
  go_wp2_with (first | refine wpList_load_want (by rfl) 46 _ rfl w.heap.size rfl 46 cs (0, 0) _ HX8.out.box Tryd.underlying46 rfl HI.out ?_ | fail)
  refine (implies_any va vb la lb _ (HA.out.below HX8.out.below) (HBb.out.below HX8.out.below)).mono ?_
  rw [HIM.out]
  rintro e W9 ⟨rfl, hb⟩
  have HX9 : Hid (Bx w cs W9) := HX8.out.next hb
  have HV9 : Hid (TV W9 x lx) := HV8.out.below hb
  clear hb HX8 HV8
  go_wp2_with (first | refine wpList_load_want (by rfl) 46 _ rfl w.heap.size rfl 46 cs (0, 0) _ HX9.out.box Tryd.underlying46 rfl HI.out ?_ | fail)
  refine (satisfies_any cs HST.out va la HCa.out _ (HA.out.below HX9.out.below)).mono ?_
  rw [HSa.out]
  rintro e W10 ⟨rfl, hb⟩
  have HX10 : Hid (Bx w cs W10) := HX9.out.next hb
  have HV10 : Hid (TV W10 x lx) := HV9.out.below hb
  clear hb HX9 HV9
  go_wp2_with (first | refine wpList_load_want (by rfl) 46 _ rfl w.heap.size rfl 46 cs (0, 0) _ HX10.out.box Tryd.underlying46 rfl HI.out ?_ | fail)
  go_ret
  exact ⟨rfl, HX10.out.below⟩
set_option maxRecDepth 20000 in
set_option maxHeartbeats 4000000 in
theorem both_y_tf_n (va vb : Value) (cs : Array Value) (la lb : List Tm) (w : World) (hst : St cs) (ha : TV w va la) (hb : TV w vb lb) (htab : w.cell? ⟨2, 15, none⟩ = some (.int .u8 4)) (hca : chk abV 0 la = true) (hcb : chk abV 0 lb = true) (hsa : sat (gets cs) la = true) (hsb : sat (gets cs) lb = false) (hj : jn la lb = none) :
    Calls Tryd.prog 5 #[.agg cs, va, vb] w fun e w' => e = .returned (.bool true) ∧ Below w.heap.size w w' := by
  have HA : Hid (TV w va la) := ha
  have HBb : Hid (TV w vb lb) := hb
  have HT : Hid _ := htab
  have hgl : 2 < w.heap.size := cell_lt htab
  have HGL : Hid _ := hgl
  have HST : Hid _ := hst
  have HI : Hid _ := info_size hst.size
  clear ha hb htab hgl hst
  have HEa : Hid (chkE la = 0) := if_pos hca
  have HEb : Hid (chkE lb = 0) := if_pos hcb
  have HE : Hid (errOf la lb = 0) := if_pos (by simp [hca, hcb])
  have HCa : Hid _ := hca
  have HCb : Hid _ := hcb
  have HSa : Hid _ := hsa
  have HSb : Hid _ := hsb
  have HN : Hid (andOf la lb = none) := (and_of hca hcb).trans hj
  clear hca hcb hsa hj hsb
  go_enter Tryd.func5, Tryd.ntmps5
  have HX0 : Hid _ := Bx.start w cs
  go_wp2_with fail
  refine (lives_any _ ((World.cell?_alloc_lt (a := ⟨2, 15, none⟩) _ _ HGL.out).trans HT.out)).mono ?_
  rintro e W1 ⟨rfl, hb⟩
  have HX1 : Hid (Bx w cs W1) := HX0.out.next hb
  clear hb HT HX0
  go_wp2_with (first | refine wpList_load_want (by rfl) 46 _ rfl w.heap.size rfl 46 cs (0, 0) _ HX1.out.box Tryd.underlying46 rfl HI.out ?_ | fail)
  refine (check_any va la _ (HA.out.below HX1.out.below)).mono ?_
  rw [HEa.out]
  rintro e W2 ⟨rfl, hb⟩
  have HX2 : Hid (Bx w cs W2) := HX1.out.next hb
  clear hb HX1
  go_wp2_with (first | refine wpList_load_want (by rfl) 46 _ rfl w.heap.size rfl 46 cs (0, 0) _ HX2.out.box Tryd.underlying46 rfl HI.out ?_ | fail)
  refine (check_any vb lb _ (HBb.out.below HX2.out.below)).mono ?_
  rw [HEb.out]
  rintro e W3 ⟨rfl, hb⟩
  have HX3 : Hid (Bx w cs W3) := HX2.out.next hb
  clear hb HX2
  go_wp2_with (first | refine wpList_load_want (by rfl) 46 _ rfl w.heap.size rfl 46 cs (0, 0) _ HX3.out.box Tryd.underlying46 rfl HI.out ?_ | fail)
  refine (satisfies_any cs HST.out va la HCa.out _ (HA.out.below HX3.out.below)).mono ?_
  rw [HSa.out]
  rintro e W4 ⟨rfl, hb⟩
  have HX4 : Hid (Bx w cs W4) := HX3.out.next hb
  clear hb HX3
  go_wp2_with (first | refine wpList_load_want (by rfl) 46 _ rfl w.heap.size rfl 46 cs (0, 0) _ HX4.out.box Tryd.underlying46 rfl HI.out ?_ | fail)
  refine (satisfies_any cs HST.out vb lb HCb.out _ (HBb.out.below HX4.out.below)).mono ?_
  rw [HSb.out]
  rintro e W5 ⟨rfl, hb⟩
  have HX5 : Hid (Bx w cs W5) := HX4.out.next hb
  clear hb HX4
  go_wp2_with (first | refine wpList_load_want (by rfl) 46 _ rfl w.heap.size rfl 46 cs (0, 0) _ HX5.out.box Tryd.underlying46 rfl HI.out ?_ | fail)
  refine (and_any va vb la lb _ (HA.out.below HX5.out.below) (HBb.out.below HX5.out.below)).mono ?_
  rw [HN.out, HE.out]
  rintro e W6 ⟨x, rfl, hx, hb⟩
  have HX6 : Hid (Bx w cs W6) := HX5.out.next hb
  simp only [Option.isSome_none]
  clear hb hx HX5
  go_wp2_with (first | refine wpList_load_want (by rfl) 46 _ rfl w.heap.size rfl 46 cs (0, 0) _ HX6.out.box Tryd.underlying46 rfl HI.out ?_ | fail)
  refine (meet_any va vb la lb _ (HA.out.below HX6.out.below) (HBb.out.below HX6.out.below)).mono ?_
  rw [HN.out]
  rintro e W7 ⟨rfl, hb⟩
  have HX7 : Hid (Bx w cs W7) := HX6.out.next hb
  clear hb HX6
  simp only [Option.isSome_none]
  go_wp2_with (first | refine wpList_load_want (by rfl) 46 _ rfl w.heap.size rfl 46 cs (0, 0) _ HX7.out.box Tryd.underlying46 rfl HI.out ?_ | fail)
  go_ret
  exact ⟨rfl, HX7.out.below⟩
set_option maxRecDepth 20000 in
set_option maxHeartbeats 4000000 in
theorem both_y_tf_sf (va vb : Value) (cs : Array Value) (la lb : List Tm) (w : World) (hst : St cs) (ha : TV w va la) (hb : TV w vb lb) (htab : w.cell? ⟨2, 15, none⟩ = some (.int .u8 4)) (hca : chk abV 0 la = true) (hcb : chk abV 0 lb = true) (hsa : sat (gets cs) la = true) (hsb : sat (gets cs) lb = false) (lx : List Tm) (hj : jn la lb = some lx) (hi : impOf la lb = false) :
    Calls Tryd.prog 5 #[.agg cs, va, vb] w fun e w' => e = .returned (.bool true) ∧ Below w.heap.size w w' := by
  have HA : Hid (TV w va la) := ha
  have HBb : Hid (TV w vb lb) := hb
  have HT : Hid _ := htab
  have hgl : 2 < w.heap.size := cell_lt htab
  have HGL : Hid _ := hgl
  have HST : Hid _ := hst
  have HI : Hid _ := info_size hst.size
  clear ha hb htab hgl hst
  have HEa : Hid (chkE la = 0) := if_pos hca
  have HEb : Hid (chkE lb = 0) := if_pos hcb
  have HE : Hid (errOf la lb = 0) := if_pos (by simp [hca, hcb])
  have HCa : Hid _ := hca
  have HCb : Hid _ := hcb
  have HSa : Hid _ := hsa
  have HSb : Hid _ := hsb
  have HN : Hid (andOf la lb = some lx) := (and_of hca hcb).trans hj
  have HCx : Hid (chk abV 0 lx = true) := (jn_some hca hcb hj).1
  have HSx : Hid (sat (gets cs) lx = false) := by
    show _ = _
    rw [sat_both hca hcb hj, hsa, hsb]; rfl
  have HIa : Hid (impOf lx la = true) := (imp_of HCx.out hca).trans (fol_left hca hcb hj)
  have HIb : Hid (impOf lx lb = true) := (imp_of HCx.out hcb).trans (fol_right hca hcb hj)
  have HIM : Hid _ := hi
  clear hca hcb hsa hj hsb hi
  go_enter Tryd.func5, Tryd.ntmps5
  have HX0 : Hid _ := Bx.start w cs
  go_wp2_with fail
  refine (lives_any _ ((World.cell?_alloc_lt (a := ⟨2, 15, none⟩) _ _ HGL.out).trans HT.out)).mono ?_
  rintro e W1 ⟨rfl, hb⟩
  have HX1 : Hid (Bx w cs W1) := HX0.out.next hb
  clear hb HT HX0
  go_wp2_with (first | refine wpList_load_want (by rfl) 46 _ rfl w.heap.size rfl 46 cs (0, 0) _ HX1.out.box Tryd.underlying46 rfl HI.out ?_ | fail)
  refine (check_any va la _ (HA.out.below HX1.out.below)).mono ?_
  rw [HEa.out]
  rintro e W2 ⟨rfl, hb⟩
  have HX2 : Hid (Bx w cs W2) := HX1.out.next hb
  clear hb HX1
  go_wp2_with (first | refine wpList_load_want (by rfl) 46 _ rfl w.heap.size rfl 46 cs (0, 0) _ HX2.out.box Tryd.underlying46 rfl HI.out ?_ | fail)
  refine (check_any vb lb _ (HBb.out.below HX2.out.below)).mono ?_
  rw [HEb.out]
  rintro e W3 ⟨rfl, hb⟩
  have HX3 : Hid (Bx w cs W3) := HX2.out.next hb
  clear hb HX2
  go_wp2_with (first | refine wpList_load_want (by rfl) 46 _ rfl w.heap.size rfl 46 cs (0, 0) _ HX3.out.box Tryd.underlying46 rfl HI.out ?_ | fail)
  refine (satisfies_any cs HST.out va la HCa.out _ (HA.out.below HX3.out.below)).mono ?_
  rw [HSa.out]
  rintro e W4 ⟨rfl, hb⟩
  have HX4 : Hid (Bx w cs W4) := HX3.out.next hb
  clear hb HX3
  go_wp2_with (first | refine wpList_load_want (by rfl) 46 _ rfl w.heap.size rfl 46 cs (0, 0) _ HX4.out.box Tryd.underlying46 rfl HI.out ?_ | fail)
  refine (satisfies_any cs HST.out vb lb HCb.out _ (HBb.out.below HX4.out.below)).mono ?_
  rw [HSb.out]
  rintro e W5 ⟨rfl, hb⟩
  have HX5 : Hid (Bx w cs W5) := HX4.out.next hb
  clear hb HX4
  go_wp2_with (first | refine wpList_load_want (by rfl) 46 _ rfl w.heap.size rfl 46 cs (0, 0) _ HX5.out.box Tryd.underlying46 rfl HI.out ?_ | fail)
  refine (and_any va vb la lb _ (HA.out.below HX5.out.below) (HBb.out.below HX5.out.below)).mono ?_
  rw [HN.out, HE.out]
  rintro e W6 ⟨x, rfl, hx, hb⟩
  have HX6 : Hid (Bx w cs W6) := HX5.out.next hb
  simp only [Option.isSome_some]
  have HV6 : Hid (TV W6 x lx) := hx
  clear hb hx HX5
  go_wp2_with (first | refine wpList_load_want (by rfl) 46 _ rfl w.heap.size rfl 46 cs (0, 0) _ HX6.out.box Tryd.underlying46 rfl HI.out ?_ | fail)
  refine (satisfies_any cs HST.out x lx HCx.out _ HV6.out).mono ?_
  rw [HSx.out]
  rintro e W7 ⟨rfl, hb⟩
  have HX7 : Hid (Bx w cs W7) := HX6.out.next hb
  have HV7 : Hid (TV W7 x lx) := HV6.out.below hb
  clear hb HX6 HV6
  go_wp2_with (first | refine wpList_load_want (by rfl) 46 _ rfl w.heap.size rfl 46 cs (0, 0) _ HX7.out.box Tryd.underlying46 rfl HI.out ?_ | fail)
  refine (implies_any x va lx la _ HV7.out (HA.out.below HX7.out.below)).mono ?_
  rw [HIa.out]
  rintro e W8 ⟨rfl, hb⟩
  have HX8 : Hid (Bx w cs W8) := HX7.out.next hb
  have HV8 : Hid (TV W8 x lx) := HV7.out.below hb
  clear hb HX7 HV7
  go_wp2_with (first | refine wpList_load_want (by rfl) 46 _ rfl w.heap.size rfl 46 cs (0, 0) _ HX8.out.box Tryd.underlying46 rfl HI.out ?_ | fail)
  refine (implies_any x vb lx lb _ HV8.out (HBb.out.below HX8.out.below)).mono ?_
  rw [HIb.out]
  rintro e W9 ⟨rfl, hb⟩
  have HX9 : Hid (Bx w cs W9) := HX8.out.next hb
  have HV9 : Hid (TV W9 x lx) := HV8.out.below hb
  clear hb HX8 HV8
  go_wp2_with (first | refine wpList_load_want (by rfl) 46 _ rfl w.heap.size rfl 46 cs (0, 0) _ HX9.out.box Tryd.underlying46 rfl HI.out ?_ | fail)
  refine (implies_any va vb la lb _ (HA.out.below HX9.out.below) (HBb.out.below HX9.out.below)).mono ?_
  rw [HIM.out]
  rintro e W10 ⟨rfl, hb⟩
  have HX10 : Hid (Bx w cs W10) := HX9.out.next hb
  have HV10 : Hid (TV W10 x lx) := HV9.out.below hb
  clear hb HX9 HV9
  go_wp2_with (first | refine wpList_load_want (by rfl) 46 _ rfl w.heap.size rfl 46 cs (0, 0) _ HX10.out.box Tryd.underlying46 rfl HI.out ?_ | fail)
  go_ret
  exact ⟨rfl, HX10.out.below⟩
set_option maxRecDepth 20000 in
set_option maxHeartbeats 4000000 in
theorem both_y_tt_sf (va vb : Value) (cs : Array Value) (la lb : List Tm) (w : World) (hst : St cs) (ha : TV w va la) (hb : TV w vb lb) (htab : w.cell? ⟨2, 15, none⟩ = some (.int .u8 4)) (hca : chk abV 0 la = true) (hcb : chk abV 0 lb = true) (hsa : sat (gets cs) la = true) (hsb : sat (gets cs) lb = true) (lx : List Tm) (hj : jn la lb = some lx) (hi : impOf la lb = false) :
    Calls Tryd.prog 5 #[.agg cs, va, vb] w fun e w' => e = .returned (.bool true) ∧ Below w.heap.size w w' := by
  have HA : Hid (TV w va la) := ha
  have HBb : Hid (TV w vb lb) := hb
  have HT : Hid _ := htab
  have hgl : 2 < w.heap.size := cell_lt htab
  have HGL : Hid _ := hgl
  have HST : Hid _ := hst
  have HI : Hid _ := info_size hst.size
  clear ha hb htab hgl hst
  have HEa : Hid (chkE la = 0) := if_pos hca
  have HEb : Hid (chkE lb = 0) := if_pos hcb
  have HE : Hid (errOf la lb = 0) := if_pos (by simp [hca, hcb])
  have HCa : Hid _ := hca
  have HCb : Hid _ := hcb
  have HSa : Hid _ := hsa
  have HSb : Hid _ := hsb
  have HN : Hid (andOf la lb = some lx) := (and_of hca hcb).trans hj
  have HCx : Hid (chk abV 0 lx = true) := (jn_some hca hcb hj).1
  have HSx : Hid (sat (gets cs) lx = true) := by
    show _ = _
    rw [sat_both hca hcb hj, hsa, hsb]; rfl
  have HIa : Hid (impOf lx la = true) := (imp_of HCx.out hca).trans (fol_left hca hcb hj)
  have HIb : Hid (impOf lx lb = true) := (imp_of HCx.out hcb).trans (fol_right hca hcb hj)
  have HIM : Hid _ := hi
  clear hca hcb hsa hj hsb hi
  go_enter Tryd.func5, Tryd.ntmps5
  have HX0 : Hid _ := Bx.start w cs
  go_wp2_with fail
  refine (lives_any _ ((World.cell?_alloc_lt (a := ⟨2, 15, none⟩) _ _ HGL.out).trans HT.out)).mono ?_
  rintro e W1 ⟨rfl, hb⟩
  have HX1 : Hid (Bx w cs W1) := HX0.out.next hb
  clear hb HT HX0
  go_wp2_with (first | refine wpList_load_want (by rfl) 46 _ rfl w.heap.size rfl 46 cs (0, 0) _ HX1.out.box Tryd.underlying46 rfl HI.out ?_ | fail)
  refine (check_any va la _ (HA.out.below HX1.out.below)).mono ?_
  rw [HEa.out]
  rintro e W2 ⟨rfl, hb⟩
  have HX2 : Hid (Bx w cs W2) := HX1.out.next hb
  clear hb HX1
  go_wp2_with (first | refine wpList_load_want (by rfl) 46 _ rfl w.heap.size rfl 46 cs (0, 0) _ HX2.out.box Tryd.underlying46 rfl HI.out ?_ | fail)
  refine (check_any vb lb _ (HBb.out.below HX2.out.below)).mono ?_
  rw [HEb.out]
  rintro e W3 ⟨rfl, hb⟩
  have HX3 : Hid (Bx w cs W3) := HX2.out.next hb
  clear hb HX2
  go_wp2_with (first | refine wpList_load_want (by rfl) 46 _ rfl w.heap.size rfl 46 cs (0, 0) _ HX3.out.box Tryd.underlying46 rfl HI.out ?_ | fail)
  refine (satisfies_any cs HST.out va la HCa.out _ (HA.out.below HX3.out.below)).mono ?_
  rw [HSa.out]
  rintro e W4 ⟨rfl, hb⟩
  have HX4 : Hid (Bx w cs W4) := HX3.out.next hb
  clear hb HX3
  go_wp2_with (first | refine wpList_load_want (by rfl) 46 _ rfl w.heap.size rfl 46 cs (0, 0) _ HX4.out.box Tryd.underlying46 rfl HI.out ?_ | fail)
  refine (satisfies_any cs HST.out vb lb HCb.out _ (HBb.out.below HX4.out.below)).mono ?_
  rw [HSb.out]
  rintro e W5 ⟨rfl, hb⟩
  have HX5 : Hid (Bx w cs W5) := HX4.out.next hb
  clear hb HX4
  go_wp2_with (first | refine wpList_load_want (by rfl) 46 _ rfl w.heap.size rfl 46 cs (0, 0) _ HX5.out.box Tryd.underlying46 rfl HI.out ?_ | fail)
  refine (and_any va vb la lb _ (HA.out.below HX5.out.below) (HBb.out.below HX5.out.below)).mono ?_
  rw [HN.out, HE.out]
  rintro e W6 ⟨x, rfl, hx, hb⟩
  have HX6 : Hid (Bx w cs W6) := HX5.out.next hb
  simp only [Option.isSome_some]
  have HV6 : Hid (TV W6 x lx) := hx
  clear hb hx HX5
  go_wp2_with (first | refine wpList_load_want (by rfl) 46 _ rfl w.heap.size rfl 46 cs (0, 0) _ HX6.out.box Tryd.underlying46 rfl HI.out ?_ | fail)
  refine (satisfies_any cs HST.out x lx HCx.out _ HV6.out).mono ?_
  rw [HSx.out]
  rintro e W7 ⟨rfl, hb⟩
  have HX7 : Hid (Bx w cs W7) := HX6.out.next hb
  have HV7 : Hid (TV W7 x lx) := HV6.out.below hb
  clear hb HX6 HV6
  go_wp2_with (first | refine wpList_load_want (by rfl) 46 _ rfl w.heap.size rfl 46 cs (0, 0) _ HX7.out.box Tryd.underlying46 rfl HI.out ?_ | fail)
  refine (implies_any x va lx la _ HV7.out (HA.out.below HX7.out.below)).mono ?_
  rw [HIa.out]
  rintro e W8 ⟨rfl, hb⟩
  have HX8 : Hid (Bx w cs W8) := HX7.out.next hb
  have HV8 : Hid (TV W8 x lx) := HV7.out.below hb
  clear hb HX7 HV7
  go_wp2_with (first | refine wpList_load_want (by rfl) 46 _ rfl w.heap.size rfl 46 cs (0, 0) _ HX8.out.box Tryd.underlying46 rfl HI.out ?_ | fail)
  refine (implies_any x vb lx lb _ HV8.out (HBb.out.below HX8.out.below)).mono ?_
  rw [HIb.out]
  rintro e W9 ⟨rfl, hb⟩
  have HX9 : Hid (Bx w cs W9) := HX8.out.next hb
  have HV9 : Hid (TV W9 x lx) := HV8.out.below hb
  clear hb HX8 HV8
  go_wp2_with (first | refine wpList_load_want (by rfl) 46 _ rfl w.heap.size rfl 46 cs (0, 0) _ HX9.out.box Tryd.underlying46 rfl HI.out ?_ | fail)
  refine (implies_any va vb la lb _ (HA.out.below HX9.out.below) (HBb.out.below HX9.out.below)).mono ?_
  rw [HIM.out]
  rintro e W10 ⟨rfl, hb⟩
  have HX10 : Hid (Bx w cs W10) := HX9.out.next hb
  have HV10 : Hid (TV W10 x lx) := HV9.out.below hb
  clear hb HX9 HV9
  go_wp2_with (first | refine wpList_load_want (by rfl) 46 _ rfl w.heap.size rfl 46 cs (0, 0) _ HX10.out.box Tryd.underlying46 rfl HI.out ?_ | fail)
  go_ret
  exact ⟨rfl, HX10.out.below⟩
set_option maxRecDepth 20000 in
set_option maxHeartbeats 4000000 in
theorem both_y_tt_st (va vb : Value) (cs : Array Value) (la lb : List Tm) (w : World) (hst : St cs) (ha : TV w va la) (hb : TV w vb lb) (htab : w.cell? ⟨2, 15, none⟩ = some (.int .u8 4)) (hca : chk abV 0 la = true) (hcb : chk abV 0 lb = true) (hsa : sat (gets cs) la = true) (hsb : sat (gets cs) lb = true) (lx : List Tm) (hj : jn la lb = some lx) (hi : impOf la lb = true) :
    Calls Tryd.prog 5 #[.agg cs, va, vb] w fun e w' => e = .returned (.bool true) ∧ Below w.heap.size w w' := by
  have HA : Hid (TV w va la) := ha
  have HBb : Hid (TV w vb lb) := hb
  have HT : Hid _ := htab
  have hgl : 2 < w.heap.size := cell_lt htab
  have HGL : Hid _ := hgl
  have HST : Hid _ := hst
  have HI : Hid _ := info_size hst.size
  clear ha hb htab hgl hst
  have HEa : Hid (chkE la = 0) := if_pos hca
  have HEb : Hid (chkE lb = 0) := if_pos hcb
  have HE : Hid (errOf la lb = 0) := if_pos (by simp [hca, hcb])
  have HCa : Hid _ := hca
  have HCb : Hid _ := hcb
  have HSa : Hid _ := hsa
  have HSb : Hid _ := hsb
  have HN : Hid (andOf la lb = some lx) := (and_of hca hcb).trans hj
  have HCx : Hid (chk abV 0 lx = true) := (jn_some hca hcb hj).1
  have HSx : Hid (sat (gets cs) lx = true) := by
    show _ = _
    rw [sat_both hca hcb hj, hsa, hsb]; rfl
  have HIa : Hid (impOf lx la = true) := (imp_of HCx.out hca).trans (fol_left hca hcb hj)
  have HIb : Hid (impOf lx lb = true) := (imp_of HCx.out hcb).trans (fol_right hca hcb hj)
  have HIM : Hid _ := hi
  clear hca hcb hsa hj hsb hi
  go_enter Tryd.func5, Tryd.ntmps5
  have HX0 : Hid _ := Bx.start w cs
  go_wp2_with fail
  refine (lives_any _ ((World.cell?_alloc_lt (a := ⟨2, 15, none⟩) _ _ HGL.out).trans HT.out)).mono ?_
  rintro e W1 ⟨rfl, hb⟩
  have HX1 : Hid (Bx w cs W1) := HX0.out.next hb
  clear hb HT HX0
  go_wp2_with (first | refine wpList_load_want (by rfl) 46 _ rfl w.heap.size rfl 46 cs (0, 0) _ HX1.out.box Tryd.underlying46 rfl HI.out ?_ | fail)
  refine (check_any va la _ (HA.out.below HX1.out.below)).mono ?_
  rw [HEa.out]
  rintro e W2 ⟨rfl, hb⟩
  have HX2 : Hid (Bx w cs W2) := HX1.out.next hb
  clear hb HX1
  go_wp2_with (first | refine wpList_load_want (by rfl) 46 _ rfl w.heap.size rfl 46 cs (0, 0) _ HX2.out.box Tryd.underlying46 rfl HI.out ?_ | fail)
  refine (check_any vb lb _ (HBb.out.below HX2.out.below)).mono ?_
  rw [HEb.out]
  rintro e W3 ⟨rfl, hb⟩
  have HX3 : Hid (Bx w cs W3) := HX2.out.next hb
  clear hb HX2
  go_wp2_with (first | refine wpList_load_want (by rfl) 46 _ rfl w.heap.size rfl 46 cs (0, 0) _ HX3.out.box Tryd.underlying46 rfl HI.out ?_ | fail)
  refine (satisfies_any cs HST.out va la HCa.out _ (HA.out.below HX3.out.below)).mono ?_
  rw [HSa.out]
  rintro e W4 ⟨rfl, hb⟩
  have HX4 : Hid (Bx w cs W4) := HX3.out.next hb
  clear hb HX3
  go_wp2_with (first | refine wpList_load_want (by rfl) 46 _ rfl w.heap.size rfl 46 cs (0, 0) _ HX4.out.box Tryd.underlying46 rfl HI.out ?_ | fail)
  refine (satisfies_any cs HST.out vb lb HCb.out _ (HBb.out.below HX4.out.below)).mono ?_
  rw [HSb.out]
  rintro e W5 ⟨rfl, hb⟩
  have HX5 : Hid (Bx w cs W5) := HX4.out.next hb
  clear hb HX4
  go_wp2_with (first | refine wpList_load_want (by rfl) 46 _ rfl w.heap.size rfl 46 cs (0, 0) _ HX5.out.box Tryd.underlying46 rfl HI.out ?_ | fail)
  refine (and_any va vb la lb _ (HA.out.below HX5.out.below) (HBb.out.below HX5.out.below)).mono ?_
  rw [HN.out, HE.out]
  rintro e W6 ⟨x, rfl, hx, hb⟩
  have HX6 : Hid (Bx w cs W6) := HX5.out.next hb
  simp only [Option.isSome_some]
  have HV6 : Hid (TV W6 x lx) := hx
  clear hb hx HX5
  go_wp2_with (first | refine wpList_load_want (by rfl) 46 _ rfl w.heap.size rfl 46 cs (0, 0) _ HX6.out.box Tryd.underlying46 rfl HI.out ?_ | fail)
  refine (satisfies_any cs HST.out x lx HCx.out _ HV6.out).mono ?_
  rw [HSx.out]
  rintro e W7 ⟨rfl, hb⟩
  have HX7 : Hid (Bx w cs W7) := HX6.out.next hb
  have HV7 : Hid (TV W7 x lx) := HV6.out.below hb
  clear hb HX6 HV6
  go_wp2_with (first | refine wpList_load_want (by rfl) 46 _ rfl w.heap.size rfl 46 cs (0, 0) _ HX7.out.box Tryd.underlying46 rfl HI.out ?_ | fail)
  refine (implies_any x va lx la _ HV7.out (HA.out.below HX7.out.below)).mono ?_
  rw [HIa.out]
  rintro e W8 ⟨rfl, hb⟩
  have HX8 : Hid (Bx w cs W8) := HX7.out.next hb
  have HV8 : Hid (TV W8 x lx) := HV7.out.below hb
  clear hb HX7 HV7
  go_wp2_with (first | refine wpList_load_want (by rfl) 46 _ rfl w.heap.size rfl 46 cs (0, 0) _ HX8.out.box Tryd.underlying46 rfl HI.out ?_ | fail)
  refine (implies_any x vb lx lb _ HV8.out (HBb.out.below HX8.out.below)).mono ?_
  rw [HIb.out]
  rintro e W9 ⟨rfl, hb⟩
  have HX9 : Hid (Bx w cs W9) := HX8.out.next hb
  have HV9 : Hid (TV W9 x lx) := HV8.out.below hb
  clear hb HX8 HV8
  go_wp2_with (first | refine wpList_load_want (by rfl) 46 _ rfl w.heap.size rfl 46 cs (0, 0) _ HX9.out.box Tryd.underlying46 rfl HI.out ?_ | fail)
  refine (implies_any va vb la lb _ (HA.out.below HX9.out.below) (HBb.out.below HX9.out.below)).mono ?_
  rw [HIM.out]
  rintro e W10 ⟨rfl, hb⟩
  have HX10 : Hid (Bx w cs W10) := HX9.out.next hb
  have HV10 : Hid (TV W10 x lx) := HV9.out.below hb
  clear hb HX9 HV9
  go_wp2_with (first | refine wpList_load_want (by rfl) 46 _ rfl w.heap.size rfl 46 cs (0, 0) _ HX10.out.box Tryd.underlying46 rfl HI.out ?_ | fail)
  refine (satisfies_any cs HST.out va la HCa.out _ (HA.out.below HX10.out.below)).mono ?_
  rw [HSa.out]
  rintro e W11 ⟨rfl, hb⟩
  have HX11 : Hid (Bx w cs W11) := HX10.out.next hb
  have HV11 : Hid (TV W11 x lx) := HV10.out.below hb
  clear hb HX10 HV10
  go_wp2_with (first | refine wpList_load_want (by rfl) 46 _ rfl w.heap.size rfl 46 cs (0, 0) _ HX11.out.box Tryd.underlying46 rfl HI.out ?_ | fail)
  refine (satisfies_any cs HST.out vb lb HCb.out _ (HBb.out.below HX11.out.below)).mono ?_
  rw [HSb.out]
  rintro e W12 ⟨rfl, hb⟩
  have HX12 : Hid (Bx w cs W12) := HX11.out.next hb
  have HV12 : Hid (TV W12 x lx) := HV11.out.below hb
  clear hb HX11 HV11
  go_wp2_with (first | refine wpList_load_want (by rfl) 46 _ rfl w.heap.size rfl 46 cs (0, 0) _ HX12.out.box Tryd.underlying46 rfl HI.out ?_ | fail)
  go_ret
  exact ⟨rfl, HX12.out.below⟩
theorem both_law (va vb : Value) (cs : Array Value) (la lb : List Tm) (w : World) (hst : St cs) (ha : TV w va la) (hb : TV w vb lb) (htab : w.cell? ⟨2, 15, none⟩ = some (.int .u8 4)) :
    Calls Tryd.prog 5 #[.agg cs, va, vb] w fun e w' => e = .returned (.bool true) ∧ Below w.heap.size w w' := by
  cases hca : chk abV 0 la
  · exact both_n1 va vb cs la lb w hst ha hb htab hca
  cases hcb : chk abV 0 lb
  · exact both_n2 va vb cs la lb w hst ha hb htab hca hcb
  cases hsa : sat (gets cs) la
  · cases hj : jn la lb with
    | none => exact both_y_f_n va vb cs la lb w hst ha hb htab hca hcb hsa hj
    | some lx =>
      cases hi : impOf la lb
      · exact both_y_f_sf va vb cs la lb w hst ha hb htab hca hcb hsa lx hj hi
      · exact both_y_f_st va vb cs la lb w hst ha hb htab hca hcb hsa lx hj hi
  · cases hsb : sat (gets cs) lb
    · cases hj : jn la lb with
      | none => exact both_y_tf_n va vb cs la lb w hst ha hb htab hca hcb hsa hsb hj
      | some lx =>
        cases hi : impOf la lb
        · exact both_y_tf_sf va vb cs la lb w hst ha hb htab hca hcb hsa hsb lx hj hi
        · rw [imp_of hca hcb] at hi
          have := sat_imp hca hcb hi hsa
          rw [hsb] at this
          cases this
    · cases hj : jn la lb with
      | none =>
        have := sat_none (g := gets cs) hca hcb hj
        rw [hsa, hsb] at this
        cases this
      | some lx =>
        cases hi : impOf la lb
        · exact both_y_tt_sf va vb cs la lb w hst ha hb htab hca hcb hsa hsb lx hj hi
        · exact both_y_tt_st va vb cs la lb w hst ha hb htab hca hcb hsa hsb lx hj hi
end Go.Proofs.YtpinhnkceaephaaDoor
