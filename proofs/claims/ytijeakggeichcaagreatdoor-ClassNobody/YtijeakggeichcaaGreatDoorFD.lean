/- vlan.tag read and written; which packets have a field; small functions of the table. Conditions: the State has its cells. -/
import Derived.Test.YtijeakggeichcaaGreatDoorFC
namespace Go.Proofs.YtijeakggeichcaaGreatDoor
open Go.RowKit
theorem info_size {c : Array Value} (h : c.size = 49) : (Tryz.prog.info? 50).map (·.size) = some c.size := by rw [h]; exact size49
theorem two_below {w w2 : World} {A B : Obj} (h : w2 = (w.alloc A).alloc B) : Below w.heap.size w w2 := by subst h; exact below2 w A B
def tagNo (cs : Array Value) : Array Value := (cs.setIfInBounds 2 (.bool false)).setIfInBounds 3 (.int .i64 0)
def tagYes (cs : Array Value) (v : Int) : Array Value := ((tagNo cs).setIfInBounds 2 (.bool true)).setIfInBounds 3 (.int .i64 (wrap64 (IntKind.u64.wrap (v - 65536))))
theorem tagNo_size (cs : Array Value) : (tagNo cs).size = cs.size := by simp [tagNo]
theorem tagYes_size (cs : Array Value) (v : Int) : (tagYes cs v).size = cs.size := by simp [tagYes, tagNo]
theorem tagNo_one {cs : Array Value} (h : cs.all (·.oneCell') = true) : (tagNo cs).all (·.oneCell') = true := set_one (set_one h rfl) rfl
theorem tagYes_one {cs : Array Value} (h : cs.all (·.oneCell') = true) (v : Int) : (tagYes cs v).all (·.oneCell') = true := set_one (set_one (tagNo_one h) rfl) rfl

set_option maxHeartbeats 2000000 in
set_option maxRecDepth 20000 in
theorem writeTag_no (cs : Array Value) (t v : Int) (b : Bool) (hs : cs.size = 49) (h1 : cs.all (·.oneCell') = true) (h2 : cs[2]? = some (.bool b)) (h3 : cs[3]? = some (.int .i64 t)) (hv : (bits BinOp.and IntKind.u64 v 65536 != 0) = false) (w : World) :
    Calls Tryz.prog 97 #[.agg cs, .int .u64 v] w fun e w' => e = .returned (.agg (tagNo cs)) ∧ Below w.heap.size w w' := by
  have g1 : (cs.setIfInBounds 2 (.bool false))[2]? = some (.bool false) := Array.getElem?_setIfInBounds_self_of_lt (by omega)
  have g2 : ((cs.setIfInBounds 2 (.bool false)).setIfInBounds 3 (.int .i64 0))[3]? = some (.int .i64 0) := Array.getElem?_setIfInBounds_self_of_lt (by rw [Array.size_setIfInBounds]; omega)
  have h1' : Array.all ((cs.setIfInBounds 2 (.bool false)).setIfInBounds 3 (.int .i64 0)) (·.oneCell') = true := tagNo_one h1
  have hs' : Array.size ((cs.setIfInBounds 2 (.bool false)).setIfInBounds 3 (.int .i64 0)) = 49 := by simp [hs]
  have hi' := info_size hs'
  have H1 : Hid _ := h1'
  have HI : Hid _ := hi'
  have HS : Hid _ := hs'
  clear hs h1 h1' hi' hs'
  go_enter Tryz.func97, Tryz.ntmps97
  go_wp2_with (first
    | refine wpList_load_row rfl 50 _ rfl w.heap.size rfl 50 ((cs.setIfInBounds 2 (.bool false)).setIfInBounds 3 (.int .i64 0)) (0, 0) _ (two_first _ _ _) Tryz.underlying50 rfl HI.out ?_
    | refine wpList_store_new rfl 50 _ _ rfl _ ((cs.setIfInBounds 2 (.bool false)).setIfInBounds 3 (.int .i64 0)) (w.heap.size + 1) (by simp) rfl rfl HI.out (Eq.trans (b := 49) rfl HS.out.symm) H1.out ?_
    | fail)
  exact bodyPost_ret (results_cell_row (p := 4) (ty := 50) rfl _ _ (w.heap.size + 1) 50 ((cs.setIfInBounds 2 (.bool false)).setIfInBounds 3 (.int .i64 0)) (0, 0) _ rfl (two_last _ _ _) Tryz.underlying50 rfl HI.out) rfl ⟨rfl, below2 _ _ _⟩

set_option maxHeartbeats 400000 in
set_option maxRecDepth 20000 in
theorem writeTag_yes (cs : Array Value) (t v : Int) (b : Bool) (hs : cs.size = 49) (h1 : cs.all (·.oneCell') = true) (h2 : cs[2]? = some (.bool b)) (h3 : cs[3]? = some (.int .i64 t)) (hv : (bits BinOp.and IntKind.u64 v 65536 != 0) = true) (w : World) :
    Calls Tryz.prog 97 #[.agg cs, .int .u64 v] w fun e w' => e = .returned (.agg (tagYes cs v)) ∧ Below w.heap.size w w' := by
  have g1 : (cs.setIfInBounds 2 (.bool false))[2]? = some (.bool false) := Array.getElem?_setIfInBounds_self_of_lt (by omega)
  have g2 : ((cs.setIfInBounds 2 (.bool false)).setIfInBounds 3 (.int .i64 0))[3]? = some (.int .i64 0) := Array.getElem?_setIfInBounds_self_of_lt (by rw [Array.size_setIfInBounds]; omega)
  have h1' : Array.all ((((cs.setIfInBounds 2 (.bool false)).setIfInBounds 3 (.int .i64 0)).setIfInBounds 2 (.bool true)).setIfInBounds 3 (.int .i64 (wrap64 (IntKind.u64.wrap (v - 65536))))) (·.oneCell') = true := tagYes_one h1 v
  have hs' : Array.size ((((cs.setIfInBounds 2 (.bool false)).setIfInBounds 3 (.int .i64 0)).setIfInBounds 2 (.bool true)).setIfInBounds 3 (.int .i64 (wrap64 (IntKind.u64.wrap (v - 65536))))) = 49 := by simp [hs]
  have hi' := info_size hs'
  have H1 : Hid _ := h1'
  have HI : Hid _ := hi'
  have HS : Hid _ := hs'
  clear hs h1 h1' hi' hs'
  go_enter Tryz.func97, Tryz.ntmps97
  generalize hX : wrap64 (IntKind.u64.wrap (v - 65536)) = X at *
  go_wp2_with (first
    | refine wpList_load_row rfl 50 _ rfl w.heap.size rfl 50 _ (0, 0) _ (two_first _ _ _) Tryz.underlying50 rfl ?_ ?_
    | refine wpList_store_new rfl 50 _ _ rfl _ _ (w.heap.size + 1) (by simp) rfl rfl ?_ ?_ ?_ ?_
    | fail)
  · exact HI.out
  · exact HI.out
  · exact Eq.trans (b := 49) rfl HS.out.symm
  · exact H1.out
  · refine bodyPost_ret (results_cell_row (p := 4) (ty := 50) rfl _ _ (w.heap.size + 1) 50 _ (0, 0) _ rfl (two_last _ _ _) Tryz.underlying50 rfl ?_) rfl ⟨by subst hX; rfl, below2 _ _ _⟩
    exact HI.out


set_option maxHeartbeats 400000 in
theorem readTag_yes (cs : Array Value) (t : Int) (h2 : cs[2]? = some (.bool true)) (h3 : cs[3]? = some (.int .i64 t)) (w : World) :
    Calls Tryz.prog 96 #[.agg cs] w fun e w' => e = .returned (.int .u64 (IntKind.u64.wrap (IntKind.u64.wrap t + 65536))) ∧ Below w.heap.size w w' := by
  go_enter Tryz.func96, Tryz.ntmps96
  go_wp2
  go_ret
  exact ⟨rfl, below1 _ _⟩
set_option maxHeartbeats 400000 in
theorem readTag_no (cs : Array Value) (h2 : cs[2]? = some (.bool false)) (w : World) :
    Calls Tryz.prog 96 #[.agg cs] w fun e w' => e = .returned (.int .u64 0) ∧ Below w.heap.size w w' := by
  go_enter Tryz.func96, Tryz.ntmps96
  go_wp2
  go_ret
  exact ⟨rfl, below1 _ _⟩
set_option maxHeartbeats 400000 in
theorem isField_any (name : ByteArray) (bits of_ : Int) (R S : Value) (w : World) : Calls Tryz.prog 66 #[rowV name bits of_ R S] w fun e w' => e = .returned (.bool !name.toList.isEmpty) ∧ Below w.heap.size w w' := by
  unfold rowV
  go_enter Tryz.func66, Tryz.ntmps66
  go_wp2
  go_ret
  exact ⟨rfl, below1 _ _⟩
theorem ones_val : ∀ n, n ≤ 48 → IntKind.u64.wrap (IntKind.u64.wrap (2 ^ n) - 1) = (2 ^ n - 1 : Int) := by decide +kernel
set_option maxHeartbeats 400000 in
theorem ones_any (n : Nat) (hn : n ≤ 48) (w : World) : Calls Tryz.prog 68 #[.int .i64 n] w fun e w' => e = .returned (.int .u64 (2 ^ n - 1)) ∧ w' = w := by
  go_enter Tryz.func68, Tryz.ntmps68
  go_wp2
  go_ret
  exact ⟨congrArg (fun x => Ending.returned (.int .u64 x)) (ones_val n hn), rfl⟩
/-- Has a packet a field of that sort? -/
def ofB (which : Nat) (arp ip : Bool) (kind : Int) : Bool :=
  match which with
  | 1 => arp
  | 2 => ip
  | 3 => ip && kind == 1
  | 4 => ip && (kind == 2 || kind == 3)
  | 5 => ip && kind == 3
  | _ => true
set_option maxHeartbeats 1000000 in
theorem isOf_any (which : Nat) (hw : which ≤ 5) (ps : Array Value) (arp ip : Bool) (kind : Int) (h5 : ps[5]? = some (.bool arp)) (h11 : ps[11]? = some (.bool ip)) (h20 : ps[20]? = some (.int .i64 kind)) (w : World) :
    Calls Tryz.prog 67 #[.agg ps, .int .i64 which] w fun e w' => e = .returned (.bool (ofB which arp ip kind)) ∧ Below w.heap.size w w' := by
  have hB := below1 w (.cells ps 45)
  have HB : Hid _ := hB
  clear hB
  match which, hw with
  | 0, _ | 1, _ | 2, _ =>
    go_enter Tryz.func67, Tryz.ntmps67
    go_wp2
    go_ret
    exact ⟨rfl, HB.out⟩
  | 3, _ | 5, _ =>
    cases ip <;> cases h1 : (kind == 1) <;> cases h3 : (kind == 3) <;>
    · go_enter Tryz.func67, Tryz.ntmps67
      go_wp2
      go_ret
      exact ⟨by simp [ofB, h1, h3], HB.out⟩
  | 4, _ =>
    cases ip <;> cases h1 : (kind == 2) <;> cases h3 : (kind == 3) <;>
    · go_enter Tryz.func67, Tryz.ntmps67
      go_wp2
      go_ret
      exact ⟨by simp [ofB, h1, h3], HB.out⟩
end Go.Proofs.YtijeakggeichcaaGreatDoor
