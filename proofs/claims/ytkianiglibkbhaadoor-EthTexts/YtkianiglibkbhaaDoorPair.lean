/- What putPair within MacText does: two digits are appended. Conditions: at most a million bytes lie there. -/
import Derived.Test.YtkianiglibkbhaaDoorHead
import Derived.Maps.AppendAt
import Derived.OneCell
import Derived.Deep.RegionLaw
import Derived.Deep.RegionWith
import Derived.Deep.DrawnRows
namespace Go.Proofs.YtkianiglibkbhaaDoor
open Go.RowKit

theorem bs_one (w : World) (x : Int) (B : Nat) (hB : B = w.heap.size) (hx : 0 ≤ x ∧ x ≤ 255) :
    BS (w.alloc (.cells #[.int .u8 x] 5)) (some ⟨B, 0, none⟩) 1 [x] := by
  refine bs_new 5 w _ [x] 1 B hB rfl rfl ?_ (by omega)
  simp [hx]

/-- A variable of a call's own in block p that holds a row of bytes of the call's own. -/
structure Enc (w0 W : World) (p : Nat) (xs : List Int) : Prop where
  bel : Below w0.heap.size w0 W
  here : w0.heap.size ≤ p
  row : ∃ a cap, W.heap[p]? = some (.cells #[.slice a xs.length cap] 42 (0, 0)) ∧ W.ownsRow w0.heap.size 5 1 (.slice a xs.length cap) xs.length (xs.map (Value.int .u8))

theorem row_apart {W : World} {base p : Nat} {v u : Value} {n : Nat} {xs : List Value} (h : W.ownsRow base 5 1 v n xs) (hp : W.heap[p]? = some (.cells #[u] 42 (0, 0))) : v.ownBlock ≠ some p := by
  intro e
  rcases h.2 with ⟨rfl, _⟩ | ⟨g, cap, cur, rfl, _, hg, _⟩
  · cases e
  · simp only [Value.ownBlock] at e
    cases e
    rw [hg] at hp
    simp at hp

theorem enc_start (w2 : World) (arr : Array Value) (c p g : Nat) (hp : p = w2.heap.size + 1) (hg : g = w2.heap.size) (hc : arr.size = c) (hm : c ≤ 1000000) :
    Enc w2 ((w2.alloc (.cells arr 5)).alloc (.cells #[.slice (some ⟨g, 0, none⟩) 0 c] 42)) p [] := by
  subst hp
  subst hg
  refine ⟨below2 w2 _ _, by omega, some ⟨w2.heap.size, 0, none⟩, c, ?_, ?_⟩
  · have := heap_alloc_new (w2.alloc (.cells arr 5)) (.cells #[.slice (some ⟨w2.heap.size, 0, none⟩) 0 c] 42)
    simpa using this
  · exact (World.ownsRow_made w2 arr c (Nat.le_refl _) (by unfold maxLen; omega) (by simpa using hc)).alloc _

def hx (k : Int) : Int := if k < 10 then 48 + k else 87 + k
theorem hx_bd (k : Int) (h0 : 0 ≤ k) (h1 : k ≤ 15) : 0 ≤ hx k ∧ hx k ≤ 255 := by unfold hx; split <;> omega

theorem index_hex0 (w : World) : (Instr.index 9 (.string { data := #[48, 49, 50, 51, 52, 53, 54, 55, 56, 57, 97, 98, 99, 100, 101, 102] }) (.int .u8 0)).run Tryd.prog w = .ok (.int .u8 48) w := by kernel_rfl
theorem index_hex1 (w : World) : (Instr.index 9 (.string { data := #[48, 49, 50, 51, 52, 53, 54, 55, 56, 57, 97, 98, 99, 100, 101, 102] }) (.int .u8 1)).run Tryd.prog w = .ok (.int .u8 49) w := by kernel_rfl
theorem index_hex2 (w : World) : (Instr.index 9 (.string { data := #[48, 49, 50, 51, 52, 53, 54, 55, 56, 57, 97, 98, 99, 100, 101, 102] }) (.int .u8 2)).run Tryd.prog w = .ok (.int .u8 50) w := by kernel_rfl
theorem index_hex3 (w : World) : (Instr.index 9 (.string { data := #[48, 49, 50, 51, 52, 53, 54, 55, 56, 57, 97, 98, 99, 100, 101, 102] }) (.int .u8 3)).run Tryd.prog w = .ok (.int .u8 51) w := by kernel_rfl
theorem index_hex4 (w : World) : (Instr.index 9 (.string { data := #[48, 49, 50, 51, 52, 53, 54, 55, 56, 57, 97, 98, 99, 100, 101, 102] }) (.int .u8 4)).run Tryd.prog w = .ok (.int .u8 52) w := by kernel_rfl
theorem index_hex5 (w : World) : (Instr.index 9 (.string { data := #[48, 49, 50, 51, 52, 53, 54, 55, 56, 57, 97, 98, 99, 100, 101, 102] }) (.int .u8 5)).run Tryd.prog w = .ok (.int .u8 53) w := by kernel_rfl
theorem index_hex6 (w : World) : (Instr.index 9 (.string { data := #[48, 49, 50, 51, 52, 53, 54, 55, 56, 57, 97, 98, 99, 100, 101, 102] }) (.int .u8 6)).run Tryd.prog w = .ok (.int .u8 54) w := by kernel_rfl
theorem index_hex7 (w : World) : (Instr.index 9 (.string { data := #[48, 49, 50, 51, 52, 53, 54, 55, 56, 57, 97, 98, 99, 100, 101, 102] }) (.int .u8 7)).run Tryd.prog w = .ok (.int .u8 55) w := by kernel_rfl
theorem index_hex8 (w : World) : (Instr.index 9 (.string { data := #[48, 49, 50, 51, 52, 53, 54, 55, 56, 57, 97, 98, 99, 100, 101, 102] }) (.int .u8 8)).run Tryd.prog w = .ok (.int .u8 56) w := by kernel_rfl
theorem index_hex9 (w : World) : (Instr.index 9 (.string { data := #[48, 49, 50, 51, 52, 53, 54, 55, 56, 57, 97, 98, 99, 100, 101, 102] }) (.int .u8 9)).run Tryd.prog w = .ok (.int .u8 57) w := by kernel_rfl
theorem index_hex10 (w : World) : (Instr.index 9 (.string { data := #[48, 49, 50, 51, 52, 53, 54, 55, 56, 57, 97, 98, 99, 100, 101, 102] }) (.int .u8 10)).run Tryd.prog w = .ok (.int .u8 97) w := by kernel_rfl
theorem index_hex11 (w : World) : (Instr.index 9 (.string { data := #[48, 49, 50, 51, 52, 53, 54, 55, 56, 57, 97, 98, 99, 100, 101, 102] }) (.int .u8 11)).run Tryd.prog w = .ok (.int .u8 98) w := by kernel_rfl
theorem index_hex12 (w : World) : (Instr.index 9 (.string { data := #[48, 49, 50, 51, 52, 53, 54, 55, 56, 57, 97, 98, 99, 100, 101, 102] }) (.int .u8 12)).run Tryd.prog w = .ok (.int .u8 99) w := by kernel_rfl
theorem index_hex13 (w : World) : (Instr.index 9 (.string { data := #[48, 49, 50, 51, 52, 53, 54, 55, 56, 57, 97, 98, 99, 100, 101, 102] }) (.int .u8 13)).run Tryd.prog w = .ok (.int .u8 100) w := by kernel_rfl
theorem index_hex14 (w : World) : (Instr.index 9 (.string { data := #[48, 49, 50, 51, 52, 53, 54, 55, 56, 57, 97, 98, 99, 100, 101, 102] }) (.int .u8 14)).run Tryd.prog w = .ok (.int .u8 101) w := by kernel_rfl
theorem index_hex15 (w : World) : (Instr.index 9 (.string { data := #[48, 49, 50, 51, 52, 53, 54, 55, 56, 57, 97, 98, 99, 100, 101, 102] }) (.int .u8 15)).run Tryd.prog w = .ok (.int .u8 102) w := by kernel_rfl
theorem index_hex (k : Int) (h0 : 0 ≤ k) (h1 : k ≤ 15) (w : World) : (Instr.index 9 (.string { data := #[48, 49, 50, 51, 52, 53, 54, 55, 56, 57, 97, 98, 99, 100, 101, 102] }) (.int .u8 k)).run Tryd.prog w = .ok (.int .u8 (hx k)) w := by
  rcases (show k = 0 ∨ k = 1 ∨ k = 2 ∨ k = 3 ∨ k = 4 ∨ k = 5 ∨ k = 6 ∨ k = 7 ∨ k = 8 ∨ k = 9 ∨ k = 10 ∨ k = 11 ∨ k = 12 ∨ k = 13 ∨ k = 14 ∨ k = 15 from by omega) with rfl | rfl | rfl | rfl | rfl | rfl | rfl | rfl | rfl | rfl | rfl | rfl | rfl | rfl | rfl | rfl
  · exact index_hex0 w
  · exact index_hex1 w
  · exact index_hex2 w
  · exact index_hex3 w
  · exact index_hex4 w
  · exact index_hex5 w
  · exact index_hex6 w
  · exact index_hex7 w
  · exact index_hex8 w
  · exact index_hex9 w
  · exact index_hex10 w
  · exact index_hex11 w
  · exact index_hex12 w
  · exact index_hex13 w
  · exact index_hex14 w
  · exact index_hex15 w

theorem step_append_bs {P : Program} (hP : P.underlying 42 = some (.slice 5)) (hi5 : (P.info? 5).map (fun i => (i.zero, i.size, i.bytes)) = some (some (.int .u8 0), 1, 1)) {w : World} {ops : Array Oper} {o : Oper} {act : Act} {K : Act → World → Prop} {Q : Exit → Act → World → Prop} {E : Prop} (hgd : o.guard = none) (s x : Operand)
    (ho : o.op = .call { callee := .builtin .append, args := #[s, x], argTypes := #[42, 42] })
    (base : Nat) (v : Value) (n : Nat) (xs : List Int) (hs : act.eval s = v) (hown : w.ownsRow base 5 1 v n (xs.map (Value.int .u8))) (hbase : base ≤ w.heap.size)
    (a : Option Addr) (m c : Nat) (zs : List Int) (hx : act.eval x = .slice a m c) (hbs : BS w a m zs) (hsum : n + m ≤ 140737488355328)
    (h : ∀ a' cap' w', w'.ownsRow base 5 1 (.slice a' (n + m) cap') (n + m) ((xs ++ zs).map (Value.int .u8)) → w.grownBy w' v.ownBlock → K (act.put o.dst (.slice a' (n + m) cap')) w') :
    if Region.wanted o (yielded ops act.tmps) = true then Oper.wp P o act w K Q else E := by
  have hw : Region.wanted o (yielded ops act.tmps) = true := by simp [Region.wanted, hgd]
  rw [if_pos hw]
  obtain ⟨i0, hi, hz0, hz1, hz2⟩ := info_parts hi5
  obtain ⟨v', w', hrun, h2, h3⟩ := run_append_bs (P := P) w base 42 o.type 5 i0 hP hi hz0 hz1 hz2 v n xs hown c hbs hsum hbase
  obtain ⟨a', cap', rfl, _⟩ := own_form h2
  unfold Oper.wp execOp
  simp only [ho, resolve, invoke, builtin, Sem.run_bind, Sem.run_pure, Result.andThen_ok, List.map_toArray, List.map_cons, List.map_nil, hs, hx, hrun]
  exact h a' cap' w' h2 h3

theorem bs_pair (w : World) (x y : Int) (B : Nat) (hB : B = w.heap.size) (hx : 0 ≤ x ∧ x ≤ 255) (hy : 0 ≤ y ∧ y ≤ 255) :
    BS (w.alloc (.cells #[.int .u8 x, .int .u8 y] 5)) (some ⟨B, 0, none⟩) 2 [x, y] := by
  refine bs_new 5 w _ [x, y] 2 B hB rfl rfl ?_ (by omega)
  simp [hx, hy]

attribute [local go_sem ↓] Go.wp_at_zero Go.wp_at_succ
set_option maxHeartbeats 2000000 in
theorem putPair_any (w0 W : World) (p : Nat) (xs : List Int) (h : Enc w0 W p xs) (hn : xs.length ≤ 1000000) (b : Int) (hb : 0 ≤ b ∧ b ≤ 255) :
    Calls Tryd.prog 18 #[.int .u8 b, .pointer (some ⟨p, 0, none⟩)] W fun e w' => e = .returned (.tuple #[]) ∧ Enc w0 w' p (xs ++ [hx (b / 16), hx (b % 16)]) := by
  obtain ⟨hbl, hp, a, cap, hc, ho⟩ := h
  have hc0 := cell_of_one hc
  have hf0 := free_of_one hc
  have i1 := index_hex (b / 16) (by omega) (by omega)
  have i2 := index_hex (b % 16) (by omega) (by omega)
  have ha : bits .and .u8 b 15 = b % 16 := by
    rw [u8_and b 15 hb.1 (by omega) (by omega) (by omega), show (15 : Int).toNat = 15 from rfl, nat_mask4]; omega
  have HC : Hid _ := hc
  have HO : Hid (W.ownsRow w0.heap.size 5 1 (.slice a xs.length cap) xs.length (xs.map (Value.int .u8))) := ho
  have HB : Hid _ := hbl
  clear hc ho hbl
  go_enter Tryd.func18, Tryd.ntmps18
  go_wp2
  have hlt : Hid (p < W.heap.size) := lt_of_block HC.out
  have HA : Hid (∀ o, (W.alloc o).drew.heap[p]? = some (.cells #[.slice a xs.length cap] 42 (0, 0))) := fun o => (Below.heap_alloc W o p hlt.out).trans HC.out
  have hcA : ∀ o, (W.alloc o).cell? ⟨p, 0, none⟩ = some (.slice a xs.length cap) := fun o => cell_of_one (w := W.alloc o) (HA.out o)
  have b1 := hx_bd (b / 16) (by omega) (by omega)
  have b2 := hx_bd (b % 16) (by omega) (by omega)
  go_region_law
    (first
      | (refine step_append_bs Tryd.underlying42 info5 ?_ (.tmp 3) (.tmp 10) ?_ w0.heap.size (.slice a xs.length cap) xs.length xs ?_ (HO.out.alloc _).drew ?_ _ 2 2 [hx (b / 16), hx (b % 16)] ?_ (bs_pair W _ _ _ rfl b1 b2).drew ?_ ?_; rfl; rfl; rfl; (have := HB.out.size; simp; omega); rfl; omega; intro a3 c3 W3 o3 g3; have hc3 : W3.heap[p]? = some (.cells #[.slice a xs.length cap] 42 (0, 0)) := (g3.block p (by have := hlt.out; simp; omega) (fun e => row_apart HO.out HC.out e.symm)).trans (HA.out _); have hc3' := cell_of_one hc3; have hf3 := free_of_one hc3)
      | fail)
  all_goals
    go_wp2
    go_end0
    refine ⟨rfl, ?_, hp, a3, c3, ?_, ?_⟩
    · exact (((HB.out.alloc HB.out.size _).drew).grown g3 (by have := HB.out.size; simp; omega) (fun k hk => (World.ownsRow.lt HO.out k hk).1)).setCell hp _
    · rw [one_setCell hc3]; simp
    · have o3' : W3.ownsRow w0.heap.size 5 1 (.slice a3 (xs ++ [hx (b / 16), hx (b % 16)]).length c3) (xs ++ [hx (b / 16), hx (b % 16)]).length ((xs ++ [hx (b / 16), hx (b % 16)]).map (Value.int .u8)) := by simpa using o3
      exact ownsRow_setCell_other o3' (row_apart o3' hc3) _
end Go.Proofs.YtkianiglibkbhaaDoor
