/- Rows of bytes that Encode of package dhcp makes: numbers, texts, noughts that are appended. Conditions: numbers that are not negative. -/
import Derived.Test.YtglaheblbomhpaaDE
import Derived.Lib.AppendStr
import Derived.Lib.AppendZerosOnto
import Derived.Laws.MakeOwn
namespace Go.Proofs.Ytglaheblbomhpaa
open Go.RowKit

/-- A string's bytes as numbers. -/
def dnums (s : ByteArray) : List Int := s.data.toList.map fun x => (x.toNat : Int)
theorem dnums_len (s : ByteArray) : (dnums s).length = s.size := by unfold dnums; rw [List.length_map]; rfl
theorem dnums_cells (s : ByteArray) : Lib.strCells s = (dnums s).map (Value.int .u8) := by unfold Lib.strCells dnums; rw [List.map_map]; rfl
theorem dnums_fits (s : ByteArray) : ∀ i, 0 ≤ (dnums s).getD i 0 ∧ (dnums s).getD i 0 ≤ 255 := by
  intro i
  unfold dnums
  rw [List.getD_eq_getElem?_getD, List.getElem?_map]
  rcases hx : s.data.toList[i]? with _ | x
  · simp
  · have := x.toNat_lt
    simp; omega

theorem zeroCells_u8 (k : Nat) : (Builtin.zeroCells #[.int .u8 0] k) = ((List.replicate k (0 : Int)).map (Value.int .u8)).toArray := by
  apply Array.ext
  · simp [Builtin.zeroCells]
  · intro i h1 h2
    simp [Builtin.zeroCells, Nat.mod_one]

/-- append(row, make([]byte, k)...) -/
theorem run_append_zeros {P : Program} (w : World) (base : Nat) (t tn ty e : TypeId) (i : TypeInfo) (kq kn : IntKind) (ht : P.underlying t = some (.slice e)) (htn : P.underlying tn = some (.int kn)) (hi : P.info? e = some i) (hz : i.zero = some (.int .u8 0)) (hsize : i.size = 1) (hby : i.bytes = 1)
    (v : Value) (n : Nat) (xs : List Int) (hown : w.ownsRow base e 1 v n (xs.map (Value.int .u8))) (hn : 0 < n) (k : Nat) (hk : 0 < k) (hk2 : n + k ≤ 1000000) (hbase : base ≤ w.heap.size) :
    ∃ a' cap' w', (Builtin.append_ #[t, tn] ty #[v, .int kq k]).run P w = .ok (.slice a' (n + k) cap') w' ∧ w'.ownsRow base e 1 (.slice a' (n + k) cap') (n + k) ((xs ++ List.replicate k 0).map (Value.int .u8)) ∧ w.grownBy w' v.ownBlock := by
  have hlen : ((xs ++ List.replicate k 0).map (Value.int .u8)).length = (n + k) * 1 := by
    have := hown.1
    simp at this ⊢
    omega
  have hzc : (Value.int .u8 0).cells = #[.int .u8 0] := rfl
  rcases hown.2 with ⟨_, rfl⟩ | ⟨g, cap, cur, rfl, hbg, hg, hnc, hcm, hcs, htake⟩
  · omega
  · by_cases hroom : n + k ≤ cap
    · have hw : IntKind.i64.wrap (k : Int) = k := by rw [IntKind.wrap_i64]; omega
      have hst := run_storeCells_at P g n e ((List.replicate k (0 : Int)).map (Value.int .u8)) 0 cur w hg (by simp; omega) (ints_oneCell _ _)
      simp only [Nat.add_zero] at hst
      have hneg : ¬ ((k : Int) < 0) := by omega
      have h48 : ¬ (281474976710656 < (k : Int) * (1 : Nat)) := by omega
      have hk0 : k ≠ 0 := by omega
      refine ⟨some ⟨g, 0, none⟩, cap, w.setRow g (cur.toList.take n ++ (List.replicate k (0 : Int)).map (Value.int .u8) ++ cur.toList.drop (n + k)).toArray, ?_, ⟨hlen, .inr ⟨g, cap, _, rfl, hbg, setRow_heap w g cur _ e _ hg, hroom, hcm, ?_, ?_⟩⟩, ⟨rfl, rfl, rfl, by simp, fun j _ hj => setRow_other w g j _ (fun e => hj (by simp [Value.ownBlock, e]))⟩⟩
      · simp [Builtin.append_, run_underlying ht, run_underlying htn, sizeOf, typeInfo, zeroValue, hi, hz, asInt, asIntOf, hw, hneg, hroom, hsize, hby, hk0, hzc, zeroCells_u8, Addr.add_lit]
        rw [if_neg (by omega)]
        simp only [List.map_replicate, List.length_replicate, List.append_assoc] at hst
        rw [hst]
        rfl
      · simp only [List.size_toArray, List.length_append, List.length_take, List.length_drop, Array.length_toList, List.length_map, List.length_replicate]
        omega
      · simp only [Nat.mul_one] at htake
        rw [htake, List.map_append]
        have hl2 : ((xs.map (Value.int .u8)) ++ (List.replicate k (0 : Int)).map (Value.int .u8)).length = (n + k) * 1 := by rw [← List.map_append]; exact hlen
        rw [← hl2]
        exact List.take_left
    · have holds : (Builtin.firstCells i.size n (.slice (some ⟨g, 0, none⟩) n cap)).run P w.drew = .ok (xs.map (Value.int .u8)).toArray w.drew := by
        rw [hsize]
        exact run_firstCells_some (P := P) w.drew 1 n ⟨g, 0, none⟩ n cap (xs.map (Value.int .u8)) (by have := hown.1; simpa using this) (fun j u hj => hown.cells (g := g) rfl j u hj)
      have hr := Lib.run_append_grow_zeros (P := P) w t tn ty e i (.int .u8 0) kq kn ht htn hi hz (some ⟨g, 0, none⟩) n cap (xs.map (Value.int .u8)) holds k hk (by omega) (by omega) (by omega) (by rw [hby]; omega) (by rw [hby]; exact growslice_fits (by omega) (by omega))
      have hge := grownCap_ge w (n + k) cap e
      have hcm2 : grownCap w (n + k) cap e ≤ maxLen := grownCap_le_maxLen w (n + k) cap e (by unfold maxLen; omega)
      refine ⟨_, _, _, hr, ⟨hlen, .inr ⟨w.heap.size, _, _, rfl, hbase, heap_alloc_new w.drew _, hge, hcm2, ?_, ?_⟩⟩, ⟨rfl, rfl, rfl, by simp, fun j hj _ => heap_alloc_old w.drew _ hj⟩⟩
      · simp only [Array.size_append, List.size_toArray, size_zeroCells, hzc]
        have := hown.1
        simp at this ⊢
        omega
      · rw [hzc, zeroCells_u8]
        simp only [Array.toList_append, List.map_append]
        have hl2 : ((xs.map (Value.int .u8)) ++ (List.replicate k (0 : Int)).map (Value.int .u8)).length = (n + k) * 1 := by rw [← List.map_append]; exact hlen
        rw [← hl2]
        exact List.take_left

theorem own_keep {W W' : World} {base : Nat} {e : TypeId} {v : Value} {n : Nat} {xs : List Value} (h : W.ownsRow base e 1 v n xs) (hb : Below W.heap.size W W') : W'.ownsRow base e 1 v n xs := own_below h hb
theorem Enc.keep {w0 W W' : World} {p : Nat} {xs : List Int} (h : Enc w0 W p xs) (hb : Below W.heap.size W W') : Enc w0 W' p xs := by
  obtain ⟨h1, h2, a, cap, h3, h4⟩ := h
  exact ⟨h1.trans (hb.mono h1.size), h2, a, cap, (hb.block p (lt_of_block h3)).trans h3, own_keep h4 hb⟩

/-- Behind an append: what stands for the store of the new row. -/
theorem enc_grown {w0 W w1 : World} {p N M : Nat} {xs zs : List Int} {a a' : Option Addr} {cap cap' : Nat} (hN : xs.length = N) (hM : zs.length = M) (hb : Below w0.heap.size w0 W) (hp : w0.heap.size ≤ p) (hc : W.heap[p]? = some (.cells #[.slice a N cap] 22 (0, 0))) (ho : W.ownsRow w0.heap.size 5 1 (.slice a N cap) N (xs.map (Value.int .u8)))
    (h1 : w1.ownsRow w0.heap.size 5 1 (.slice a' (N + M) cap') (N + M) ((xs ++ zs).map (Value.int .u8))) (h2 : W.grownBy w1 (Value.slice a N cap).ownBlock) :
    w1.cell? ⟨p, 0, none⟩ = some (.slice a N cap) ∧ w1.frozen? ⟨p, 0, none⟩ = false ∧ Below w0.heap.size w0 w1 ∧ Enc w0 (w1.setCell ⟨p, 0, none⟩ (.slice a' (N + M) cap')) p (xs ++ zs) ∧
    (w1.setCell ⟨p, 0, none⟩ (.slice a' (N + M) cap')).heap[p]? = some (.cells #[.slice a' (N + M) cap'] 22 (0, 0)) ∧ (w1.setCell ⟨p, 0, none⟩ (.slice a' (N + M) cap')).ownsRow w0.heap.size 5 1 (.slice a' (N + M) cap') (N + M) ((xs ++ zs).map (Value.int .u8)) := by
  have hap := row_apart ho hc
  have hc1 : w1.heap[p]? = some (.cells #[.slice a N cap] 22 (0, 0)) := (h2.block p (lt_of_block hc) (fun e => hap e.symm)).trans hc
  have hbw := hb.grown h2 hb.size (fun k hk => (World.ownsRow.lt ho k hk).1)
  have r1 := one_setCell (u := .slice a' (N + M) cap') hc1
  have r2 : (w1.setCell ⟨p, 0, none⟩ (.slice a' (N + M) cap')).ownsRow w0.heap.size 5 1 (.slice a' (N + M) cap') (N + M) ((xs ++ zs).map (Value.int .u8)) := ownsRow_setCell_other h1 (row_apart h1 hc1) _
  have hl : (xs ++ zs).length = N + M := by simp [hN, hM]
  refine ⟨cell_of_one hc1, free_of_one hc1, hbw, ⟨hbw.setCell hp _, hp, a', cap', ?_, ?_⟩, r1, r2⟩
  · rw [hl]; exact r1
  · rw [hl]; exact r2

set_option maxHeartbeats 1000000 in
theorem put_any (w0 W : World) (p : Nat) (xs : List Int) (h : Enc w0 W p xs) (hn : xs.length ≤ 1000000) (v : Int) (hv : 0 ≤ v ∧ v ≤ 18446744073709551615) (s : Nat) (hs : s ≤ 8) :
    Calls Try.prog 25 #[.int .u64 v, .int .i64 s, .pointer (some ⟨p, 0, none⟩)] W fun e w' => e = .returned (.tuple #[]) ∧ Enc w0 w' p (xs ++ be v s) := by
  obtain ⟨hb, hp, a, cap, hc, ho⟩ := h
  have hc0 := cell_of_one hc
  have hf0 := free_of_one hc
  have HC : Hid _ := hc
  have HO : Hid _ := ho
  have HB : Hid _ := hb
  clear hc ho hb
  go_enter Try.func25, Try.ntmps25
  go_wp2_with fail
  refine (appendNumber_any w0.heap.size W a xs.length cap xs HO.out HB.out.size hn v (by omega) s hs).mono ?_
  rintro e w1 ⟨a', cap', rfl, hr⟩
  obtain ⟨hc1', hf1, _, hE, _, _⟩ := enc_grown (xs := xs) (zs := be v s) rfl (be_len v s) HB.out hp HC.out HO.out hr.own hr.grown
  have HE : Hid _ := hE
  clear hr hc0 hf0 hE
  go_wp2
  go_end0
  exact ⟨rfl, HE.out⟩

theorem put_lit (w0 W : World) (p : Nat) (xs : List Int) (h : Enc w0 W p xs) (hn : xs.length ≤ 1000000) (v : Int) (hv : 0 ≤ v ∧ v ≤ 18446744073709551615) (s : Int) (hs0 : 0 ≤ s) (hs : s ≤ 8) :
    Calls Try.prog 25 #[.int .u64 v, .int .i64 s, .pointer (some ⟨p, 0, none⟩)] W fun e w' => e = .returned (.tuple #[]) ∧ Enc w0 w' p (xs ++ be v s.toNat) := by
  obtain ⟨s, rfl⟩ := Int.eq_ofNat_of_zero_le hs0
  exact put_any w0 W p xs h hn v hv s (by omega)

theorem enc_start (w2 : World) (arr : Array Value) (c p g : Nat) (hp : p = w2.heap.size + 1) (hg : g = w2.heap.size) (hc : arr.size = c) (hm : c ≤ 1000000) :
    Enc w2 ((w2.alloc (.cells arr 5)).alloc (.cells #[.slice (some ⟨g, 0, none⟩) 0 c] 22)) p [] := by
  subst hp
  subst hg
  refine ⟨below2 w2 _ _, by omega, some ⟨w2.heap.size, 0, none⟩, c, ?_, ?_⟩
  · have := heap_alloc_new (w2.alloc (.cells arr 5)) (.cells #[.slice (some ⟨w2.heap.size, 0, none⟩) 0 c] 22)
    simpa using this
  · exact (World.ownsRow_made w2 arr c (Nat.le_refl _) (by unfold maxLen; omega) (by simpa using hc)).alloc _

theorem make_bytes (w : World) (c : Nat) (hc : c ≤ 140737488355328) : (Instr.makeSlice 22 (.int .i64 0) (.int .i64 (c : Int))).run Try.prog w = .ok (.slice (some ⟨w.heap.size, 0, none⟩) 0 c) (w.alloc (.cells (madeCells #[.int .u8 0] c) 5)) := by
  obtain ⟨i0, hi, hz0, hz1, hz2⟩ := info_parts info5
  have := run_make (P := Try.prog) w 22 5 i0 (.int .u8 0) Try.underlying22 hi hz0 .i64 .i64 0 (c : Int) (by omega) (by omega) (by rw [hz2]; omega) (by omega)
  rw [hz1] at this
  simpa [Value.cells] using this

/-- append(row, text...) -/
theorem wpList_append_txt {P : Program} {w : World} {ops : Array Oper} {rest : List Oper} {o : Oper} {act : Act} {Q : Exit → Act → World → Prop} (hgd : o.guard = none) (s x : Operand) (t u : TypeId)
    (ho : o.op = .call { callee := .builtin .append, args := #[s, x], argTypes := #[t, u] })
    (base : Nat) (e : TypeId) (i : TypeInfo) (ht : P.underlying t = some (.slice e)) (hu : P.underlying u = some .string) (hi : P.info? e = some i) (hz : i.zero = some (.int .u8 0)) (hsize : i.size = 1) (hby : i.bytes = 1)
    (v : Value) (n : Nat) (xs : List Int) (hs : act.eval s = v) (hown : w.ownsRow base e 1 v n (xs.map (Value.int .u8)))
    (b : ByteArray) (hx : act.eval x = .string b) (hsum : n + b.size ≤ 140737488355328) (hbase : base ≤ w.heap.size)
    (h : ∀ a' cap' w', w'.ownsRow base e 1 (.slice a' (n + (dnums b).length) cap') (n + (dnums b).length) ((xs ++ dnums b).map (Value.int .u8)) → w.grownBy w' v.ownBlock → wpList P ops Q rest (act.put o.dst (.slice a' (n + (dnums b).length) cap')) w') : wpList P ops Q (o :: rest) act w := by
  refine Lib.wpList_append_own_string w hgd s x t u ho base e i ht hu hi hz hsize hby v n _ hs hown b hx (by unfold maxLen; omega) (by omega) hbase ?_
  intro v' w' h2 h3 _
  rw [dnums_cells, ← List.map_append, ← dnums_len] at h2
  obtain ⟨a', cap', rfl, _⟩ := own_form h2
  exact h a' cap' w' h2 h3
end Go.Proofs.Ytglaheblbomhpaa
