/- The document's inner, of any data. Conditions: a text of at most 100000 bytes. -/
import Derived.Test.YtgonckbdkgiddaaDL
import Derived.Deep.RegionHeld3
namespace Go.Proofs.Ytgonckbdkgiddaa
open Go.RowKit
set_option maxRecDepth 20000
set_option linter.unusedSimpArgs false
theorem put_tn (vni : Int) (oam : Bool) : Ca.putC #[.int .u32 0, .int .u32 0, .int .i64 0, .int .i64 0, .bool false, .slice none 0 0, .string ⟨#[]⟩] 0 (#[Value.int .u32 0, .int .u32 0, .int .i64 0, .int .i64 vni, .bool oam, .slice none 0 0, .string ⟨#[]⟩]).toList = #[.int .u32 0, .int .u32 0, .int .i64 0, .int .i64 vni, .bool oam, .slice none 0 0, .string ⟨#[]⟩] := by kernel_rfl
theorem u8_and128 (z : Int) (h : 0 ≤ z ∧ z ≤ 255) : decide ((128 : Int) ≤ z) = (bits .and .u8 z 128 != 0) := by
  obtain ⟨k, rfl⟩ := Int.eq_ofNat_of_zero_le h.1
  have hk : k < 256 := by omega
  exact (show ∀ k : Fin 256, decide ((128 : Int) ≤ ((k.val : Nat) : Int)) = (bits .and .u8 ((k.val : Nat) : Int) 128 != 0) from by decide +kernel) ⟨k, hk⟩
set_option maxHeartbeats 2000000 in
theorem rinner_short (zs : List Int) (hf : Fit zs) (h8 : zs.length < 8) (w : World) :
    Calls Try.prog 30 #[.string (strOfNums zs)] w fun e w' => e = .returned (.tuple #[.agg #[.int .u32 0, .int .u32 0, .int .i64 0, .int .i64 0, .bool false, .slice none 0 0, .string ⟨#[]⟩], .bool false]) ∧ Below w.heap.size w w' := by
  obtain ⟨cap, W1, hrun, hB, hb, hcap, hcm⟩ := conv_text (w.alloc (.cells #[.int .u32 0, .int .u32 0, .int .i64 0, .int .i64 0, .bool false, .slice none 0 0, .string ⟨#[]⟩] 25)) zs hf (by omega)
  have B1 : Hid (Below w.heap.size w W1) := (below1 w _).trans (hb.mono (by simp))
  have P1 : Hid (W1.heap[w.heap.size]? = some (.cells #[.int .u32 0, .int .u32 0, .int .i64 0, .int .i64 0, .bool false, .slice none 0 0, .string ⟨#[]⟩] 25 (0, 0))) := (hb.block _ (Ca.lt_of_heap (heap_alloc_new w _))).trans (heap_alloc_new w _)
  have hI : (zs.length : Int) < 8 := by omega
  clear hb hB
  go_enter Try.func30, Try.ntmps30
  go_wp2_with (first
    | refine Ca.wpList_store_row rfl 25 _ _ rfl w.heap.size #[.int .u32 0, .int .u32 0, .int .i64 0, .int .i64 0, .bool false, .slice none 0 0, .string ⟨#[]⟩] #[.int .u32 0, .int .u32 0, .int .i64 0, .int .i64 0, .bool false, .slice none 0 0, .string ⟨#[]⟩] 25 rfl rfl P1.out (by kernel_rfl) rfl (by kernel_rfl) ?_
    | fail)
  intro W2 y1 y2 y3 y4
  go_wp2
  exact bodyPost_ret (results_tb (p := 2) (u := 3) rfl _ _ w.heap.size _ rfl y1 rfl) rfl ⟨rfl, B1.out.trans (y4.mono (Nat.le_refl _))⟩
/-- What holds in the loop: the tunnel at gt, its options so far. -/
structure PI (w : World) (zs : List Int) (gr gb gt s : Nat) (vni : Int) (oam : Bool) (k : Nat) (acc : List Opt) (W : World) : Prop where
  bs : BS W (some ⟨gb, 0, none⟩) zs.length zs
  row : ∃ va vc, W.heap[gt]? = some (.cells #[.int .u32 0, .int .u32 0, .int .i64 0, .int .i64 vni, .bool oam, .slice va acc.length vc, .string ⟨#[]⟩] 25 (0, 0)) ∧ W.ownsRow (gt + 1) 38 3 (.slice va acc.length vc) acc.length (optCells acc)
  res : W.heap[gr]? = some (.cells #[.int .u32 0, .int .u32 0, .int .i64 0, .int .i64 0, .bool false, .slice none 0 0, .string ⟨#[]⟩] 25 (0, 0))
  low : 8 ≤ k ∧ k ≤ s
  four : (s - k) % 4 = 0
  few : (s - k) + acc.length * 4 ≤ 252
  same : rdO (optsD zs) = (rdO ((zs.take s).drop k)).map (acc ++ ·)
  fit : ∀ o ∈ acc, Fit o.data
  bel : Below w.heap.size w W
theorem drop_take_get (zs : List Int) (s k j : Nat) (h : k + j < s) : ((zs.take s).drop k).getD j 0 = zs.getD (k + j) 0 := by
  rw [List.getD_eq_getElem?_getD, List.getElem?_drop, List.getElem?_take, if_pos h, ← List.getD_eq_getElem?_getD]
def rinV (r : Option (List Opt)) (vni : Int) (oam : Bool) (fr : List Int) (w w' : World) (e : Ending) : Prop := match r with
  | some os => ∃ a' c', e = .returned (.tuple #[.agg #[.int .u32 0, .int .u32 0, .int .i64 0, .int .i64 vni, .bool oam, .slice a' os.length c', .string (strOfNums fr)], .bool true]) ∧ OS w' a' os.length os ∧ ∀ x, a' = some x → w.heap.size ≤ x.block
  | none => e = .returned (.tuple #[.agg #[.int .u32 0, .int .u32 0, .int .i64 0, .int .i64 0, .bool false, .slice none 0 0, .string ⟨#[]⟩], .bool false])
section
variable {P : Program} {md : Region.Mode} {ops : Array Oper} {Q : Exit → Act → World → Prop} {S : World → Prop} {z : Nat}
/-- Whatever order is picked; S holds behind every operation but number z. -/
def HeldBut (P : Program) (md : Region.Mode) (ops : Array Oper) (Q : Exit → Act → World → Prop) (S : World → Prop) (z : Nat) : Nat → Array Bool → Act → World → Prop
  | 0, L, a, w => Region.ready md ops L = [] ∧ Q .normal a w
  | n + 1, L, a, w => (Region.ready md ops L = [] → Q .normal a w) ∧ ∀ i ∈ Region.ready md ops L, wpOp P ops Q i (fun a' w' => (i = z ∨ S w') ∧ HeldBut P md ops Q S z n (L.setIfInBounds i true) a' w') a w
theorem HeldBut.any : ∀ {n : Nat} {L : Array Bool} {a : Act} {w : World}, HeldBut P md ops Q S z n L a w → wpAny P md ops Q n L a w
  | 0, _, _, _, h => h
  | _ + 1, _, _, _, ⟨h1, h2⟩ => ⟨h1, fun i hi => wpOp_mono (fun _ _ h => h.2.any) (h2 i hi)⟩
/-- Number z waits for number i. -/
def waitsFor (md : Region.Mode) (ops : Array Oper) (z i : Nat) : Bool := match ops[z]? with
  | some o => o.after.any fun e => Region.binds md e && e.on == i
  | none => true
theorem waits_ready {i j : Nat} {L : Array Bool} (hz : waitsFor md ops z i = true) (hi : i ∈ Region.ready md ops L) (hj : j ∈ Region.ready md ops L) : j ≠ z := by
  rintro rfl
  obtain ⟨_, o, ho, hall⟩ := mem_ready.1 hj
  unfold waitsFor at hz
  rw [ho] at hz
  obtain ⟨e, he, hb⟩ := Array.any_eq_true'.1 hz
  simp only [Bool.and_eq_true, beq_iff_eq] at hb
  have h1 := hall e he hb.1
  have h0 := (mem_ready.1 hi).1
  rw [hb.2] at h1
  rcases Nat.lt_or_ge i L.size with g | g
  · simp [g] at h0 h1
    rw [h0] at h1; cases h1
  · simp [Array.getElem?_eq_none g] at h1
theorem HeldBut.first {i : Nat} {o : Oper} {v : Value} (hi : ops[i]? = some o) (hsel : ∀ (j : Nat) (o : Oper) cs b, ops[j]? = some o → o.op ≠ .select cs b) (hQ : ∀ c a w, Q (.panic c) (a.put o.dst v) w → Q (.panic c) a w) (hz : waitsFor md ops z i = true) :
    ∀ (n : Nat) (L : Array Bool) (a : Act) (w : World), (∀ j oj, ops[j]? = some oj → j ≠ i → L.getD j true = false → (∀ e ∈ oj.after, Region.binds md e = true → e.on ≠ i) → o.apart ops oj = true) →
      i ∈ Region.ready md ops L → YieldsIf P ops S o v a → S w → HeldBut P md ops Q S z n (L.setIfInBounds i true) (a.put o.dst v) w → HeldBut P md ops Q S z (n + 1) L a w
  | 0, L, a, w, _, hr, hy, hS, H => by
    refine ⟨fun h => absurd (h ▸ hr) (by simp), fun j hj => ?_⟩
    by_cases e : j = i
    · subst e
      exact hy.wpOp hi hS ⟨.inr hS, H⟩
    · exact absurd (H.1 ▸ ready_mono hj e) (by simp)
  | n + 1, L, a, w, hf, hr, hy, hS, H => by
    refine ⟨fun h => absurd (h ▸ hr) (by simp), fun j hj => ?_⟩
    by_cases e : j = i
    · subst e
      exact hy.wpOp hi hS ⟨.inr hS, H⟩
    · have hjz := waits_ready hz hr hj
      obtain ⟨hun, oj, hoj, hall⟩ := mem_ready.1 hj
      have hno : ∀ e ∈ oj.after, Region.binds md e = true → e.on ≠ i := by
        intro e he hb hon
        have h1 := hall e he hb
        have h0 := (mem_ready.1 hr).1
        rw [hon] at h1
        rcases Nat.lt_or_ge i L.size with g | g
        · simp [g] at h0 h1
          rw [h0] at h1; cases h1
        · simp [Array.getElem?_eq_none g] at h1
      have st := wpOp_putIf hoj (hf j oj hoj e hun hno) (fun cs b => hsel i o cs b hi) (fun cs b => hsel j oj cs b hoj) hQ hy (H.2 j (ready_mono hj e))
      refine wpOp_mono (fun a' w' h => ?_) st
      have hS' : S w' := h.2.1.resolve_left hjz
      refine ⟨.inr hS', HeldBut.first hi hsel hQ hz n _ a' w' ?_ (ready_mono hr (Ne.symm e)) h.1 hS' ?_⟩
      · intro k ok hk hki hun' hno'
        refine hf k ok hk hki ?_ hno'
        by_cases hjk : j = k
        · subst hjk; exact hun
        · rwa [getD_set_ne true hjk] at hun'
      · rw [Array.setIfInBounds_comm _ _ e]
        exact h.2.2
theorem HeldBut.take {i : Nat} {o : Oper} {v : Value} {n : Nat} {L : Array Bool} {a : Act} {w : World} (hi : ops[i]? = some o) (hs : Region.noSelect ops = true) (hf : Region.free md ops L i = true) (hr : (Region.ready md ops L).contains i = true) (hz : waitsFor md ops z i = true)
    (hQ : ∀ c a w, Q (.panic c) (a.put o.dst v) w → Q (.panic c) a w) (hy : YieldsIf P ops S o v a) (hS : S w) (h : HeldBut P md ops Q S z n (L.setIfInBounds i true) (a.put o.dst v) w) : HeldBut P md ops Q S z (n + 1) L a w :=
  HeldBut.first hi (Region.noSelect_spec hs) hQ hz n L a w (Region.free_spec hi hf) (by simpa using hr) hy hS h
/-- The ones that may come up, one by one. -/
def AllBut (P : Program) (md : Region.Mode) (ops : Array Oper) (Q : Exit → Act → World → Prop) (S : World → Prop) (z n : Nat) (L : Array Bool) (a : Act) (w : World) (rs : List Nat) : Prop := ∀ i ∈ rs, wpOp P ops Q i (fun a' w' => (i = z ∨ S w') ∧ HeldBut P md ops Q S z n (L.setIfInBounds i true) a' w') a w
theorem AllBut.nil {n : Nat} {L : Array Bool} {a : Act} {w : World} : AllBut P md ops Q S z n L a w [] := fun _ h => by cases h
theorem AllBut.cons {n : Nat} {L : Array Bool} {a : Act} {w : World} {i : Nat} {o : Oper} {rs : List Nat} (ho : ops[i]? = some o)
    (h : ∀ K' : Act → World → Prop, Shut (∀ a w, (i = z ∨ S w) → HeldBut P md ops Q S z n (L.setIfInBounds i true) a w → K' a w) → if Region.wanted o (yielded ops a.tmps) = true then Oper.wp P o a w K' Q else K' (a.put o.dst undef) w)
    (hs : AllBut P md ops Q S z n L a w rs) : AllBut P md ops Q S z n L a w (i :: rs) := fun j hj => by
  rcases List.mem_cons.1 hj with rfl | hj
  · exact wpOp_step ho (fun K' hK => h K' (fun a w hS hW => hK a w ⟨hS, hW⟩))
  · exact hs j hj
theorem HeldBut.ready {rs : List Nat} {n : Nat} {L : Array Bool} {a : Act} {w : World} (hr : Region.ready md ops L = rs) (hne : rs ≠ []) (h : AllBut P md ops Q S z n L a w rs) : HeldBut P md ops Q S z (n + 1) L a w :=
  ⟨fun h0 => absurd (hr ▸ h0) hne, hr ▸ h⟩
theorem HeldBut.done {L : Array Bool} {a : Act} {w : World} (hr : Region.ready md ops L = []) (h : Q .normal a w) : ∀ n, HeldBut P md ops Q S z n L a w
  | 0 => ⟨hr, h⟩
  | _ + 1 => ⟨fun _ => h, by rw [hr]; simp⟩
theorem region_but {id : Nat} {a : Act} {w : World} (S : World → Prop) (z : Nat) (hm : P.follows .mixedOrders = true) (h : HeldBut P .any ops Q S z ops.size (Array.replicate ops.size false) a w.drew) : (Code.region id ops true).wp P Q a w := wp_region_any hm h.any
end
theorem cell_far9 {W : World} {b o g k : Nat} (v : Value) (h : b ≠ g) (_x : True) : (W.setCell ⟨g, k, none⟩ v).cell? ⟨b, o, none⟩ = W.cell? ⟨b, o, none⟩ := by
  unfold World.cell?
  simp only [Below.heap_setCell W ⟨g, k, none⟩ v b h]
theorem own_far9 {W : World} {base : Nat} {e : TypeId} {sz : Nat} {v : Value} {n : Nat} {xs : List Value} (h : W.ownsRow base e sz v n xs) {g k : Nat} (hg : v.ownBlock ≠ some g) (u : Value) : (W.setCell ⟨g, k, none⟩ u).ownsRow base e sz v n xs := by
  refine ⟨h.1, ?_⟩
  rcases h.2 with h0 | ⟨b, cap, cur, e1, h1, h2, h3⟩
  · exact .inl h0
  · refine .inr ⟨b, cap, cur, e1, h1, ?_, h3⟩
    have hb : b ≠ g := fun e => hg (by rw [e1, ← e]; rfl)
    exact (Below.heap_setCell W ⟨g, k, none⟩ u b hb).trans h2
theorem bs_far9 {W : World} {b off n : Nat} {zs : List Int} (h : BS W (some ⟨b, off, none⟩) n zs) {g : Nat} (hg : b ≠ g) (k : Nat) (u : Value) : BS (W.setCell ⟨g, k, none⟩ u) (some ⟨b, off, none⟩) n zs := by
  refine ⟨h.len, h.fits, h.room, ?_⟩
  rcases h.cells with h0 | ⟨b', off', e, hc⟩
  · exact .inl h0
  · cases e
    exact .inr ⟨b, off, rfl, fun i hi => (cell_far9 u hg trivial).trans (hc i hi)⟩
/-- The options of data, if they can be read. -/
def rdX (zs : List Int) : Option (List Opt) := if zs.length < behD zs then none else rdO (optsD zs)
theorem BS.cell9 {W : World} {b n : Nat} {zs : List Int} (h : BS W (some ⟨b, 0, none⟩) n zs) (j : Nat) (hj : j < n) : W.cell? ⟨b, j, none⟩ = some (.int .u8 (zs.getD j 0)) := by
  rcases h.cells with h0 | ⟨b', off', e, hc⟩
  · omega
  · cases e
    have := hc j (by have := h.len; omega)
    rw [Nat.zero_add] at this
    exact this
set_option maxHeartbeats 8000000 in
theorem rinner_main (zs : List Int) (hf : Fit zs) (hlz : zs.length ≤ 100000) (h8 : 8 ≤ zs.length) (w : World) :
    Calls Try.prog 30 #[.string (strOfNums zs)] w fun e w' => rinV (rdX zs) (num ((zs.drop 4).take 3)) (bits .and .u8 (zs.getD 1 0) 128 != 0) (zs.drop (behD zs)) w w' e ∧ Below w.heap.size w w' := by
  have hl : zs.length ≤ 100000 := hlz
  obtain ⟨cap, W1, hrun, hB, hb, hcap, hcm⟩ := conv_text (w.alloc (.cells #[.int .u32 0, .int .u32 0, .int .i64 0, .int .i64 0, .bool false, .slice none 0 0, .string ⟨#[]⟩] 25)) zs hf (by omega)
  have hgb : (w.alloc (.cells #[.int .u32 0, .int .u32 0, .int .i64 0, .int .i64 0, .bool false, .slice none 0 0, .string ⟨#[]⟩] 25)).heap.size = w.heap.size + 1 := by simp
  rw [hgb] at hrun hB
  have B1 : Hid (Below w.heap.size w W1) := (below1 w _).trans (hb.mono (by simp))
  have P1 : Hid (W1.heap[w.heap.size]? = some (.cells #[.int .u32 0, .int .u32 0, .int .i64 0, .int .i64 0, .bool false, .slice none 0 0, .string ⟨#[]⟩] 25 (0, 0))) := (hb.block _ (Ca.lt_of_heap (heap_alloc_new w _))).trans (heap_alloc_new w _)
  have S1 : Hid (BS W1 (some ⟨w.heap.size + 1, 0, none⟩) zs.length zs) := hB
  have hcell : ∀ j, j < zs.length → W1.cell? ⟨w.heap.size + 1, j, none⟩ = some (.int .u8 (zs.getD j 0)) ∧ w.heap.size + 1 < W1.heap.size := fun j hj => by
    rcases hB.cells with h0 | ⟨b', off', e, hc⟩
    · omega
    · cases e
      have := hc j (by omega)
      rw [Nat.zero_add] at this
      exact ⟨this, cell_lt this⟩
  have c0 := (hcell 0 (by omega)).1
  have c1 := (hcell 1 (by omega)).1
  have HGB : Hid (w.heap.size + 1 < W1.heap.size) := (hcell 0 (by omega)).2
  have hz0 := hf 0
  have hz1 := hf 1
  have hbd := behD_bd zs
  have hB8 : (8 : Int) + 4 * (zs.getD 0 0 % 64) = (behD zs : Int) := by unfold behD; omega
  have HFT : Hid (Fit zs) := hf
  obtain ⟨s, hs⟩ : ∃ s, behD zs = s := ⟨_, rfl⟩
  have HSS : Hid (behD zs = s) := hs
  have HOD : Hid (optsD zs = (zs.take s).drop 8) := by show _ = _; unfold optsD; rw [hs, List.drop_take]
  rw [hs] at hB8 hbd ⊢
  have HO1 : Hid (decide ((128 : Int) ≤ zs.getD 1 0) = (bits .and .u8 (zs.getD 1 0) 128 != 0)) := u8_and128 _ hz1
  generalize hq0 : zs.getD 0 0 = z0 at *
  generalize hq1 : zs.getD 1 0 = z1 at *
  have w1 : IntKind.i64.wrap (z0 % 64) = z0 % 64 := by simp [IntKind.wrap, IntKind.bits, IntKind.signed]; omega
  have w2 : IntKind.i64.wrap (4 * (z0 % 64)) = 4 * (z0 % 64) := by simp [IntKind.wrap, IntKind.bits, IntKind.signed]; omega
  have w3 : IntKind.i64.wrap (8 + 4 * (z0 % 64)) = (s : Int) := by rw [← hB8]; simp [IntKind.wrap, IntKind.bits, IntKind.signed]; omega
  obtain ⟨n, hn⟩ : ∃ n, zs.length = n := ⟨_, rfl⟩
  rw [hn] at hrun S1 hcap h8 hl
  have HLN : Hid (zs.length = n) := hn
  have hnI : ¬ (n : Int) < 8 := by omega
  have hn0 : (0 : Int) < (n : Int) := by omega
  have hn1 : (1 : Int) < (n : Int) := by omega
  have hnc : (n : Int) ≤ (cap : Int) := by omega
  have h7 : (7 : Int) ≤ (cap : Int) := by omega
  have h4c : ¬ cap = 4 := by omega
  obtain ⟨cq, hcq⟩ : ∃ c, cap - 4 = c := ⟨_, rfl⟩
  have hnum3 : 0 ≤ num ((zs.drop 4).take 3) ∧ num ((zs.drop 4).take 3) < 16777216 := num_bd (zs.drop 4) (Eth9.fits_drop9 HFT.out 4) 3
  obtain ⟨vni, hv⟩ : ∃ v, num ((zs.drop 4).take 3) = v := ⟨_, rfl⟩
  rw [hv] at hnum3 ⊢
  have HV : Hid (num ((zs.drop 4).take 3) = vni) := hv
  obtain ⟨oam, hoam⟩ : ∃ v, decide ((128 : Int) ≤ z1) = v := ⟨_, rfl⟩
  rw [hoam] at HO1
  have wV : IntKind.i64.wrap vni = vni := by simp [IntKind.wrap, IntKind.bits, IntKind.signed]; omega
  obtain ⟨gb, hgbe⟩ : ∃ g, w.heap.size + 1 = g := ⟨_, rfl⟩
  rw [hgbe] at hrun S1 HGB c0 c1
  have HGE : Hid (w.heap.size + 1 = gb) := hgbe
  rw [← HO1.out]
  have hq3 : Hid (((n : Int) = (n : Int))) := rfl
  clear hb hB hn hgb hs hv hcell hgbe hq3 HO1 hq0 hq1 hf
  go_enter Try.func30, Try.ntmps30
  go_wp2_with fail
  refine wp_region_held_drew (S := fun W => W.cell? ⟨gb, 1, none⟩ = some (.int .u8 z1) ∧ BS W (some ⟨gb, 0, none⟩) n zs) (by kernel_rfl) ⟨c1, S1.out.drew⟩ (fun hHeld => ?_)
  refine wpAnyH_take (i := 0) (v := ?_) rfl (by kernel_rfl) (by kernel_rfl) (by kernel_rfl) (fun _ _ _ h => h) (Or.inl ⟨by rfl, ?_⟩) (by assumption) ?_
  rotate_left
  · (intro w hSw; (try dsimp only at hSw); go_simp; try with_reducible rfl)
  try simp only [List.getElem_toArray, List.getElem_cons_zero, List.getElem_cons_succ, Act.put, List.setIfInBounds_toArray, List.set_cons_zero, List.set_cons_succ]
  refine wpAnyH_take (i := 1) (v := ?_) rfl (by kernel_rfl) (by kernel_rfl) (by kernel_rfl) (fun _ _ _ h => h) (Or.inl ⟨by rfl, ?_⟩) (by assumption) ?_
  rotate_left
  · (intro w hSw; (try dsimp only at hSw); go_simp; try with_reducible rfl)
  try simp only [List.getElem_toArray, List.getElem_cons_zero, List.getElem_cons_succ, Act.put, List.setIfInBounds_toArray, List.set_cons_zero, List.set_cons_succ]
  refine wpAnyH_take (i := 2) (v := ?_) rfl (by kernel_rfl) (by kernel_rfl) (by kernel_rfl) (fun _ _ _ h => h) (Or.inl ⟨by rfl, ?_⟩) (by assumption) ?_
  rotate_left
  · (intro w hSw; (try dsimp only at hSw); go_simp; try with_reducible rfl)
  try simp only [List.getElem_toArray, List.getElem_cons_zero, List.getElem_cons_succ, Act.put, List.setIfInBounds_toArray, List.set_cons_zero, List.set_cons_succ]
  refine wpAnyH_take (i := 3) (v := ?_) rfl (by kernel_rfl) (by kernel_rfl) (by kernel_rfl) (fun _ _ _ h => h) (Or.inl ⟨by rfl, ?_⟩) (by assumption) ?_
  rotate_left
  · (intro w hSw; (try dsimp only at hSw); go_simp; try with_reducible rfl)
  try simp only [List.getElem_toArray, List.getElem_cons_zero, List.getElem_cons_succ, Act.put, List.setIfInBounds_toArray, List.set_cons_zero, List.set_cons_succ]
  refine wpAnyH_take (i := 4) (v := ?_) rfl (by kernel_rfl) (by kernel_rfl) (by kernel_rfl) (fun _ _ _ h => h) (Or.inl ⟨by rfl, ?_⟩) (by assumption) ?_
  rotate_left
  · (intro w hSw; (try dsimp only at hSw); go_simp; try with_reducible rfl)
  try simp only [List.getElem_toArray, List.getElem_cons_zero, List.getElem_cons_succ, Act.put, List.setIfInBounds_toArray, List.set_cons_zero, List.set_cons_succ]
  refine wpAnyH_take (i := 5) (v := ?_) rfl (by kernel_rfl) (by kernel_rfl) (by kernel_rfl) (fun _ _ _ h => h) (Or.inl ⟨by rfl, ?_⟩) (by assumption) ?_
  rotate_left
  · (intro w hSw; (try dsimp only at hSw); go_simp; try with_reducible rfl)
  try simp only [List.getElem_toArray, List.getElem_cons_zero, List.getElem_cons_succ, Act.put, List.setIfInBounds_toArray, List.set_cons_zero, List.set_cons_succ]
  refine wpAnyH_ready (rs := [6, 9]) (by kernel_rfl) (by simp) ?_
  refine AllReadyH.cons (o := _) rfl (fun K hK => ?_) (AllReadyH.cons (o := _) rfl (fun K hK => ?_) AllReadyH.nil)
  · go_simp
    refine (rnum_any _ ((hHeld.2.drop (by omega) 4 (by omega)).take 3 (by omega)) (by omega)).mono ?_
    rintro e W2 ⟨rfl, rfl⟩
    go_wp2_with fail
    refine hK.out _ _ hHeld (fun hHeld2 => ?_)
    clear hK K
    rw [HV.out]
    refine wpAnyH_take (i := 7) (v := ?_) rfl (by kernel_rfl) (by kernel_rfl) (by kernel_rfl) (fun _ _ _ h => h) (Or.inl ⟨by rfl, ?_⟩) (by assumption) ?_
    rotate_left
    · (intro w hSw; (try dsimp only at hSw); go_simp; try with_reducible rfl)
    try simp only [List.getElem_toArray, List.getElem_cons_zero, List.getElem_cons_succ, Act.put, List.setIfInBounds_toArray, List.set_cons_zero, List.set_cons_succ]
    refine wpAnyH_take (i := 8) (v := ?_) rfl (by kernel_rfl) (by kernel_rfl) (by kernel_rfl) (fun _ _ _ h => h) (Or.inl ⟨by rfl, ?_⟩) (by assumption) ?_
    rotate_left
    · (intro w hSw; (try dsimp only at hSw); go_simp; try with_reducible rfl)
    try simp only [List.getElem_toArray, List.getElem_cons_zero, List.getElem_cons_succ, Act.put, List.setIfInBounds_toArray, List.set_cons_zero, List.set_cons_succ]
    refine wpAnyH_ready (rs := [9]) (by kernel_rfl) (by simp) ?_
    refine AllReadyH.cons (o := _) rfl (fun K hK => ?_) AllReadyH.nil
    go_simp
    refine hK.out _ _ ⟨((below1 W1 _).cell (p := ⟨gb, 1, none⟩) HGB.out).trans c1, (S1.out.below (below1 W1 _)).drew⟩ (fun hHeld3 => ?_)
    clear hK K hHeld hHeld2
    try simp only [List.getElem_toArray, List.getElem_cons_zero, List.getElem_cons_succ, Act.put, List.setIfInBounds_toArray, List.set_cons_zero, List.set_cons_succ]
    refine wpAnyH_ready (rs := [10]) (by kernel_rfl) (by simp) ?_
    refine AllReadyH.cons (o := _) rfl (fun K hK => ?_) AllReadyH.nil
    refine Ca.step_store_at rfl 25 _ _ rfl W1.heap.size 0 #[.int .u32 0, .int .u32 0, .int .i64 0, .int .i64 0, .bool false, .slice none 0 0, .string ⟨#[]⟩] #[.int .u32 0, .int .u32 0, .int .i64 0, .int .i64 vni, .bool oam, .slice none 0 0, .string ⟨#[]⟩] 25 rfl rfl (heap_alloc_new W1 _) (by kernel_rfl) (Nat.le_of_ble_eq_true (by kernel_rfl)) (by kernel_rfl) ?_
    intro W4 y1 y2 y3 y4
    have R4 : Hid (W4.heap[W1.heap.size]? = some (.cells #[.int .u32 0, .int .u32 0, .int .i64 0, .int .i64 vni, .bool oam, .slice none 0 0, .string ⟨#[]⟩] 25 (0, 0))) := by show _ = _; rw [← put_tn vni oam]; exact y1
    have hb4 : Below W1.heap.size W1 W4 := (below1 W1 _).drew.trans (y4.mono (Nat.le_refl _))
    have P4 : Hid (W4.heap[w.heap.size]? = some (.cells #[.int .u32 0, .int .u32 0, .int .i64 0, .int .i64 0, .bool false, .slice none 0 0, .string ⟨#[]⟩] 25 (0, 0))) := (hb4.block _ (Ca.lt_of_heap P1.out)).trans P1.out
    have S4 : Hid (BS W4 (some ⟨gb, 0, none⟩) n zs) := S1.out.below hb4
    have B4 : Hid (Below w.heap.size w W4) := B1.out.trans (hb4.mono B1.out.size)
    have C4 : Hid (W4.cell? ⟨gb, 0, none⟩ = some (.int .u8 z0)) := (hb4.cell (p := ⟨gb, 0, none⟩) HGB.out).trans c0
    refine hK.out _ _ ⟨(hb4.cell (p := ⟨gb, 1, none⟩) HGB.out).trans c1, S4.out⟩ (fun hHeld => ?_)
    clear hK K y1 y2 y3 y4 hb4
    try simp only [List.getElem_toArray, List.getElem_cons_zero, List.getElem_cons_succ, Act.put, List.setIfInBounds_toArray, List.set_cons_zero, List.set_cons_succ]
    refine wpAnyH_done (by kernel_rfl) ?_ _
    clear hHeld
    have HGT : Hid (gb < W1.heap.size) := HGB.out
    obtain ⟨gt, hgt⟩ : ∃ g, W1.heap.size = g := ⟨_, rfl⟩
    rw [hgt] at R4 HGT ⊢
    clear hgt hrun S1 P1 B1 HGB c0 c1 hcq
    have c4 := C4.out
    by_cases hns : n < s
    · have hsn : (n : Int) < (s : Int) := by omega
      have HRD : Hid (rdX zs = none) := if_pos (by rw [HLN.out, HSS.out]; exact hns)
      go_wp2_with (first
        | refine Ca.wpList_store_row rfl 25 _ _ rfl w.heap.size #[.int .u32 0, .int .u32 0, .int .i64 0, .int .i64 0, .bool false, .slice none 0 0, .string ⟨#[]⟩] #[.int .u32 0, .int .u32 0, .int .i64 0, .int .i64 0, .bool false, .slice none 0 0, .string ⟨#[]⟩] 25 rfl rfl P4.out (by kernel_rfl) rfl (by kernel_rfl) ?_
        | fail)
      intro W5 y1 y2 y3 y4
      go_wp2
      refine bodyPost_ret (results_tb (p := 2) (u := 3) rfl _ _ w.heap.size _ rfl y1 rfl) rfl ⟨?_, B4.out.trans (y4.mono (Nat.le_refl _))⟩
      rw [HRD.out]
      rfl
    have hsn : ¬ (n : Int) < (s : Int) := by omega
    have hsN : ¬ n < s := by omega
    have HBE : Hid (s ≤ n) := by show _ ≤ _; omega
    have HRD0 : Hid (rdX zs = rdO (optsD zs)) := if_neg (by rw [HLN.out, HSS.out]; exact hns)
    clear hns
    obtain ⟨i0, hi, hzz0, hzz1, hzz2⟩ := info_parts infoOptG
    have HRW : Hid (W4.ownsRow (gt + 1) 38 3 (.slice none 0 0) 0 (optCells [])) := ⟨rfl, .inl ⟨rfl, rfl⟩⟩
    have HP0 : Hid (PI w zs w.heap.size gb gt s vni oam 8 [] W4) := ⟨by rw [HLN.out]; exact S4.out, ⟨none, 0, R4.out, HRW.out⟩, P4.out, by omega, by omega, by simp; omega, by rw [HOD.out]; cases rdO ((zs.take s).drop 8) <;> simp, fun o ho => (by cases ho), B4.out⟩
    clear HRW R4 P4 S4 B4 C4
    go_wp2_with fail
    clear c4
    go_loopw [7] (fun i wr => ∃ (k : Nat) (acc : List Opt), i = .int .i64 k ∧ PI w zs w.heap.size gb gt s vni oam k acc wr) (fun i _ => s - (intOf i).toNat)
    case atStart => exact ⟨8, [], rfl, HP0.out⟩
    case round =>
      obtain ⟨k, acc, rfl, hP⟩ := hrel
      obtain ⟨va, vc, hrow, hown⟩ := hP.row
      have RK : Hid _ := hrow
      have OWK : Hid _ := hown
      have EK : Hid _ := hP.res
      have BK : Hid _ := hP.bel
      have SK : Hid (BS wr (some ⟨gb, 0, none⟩) n zs) := by show BS _ _ _ _; rw [← HLN.out]; exact hP.bs
      have HPK : Hid _ := hP
      have hlow := hP.low
      have hlen := hP.four
      have hfew := hP.few
      have hgb1 : gb < wr.heap.size := by
        rcases SK.out.cells with h0 | ⟨b', off', e, hc⟩
        · omega
        · cases e
          have := hc 0 (by rw [HLN.out]; omega)
          exact cell_lt this
      have HGW : Hid (gt < wr.heap.size ∧ gb < wr.heap.size) := ⟨Ca.lt_of_heap RK.out, hgb1⟩
      clear hrow hown hP HP0 hgb1
      by_cases hks : k = s
      · have e0 : ¬ (k : Int) < (s : Int) := by omega
        have HRD : Hid (rdO (optsD zs) = some acc) := by
          show _ = _
          rw [HPK.out.same, rdO_nil (by simp; omega)]; simp
        have HOSA : Hid (OS wr va acc.length acc ∧ ∀ x, va = some x → gt + 1 ≤ x.block) := by
          show OS _ _ _ _ ∧ _
          have ho := OWK.out
          rcases ho.2 with ⟨hv, h0⟩ | ⟨g, c, cur, hv, hg, _⟩
          · have ha : acc = [] := List.eq_nil_of_length_eq_zero h0
            subst ha
            have e1 : va = none := by injection hv
            subst e1
            exact ⟨OS.empty _, fun x e => by cases e⟩
          · have e1 : va = some ⟨g, 0, none⟩ := by injection hv
            subst e1
            exact ⟨os_own (cap := vc) ho (by omega) HPK.out.fit, fun x e => by cases e; exact hg⟩
        subst hks
        obtain ⟨fs, hfs⟩ : ∃ v, strOfNums (zs.drop k) = v := ⟨_, rfl⟩
        have HFS : Hid (strOfNums (zs.drop k) = fs) := hfs
        have q6 := cells14g' RK.out 6
        simp only [List.getElem?_toArray, List.getElem?_cons_succ, List.getElem?_cons_zero] at q6
        have f6 := frozen_of_row wr _ 6 _ _ RK.out
        have hgg : w.heap.size < gt := by have := HGT.out; have := HGE.out; omega
        have B7 : Hid (Below w.heap.size w (wr.setCell ⟨gt, 6, none⟩ (.string fs))) := BK.out.setCell (show w.heap.size ≤ gt by omega) _
        have Q7 : Hid ((wr.setCell ⟨gt, 6, none⟩ (.string fs)).heap[gt]? = some (.cells #[.int .u32 0, .int .u32 0, .int .i64 0, .int .i64 vni, .bool oam, .slice va acc.length vc, .string fs] 25 (0, 0))) := Ca.row_setCell RK.out 6 (.string fs)
        have P7 : Hid ((wr.setCell ⟨gt, 6, none⟩ (.string fs)).heap[w.heap.size]? = some (.cells #[.int .u32 0, .int .u32 0, .int .i64 0, .int .i64 0, .bool false, .slice none 0 0, .string ⟨#[]⟩] 25 (0, 0))) := (Below.heap_setCell _ _ _ _ (show w.heap.size ≠ gt by omega)).trans EK.out
        have O7 : Hid (OS (wr.setCell ⟨gt, 6, none⟩ (.string fs)) va acc.length acc) := os_far HOSA.out.1 _ _ (fun x e => by have := HOSA.out.2 x e; show x.block ≠ gt; omega)
        have HFR : Hid (∀ x, va = some x → w.heap.size < x.block) := fun x e => by have := HOSA.out.2 x e; omega
        have hkn : (k : Int) ≤ (n : Int) := by have := HBE.out; omega
        have hkc2 : (k : Int) ≤ (cap : Int) := by omega
        by_cases hcs : cap = k
        · obtain rfl : n = k := by have := HBE.out; omega
          subst hcs
          have hcv := run_conv_bs (P := Try.prog) (w := wr) 0 (BS.empty (some ⟨gb, 0, none⟩)) 26 9 5 Try.underlying26 Try.underlying5 Try.underlying9
          rw [show strOfNums [] = fs by rw [← hfs, List.drop_of_length_le (by rw [HLN.out]; omega)]] at hcv
          clear hfs HPK HGW
          go_wp2_with (first
            | refine wpList_load_row rfl 25 _ rfl gt rfl 25 #[.int .u32 0, .int .u32 0, .int .i64 0, .int .i64 vni, .bool oam, .slice va acc.length vc, .string fs] (0, 0) _ Q7.out Try.underlying25 rfl infoTn ?_
            | refine Ca.wpList_store_row rfl 25 _ _ rfl w.heap.size #[.int .u32 0, .int .u32 0, .int .i64 0, .int .i64 0, .bool false, .slice none 0 0, .string ⟨#[]⟩] #[.int .u32 0, .int .u32 0, .int .i64 0, .int .i64 vni, .bool oam, .slice va acc.length vc, .string fs] 25 rfl rfl P7.out (by kernel_rfl) rfl (by kernel_rfl) ?_
            | fail)
          intro W5 y1 y2 y3 y4
          have OS5 : Hid (OS W5 va acc.length acc) := os_far2 O7.out y2 (fun x e => by have := HFR.out x e; omega)
          go_wp2
          refine bodyPost_ret (results_tb (p := 2) (u := 3) rfl _ _ w.heap.size _ rfl y1 rfl) rfl ⟨?_, B7.out.trans (y4.mono (Nat.le_refl _))⟩
          rw [HRD0.out, HRD.out]
          exact ⟨va, vc, by rw [HFS.out]; rfl, OS5.out, fun x e => by have := HFR.out x e; omega⟩
        · have hcv := run_conv_bs (P := Try.prog) (w := wr) (cap - k) (SK.out.drop (by omega) k (by have := HBE.out; omega)) 26 9 5 Try.underlying26 Try.underlying5 Try.underlying9
          rw [hfs, Nat.zero_add] at hcv
          clear hfs HPK HGW
          go_wp2_with (first
            | refine wpList_load_row rfl 25 _ rfl gt rfl 25 #[.int .u32 0, .int .u32 0, .int .i64 0, .int .i64 vni, .bool oam, .slice va acc.length vc, .string fs] (0, 0) _ Q7.out Try.underlying25 rfl infoTn ?_
            | refine Ca.wpList_store_row rfl 25 _ _ rfl w.heap.size #[.int .u32 0, .int .u32 0, .int .i64 0, .int .i64 0, .bool false, .slice none 0 0, .string ⟨#[]⟩] #[.int .u32 0, .int .u32 0, .int .i64 0, .int .i64 vni, .bool oam, .slice va acc.length vc, .string fs] 25 rfl rfl P7.out (by kernel_rfl) rfl (by kernel_rfl) ?_
            | fail)
          intro W5 y1 y2 y3 y4
          have OS5 : Hid (OS W5 va acc.length acc) := os_far2 O7.out y2 (fun x e => by have := HFR.out x e; omega)
          go_wp2
          refine bodyPost_ret (results_tb (p := 2) (u := 3) rfl _ _ w.heap.size _ rfl y1 rfl) rfl ⟨?_, B7.out.trans (y4.mono (Nat.le_refl _))⟩
          rw [HRD0.out, HRD.out]
          exact ⟨va, vc, by rw [HFS.out]; rfl, OS5.out, fun x e => by have := HFR.out x e; omega⟩
      have e0 : (k : Int) < (s : Int) := by omega
      have e1 : ¬ (s : Int) < (k : Int) + 4 := by omega
      have LK : Hid (k < s ∧ (s - k) % 4 = 0 ∧ s ≤ n) := ⟨by omega, hlen, HBE.out⟩
      have hz3 := HFT.out (k + 3)
      have hz2 := HFT.out (k + 2)
      have C3 := SK.out.cell9 (k + 3) (by omega)
      have C2 : Hid (wr.cell? ⟨gb, k + 2, none⟩ = some (.int .u8 (zs.getD (k + 2) 0))) := SK.out.cell9 (k + 2) (by omega)
      have HL2 : Hid ((((zs.take s).drop k).length : Nat) = s - k) := by show _ = _; rw [List.length_drop, List.length_take, HLN.out]; omega
      have hsz : (4 : Int) + 4 * (zs.getD (k + 3) 0 % 32) = (sizO ((zs.take s).drop k) : Int) := by unfold sizO; rw [drop_take_get zs s k 3 (by omega)]; omega
      have hs4 := sizO_four ((zs.take s).drop k)
      obtain ⟨q, hq⟩ : ∃ q : Nat, sizO ((zs.take s).drop k) = 4 + q := ⟨sizO ((zs.take s).drop k) - 4, by omega⟩
      have HSQ : Hid (sizO ((zs.take s).drop k) = 4 + q) := hq
      rw [hq] at hsz hs4
      have HO3 : Hid (((zs.take s).drop k).getD 2 0 = zs.getD (k + 2) 0) := drop_take_get zs s k 2 (by omega)
      generalize hq3 : zs.getD (k + 3) 0 = z3 at *
      generalize hq2 : zs.getD (k + 2) 0 = z2 at *
      have w1 : IntKind.i64.wrap (z3 % 32) = z3 % 32 := by simp [IntKind.wrap, IntKind.bits, IntKind.signed]; omega
      have w2 : IntKind.i64.wrap (4 * (z3 % 32)) = (q : Int) := by rw [show 4 * (z3 % 32) = (q : Int) by omega]; simp [IntKind.wrap, IntKind.bits, IntKind.signed]; omega
      have w4 : 4 * (z3 % 32) = (q : Int) := by omega
      have w5 : IntKind.i64.wrap (z2) = z2 := by simp [IntKind.wrap, IntKind.bits, IntKind.signed]; omega
      have hk3 : (k : Int) + 3 < (n : Int) := by have := LK.out; omega
      have hk2 : (k : Int) + 2 < (n : Int) := by have := LK.out; omega
      have hk2c : (k : Int) + 2 ≤ (cap : Int) := by have := LK.out; omega
      have hkb : (k : Int) ≤ 260 := by omega
      have hkc : ¬ cap = k := by have := LK.out; omega
      by_cases hsh : s - k < 4 + q
      · have e2 : (s : Int) < (k : Int) + 4 + (q : Int) := by omega
        have HRD : Hid (rdO (optsD zs) = none) := by
          show _ = _
          rw [HPK.out.same, rdO_short (by rw [HL2.out]; omega) (by rw [HL2.out, HSQ.out]; omega)]; rfl
        clear hsz hlen hfew LK HL2 HO3 HSQ hs4
        go_wp2_with (first
          | refine Ca.wpList_store_row rfl 25 _ _ rfl w.heap.size #[.int .u32 0, .int .u32 0, .int .i64 0, .int .i64 0, .bool false, .slice none 0 0, .string ⟨#[]⟩] #[.int .u32 0, .int .u32 0, .int .i64 0, .int .i64 0, .bool false, .slice none 0 0, .string ⟨#[]⟩] 25 rfl rfl EK.out (by kernel_rfl) rfl (by kernel_rfl) ?_
          | fail)
        intro W5 y1 y2 y3 y4
        go_wp2
        refine bodyPost_ret (results_tb (p := 2) (u := 3) rfl _ _ w.heap.size _ rfl y1 rfl) rfl ⟨?_, BK.out.trans (y4.mono (Nat.le_refl _))⟩
        rw [HRD0.out, HRD.out]
        rfl
      have e2 : ¬ (s : Int) < (k : Int) + 4 + (q : Int) := by omega
      have e3 : (k : Int) + 4 + (q : Int) ≤ (cap : Int) := by have := LK.out; omega
      have C5 : Hid (wr.cell? ⟨gt, 5, none⟩ = some (.slice va acc.length vc)) := cells14g' RK.out 5
      obtain ⟨D, hD⟩ : ∃ D, (zs.drop (k + 4)).take q = D := ⟨_, rfl⟩
      obtain ⟨N2, hN2⟩ : ∃ N, num ((zs.drop k).take 2) = N := ⟨_, rfl⟩
      have hnum : 0 ≤ num ((zs.drop k).take 2) ∧ num ((zs.drop k).take 2) < 65536 := num_bd (zs.drop k) (Eth9.fits_drop9 HFT.out k) 2
      rw [hN2] at hnum
      have HNQ : Hid (num ((zs.drop k).take 2) = N2) := hN2
      have wN : IntKind.i64.wrap N2 = N2 := by simp [IntKind.wrap, IntKind.bits, IntKind.signed]; omega
      have HDf : Fit D := by rw [← hD]; exact fits_take9 (Eth9.fits_drop9 HFT.out (k + 4)) _
      have KNM : Hid (∀ W, BS W (some ⟨gb, 0, none⟩) n zs → BS W (some ⟨gb, k, none⟩) 2 ((zs.drop k).take 2)) := fun W h => by
        have := (h.drop (by omega) k (by have := LK.out; omega)).take 2 (by have := LK.out; omega)
        rw [Nat.zero_add] at this
        exact this
      have HOP : optO ((zs.take s).drop k) = ⟨N2, z2, D⟩ := by
        have := LK.out
        unfold optO
        rw [HO3.out, HSQ.out, ← hN2, ← hD]
        have e1 : ((zs.take s).drop k).take 2 = (zs.drop k).take 2 := by rw [List.drop_take, List.take_take, Nat.min_eq_left (by omega)]
        have e2 : (((zs.take s).drop k).drop 4).take (4 + q - 4) = (zs.drop (k + 4)).take q := by
          rw [List.drop_drop, List.drop_take, List.take_take, show 4 + q - 4 = q by omega, Nat.min_eq_left (by omega)]
        rw [e1, e2]
      have HSZQ : Hid (k + (4 + q) ≤ s ∧ k < s) := by show _ ∧ _; have := LK.out; omega
      have KPI : Hid (∀ W, BS W (some ⟨gb, 0, none⟩) n zs → (∃ va vc, W.heap[gt]? = some (.cells #[.int .u32 0, .int .u32 0, .int .i64 0, .int .i64 vni, .bool oam, .slice va (acc.length + 1) vc, .string ⟨#[]⟩] 25 (0, 0)) ∧ W.ownsRow (gt + 1) 38 3 (.slice va (acc.length + 1) vc) (acc.length + 1) (optCells acc ++ [.int .i64 N2, .int .i64 z2, .string (strOfNums D)])) → W.heap[w.heap.size]? = some (.cells #[.int .u32 0, .int .u32 0, .int .i64 0, .int .i64 0, .bool false, .slice none 0 0, .string ⟨#[]⟩] 25 (0, 0)) → Below w.heap.size w W → PI w zs w.heap.size gb gt s vni oam (k + (4 + q)) (acc ++ [⟨N2, z2, D⟩]) W) := fun W a1 a2 a3 a4 => by
        have hlk := LK.out
        have hle : (acc ++ [(⟨N2, z2, D⟩ : Opt)]).length = acc.length + 1 := by simp
        refine ⟨by rw [HLN.out]; exact a1, by rw [hle, optCells_app]; exact a2, a3, by omega, by omega, by rw [hle]; omega, ?_, ?_, a4⟩
        · rw [HPK.out.same, rdO_cons (by rw [HL2.out]; omega) (by rw [HL2.out, HSQ.out]; omega), HSQ.out, HOP, List.drop_drop]
          cases rdO ((zs.take s).drop (k + (4 + q))) <;> simp
        · intro o ho
          rcases List.mem_append.1 ho with h | h
          · exact HPK.out.fit o h
          · obtain rfl : o = ⟨N2, z2, D⟩ := by simpa using h
            exact HDf
      have hrunO := run_buildO N2 z2 (strOfNums D)
      have HDQ : Hid ((zs.drop (k + 4)).take q = D) := hD
      have v2 : IntKind.i64.wrap ((k : Int) + 2) = (k : Int) + 2 := by simp [IntKind.wrap, IntKind.bits, IntKind.signed]; omega
      have v4 : IntKind.i64.wrap ((k : Int) + 4) = (k : Int) + 4 := by simp [IntKind.wrap, IntKind.bits, IntKind.signed]; omega
      have v5 : IntKind.i64.wrap ((k : Int) + 4 + (q : Int)) = (k : Int) + 4 + (q : Int) := by simp [IntKind.wrap, IntKind.bits, IntKind.signed]; omega
      have t2 : ((k : Int) + 2).toNat = k + 2 := by omega
      have t4 : ((k : Int) + 4).toNat = k + 4 := by omega
      have t5 : ((k : Int) + 4 + (q : Int)).toNat = k + 4 + q := by omega
      have p2 : (0 : Int) ≤ (k : Int) + 2 := by omega
      have p4 : (0 : Int) ≤ (k : Int) + 4 := by omega
      have p5 : (0 : Int) ≤ (k : Int) + 4 + (q : Int) := by omega
      have h4k : (k : Int) + 4 ≤ (k : Int) + 4 + (q : Int) := by omega
      have hwgt : w.heap.size < gt := by have := HGT.out; have := HGE.out; omega
      clear HOP HDf hN2 hD HPK hsz hs4 hq hlen
      by_cases hc4 : cap = k + 4
      · have hq0 : q = 0 := by have := LK.out; omega
        subst hq0
        have hD0 : D = [] := by rw [← HDQ.out]; simp
        subst hD0
        subst hc4
        have DCV : ∀ W, BS W (some ⟨gb, 0, none⟩) n zs → (convert 26 9 (.slice (some ⟨gb, 0, none⟩) 0 0)).run Try.prog W = .ok (.string (strOfNums [])) W := fun W _ => run_conv_bs (P := Try.prog) (w := W) 0 (BS.empty (some ⟨gb, 0, none⟩)) 26 9 5 Try.underlying26 Try.underlying5 Try.underlying9
        go_wp2_with fail
        have hck2 : wr.cell? ⟨gb, k + 2, none⟩ = some (.int .u8 z2) := C2.out
        refine region_but (fun W => W.cell? ⟨gt, 5, none⟩ = some (.slice va acc.length vc) ∧ W.cell? ⟨gb, k + 2, none⟩ = some (.int .u8 z2) ∧ BS W (some ⟨gb, 0, none⟩) n zs) 28 (by kernel_rfl) ?_
        have hHeld : wr.drew.cell? ⟨gt, 5, none⟩ = some (.slice va acc.length vc) ∧ wr.drew.cell? ⟨gb, k + 2, none⟩ = some (.int .u8 z2) ∧ BS wr.drew (some ⟨gb, 0, none⟩) n zs := ⟨C5.out, hck2, SK.out.drew⟩
        refine HeldBut.take (i := 0) (v := ?_) rfl (by kernel_rfl) (by kernel_rfl) (by kernel_rfl) (by kernel_rfl) (fun _ _ _ h => h) (Or.inl ⟨by rfl, ?_⟩) (by assumption) ?_
        rotate_left
        · (intro w hSw; (try dsimp only at hSw); go_simp; try with_reducible rfl)
        try simp only [List.getElem_toArray, List.getElem_cons_zero, List.getElem_cons_succ, Act.put, List.setIfInBounds_toArray, List.set_cons_zero, List.set_cons_succ]
        refine HeldBut.take (i := 1) (v := ?_) rfl (by kernel_rfl) (by kernel_rfl) (by kernel_rfl) (by kernel_rfl) (fun _ _ _ h => h) (Or.inl ⟨by rfl, ?_⟩) (by assumption) ?_
        rotate_left
        · (intro w hSw; (try dsimp only at hSw); go_simp; try with_reducible rfl)
        try simp only [List.getElem_toArray, List.getElem_cons_zero, List.getElem_cons_succ, Act.put, List.setIfInBounds_toArray, List.set_cons_zero, List.set_cons_succ]
        refine HeldBut.take (i := 2) (v := ?_) rfl (by kernel_rfl) (by kernel_rfl) (by kernel_rfl) (by kernel_rfl) (fun _ _ _ h => h) (Or.inl ⟨by rfl, ?_⟩) (by assumption) ?_
        rotate_left
        · (intro w hSw; (try dsimp only at hSw); go_simp; try with_reducible rfl)
        try simp only [List.getElem_toArray, List.getElem_cons_zero, List.getElem_cons_succ, Act.put, List.setIfInBounds_toArray, List.set_cons_zero, List.set_cons_succ]
        refine HeldBut.take (i := 3) (v := ?_) rfl (by kernel_rfl) (by kernel_rfl) (by kernel_rfl) (by kernel_rfl) (fun _ _ _ h => h) (Or.inl ⟨by rfl, ?_⟩) (by assumption) ?_
        rotate_left
        · (intro w hSw; (try dsimp only at hSw); go_simp; try with_reducible rfl)
        try simp only [List.getElem_toArray, List.getElem_cons_zero, List.getElem_cons_succ, Act.put, List.setIfInBounds_toArray, List.set_cons_zero, List.set_cons_succ]
        refine HeldBut.take (i := 4) (v := ?_) rfl (by kernel_rfl) (by kernel_rfl) (by kernel_rfl) (by kernel_rfl) (fun _ _ _ h => h) (Or.inl ⟨by rfl, ?_⟩) (by assumption) ?_
        rotate_left
        · (intro w hSw; (try dsimp only at hSw); go_simp; try with_reducible rfl)
        try simp only [List.getElem_toArray, List.getElem_cons_zero, List.getElem_cons_succ, Act.put, List.setIfInBounds_toArray, List.set_cons_zero, List.set_cons_succ]
        refine HeldBut.take (i := 5) (v := ?_) rfl (by kernel_rfl) (by kernel_rfl) (by kernel_rfl) (by kernel_rfl) (fun _ _ _ h => h) (Or.inl ⟨by rfl, ?_⟩) (by assumption) ?_
        rotate_left
        · (intro w hSw; (try dsimp only at hSw); go_simp; try with_reducible rfl)
        try simp only [List.getElem_toArray, List.getElem_cons_zero, List.getElem_cons_succ, Act.put, List.setIfInBounds_toArray, List.set_cons_zero, List.set_cons_succ]
        refine HeldBut.take (i := 6) (v := ?_) rfl (by kernel_rfl) (by kernel_rfl) (by kernel_rfl) (by kernel_rfl) (fun _ _ _ h => h) (Or.inl ⟨by rfl, ?_⟩) (by assumption) ?_
        rotate_left
        · (intro w hSw; (try dsimp only at hSw); go_simp; try with_reducible rfl)
        try simp only [List.getElem_toArray, List.getElem_cons_zero, List.getElem_cons_succ, Act.put, List.setIfInBounds_toArray, List.set_cons_zero, List.set_cons_succ]
        refine HeldBut.take (i := 9) (v := ?_) rfl (by kernel_rfl) (by kernel_rfl) (by kernel_rfl) (by kernel_rfl) (fun _ _ _ h => h) (Or.inl ⟨by rfl, ?_⟩) (by assumption) ?_
        rotate_left
        · (intro w hSw; (try dsimp only at hSw); go_simp; try with_reducible rfl)
        try simp only [List.getElem_toArray, List.getElem_cons_zero, List.getElem_cons_succ, Act.put, List.setIfInBounds_toArray, List.set_cons_zero, List.set_cons_succ]
        refine HeldBut.take (i := 10) (v := ?_) rfl (by kernel_rfl) (by kernel_rfl) (by kernel_rfl) (by kernel_rfl) (fun _ _ _ h => h) (Or.inl ⟨by rfl, ?_⟩) (by assumption) ?_
        rotate_left
        · (intro w hSw; (try dsimp only at hSw); go_simp; try with_reducible rfl)
        try simp only [List.getElem_toArray, List.getElem_cons_zero, List.getElem_cons_succ, Act.put, List.setIfInBounds_toArray, List.set_cons_zero, List.set_cons_succ]
        refine HeldBut.take (i := 11) (v := ?_) rfl (by kernel_rfl) (by kernel_rfl) (by kernel_rfl) (by kernel_rfl) (fun _ _ _ h => h) (Or.inl ⟨by rfl, ?_⟩) (by assumption) ?_
        rotate_left
        · (intro w hSw; (try dsimp only at hSw); go_simp; try with_reducible rfl)
        try simp only [List.getElem_toArray, List.getElem_cons_zero, List.getElem_cons_succ, Act.put, List.setIfInBounds_toArray, List.set_cons_zero, List.set_cons_succ]
        refine HeldBut.take (i := 12) (v := ?_) rfl (by kernel_rfl) (by kernel_rfl) (by kernel_rfl) (by kernel_rfl) (fun _ _ _ h => h) (Or.inl ⟨by rfl, ?_⟩) (by assumption) ?_
        rotate_left
        · (intro w hSw; (try dsimp only at hSw); go_simp; try with_reducible rfl)
        try simp only [List.getElem_toArray, List.getElem_cons_zero, List.getElem_cons_succ, Act.put, List.setIfInBounds_toArray, List.set_cons_zero, List.set_cons_succ]
        refine HeldBut.take (i := 13) (v := ?_) rfl (by kernel_rfl) (by kernel_rfl) (by kernel_rfl) (by kernel_rfl) (fun _ _ _ h => h) (Or.inl ⟨by rfl, ?_⟩) (by assumption) ?_
        rotate_left
        · (intro w hSw; (try dsimp only at hSw); go_simp; try with_reducible rfl)
        try simp only [List.getElem_toArray, List.getElem_cons_zero, List.getElem_cons_succ, Act.put, List.setIfInBounds_toArray, List.set_cons_zero, List.set_cons_succ]
        refine HeldBut.take (i := 14) (v := ?_) rfl (by kernel_rfl) (by kernel_rfl) (by kernel_rfl) (by kernel_rfl) (fun _ _ _ h => h) (Or.inl ⟨by rfl, ?_⟩) (by assumption) ?_
        rotate_left
        · (intro w hSw; (try dsimp only at hSw); go_simp; try with_reducible rfl)
        try simp only [List.getElem_toArray, List.getElem_cons_zero, List.getElem_cons_succ, Act.put, List.setIfInBounds_toArray, List.set_cons_zero, List.set_cons_succ]
        refine HeldBut.take (i := 15) (v := ?_) rfl (by kernel_rfl) (by kernel_rfl) (by kernel_rfl) (by kernel_rfl) (fun _ _ _ h => h) (Or.inl ⟨by rfl, ?_⟩) (by assumption) ?_
        rotate_left
        · (intro w hSw; (try dsimp only at hSw); go_simp; try with_reducible rfl)
        try simp only [List.getElem_toArray, List.getElem_cons_zero, List.getElem_cons_succ, Act.put, List.setIfInBounds_toArray, List.set_cons_zero, List.set_cons_succ]
        refine HeldBut.take (i := 16) (v := ?_) rfl (by kernel_rfl) (by kernel_rfl) (by kernel_rfl) (by kernel_rfl) (fun _ _ _ h => h) (Or.inl ⟨by rfl, ?_⟩) (by assumption) ?_
        rotate_left
        · (intro w hSw; (try dsimp only at hSw); go_simp; try with_reducible rfl)
        try simp only [List.getElem_toArray, List.getElem_cons_zero, List.getElem_cons_succ, Act.put, List.setIfInBounds_toArray, List.set_cons_zero, List.set_cons_succ]
        refine HeldBut.take (i := 17) (v := ?_) rfl (by kernel_rfl) (by kernel_rfl) (by kernel_rfl) (by kernel_rfl) (fun _ _ _ h => h) (Or.inl ⟨by rfl, ?_⟩) (by assumption) ?_
        rotate_left
        · (intro w hSw; (try dsimp only at hSw); go_simp; try with_reducible rfl)
        try simp only [List.getElem_toArray, List.getElem_cons_zero, List.getElem_cons_succ, Act.put, List.setIfInBounds_toArray, List.set_cons_zero, List.set_cons_succ]
        refine HeldBut.take (i := 18) (v := ?_) rfl (by kernel_rfl) (by kernel_rfl) (by kernel_rfl) (by kernel_rfl) (fun _ _ _ h => h) (Or.inl ⟨by rfl, ?_⟩) (by assumption) ?_
        rotate_left
        · (intro w hSw; (try dsimp only at hSw); go_simp; try with_reducible rfl)
        try simp only [List.getElem_toArray, List.getElem_cons_zero, List.getElem_cons_succ, Act.put, List.setIfInBounds_toArray, List.set_cons_zero, List.set_cons_succ]
        refine HeldBut.take (i := 19) (v := ?_) rfl (by kernel_rfl) (by kernel_rfl) (by kernel_rfl) (by kernel_rfl) (fun _ _ _ h => h) (Or.inl ⟨by rfl, ?_⟩) (by assumption) ?_
        rotate_left
        · (intro w hSw; (try dsimp only at hSw); go_simp; try with_reducible rfl)
        try simp only [List.getElem_toArray, List.getElem_cons_zero, List.getElem_cons_succ, Act.put, List.setIfInBounds_toArray, List.set_cons_zero, List.set_cons_succ]
        refine HeldBut.take (i := 20) (v := ?_) rfl (by kernel_rfl) (by kernel_rfl) (by kernel_rfl) (by kernel_rfl) (fun _ _ _ h => h) (Or.inl ⟨by rfl, ?_⟩) (by assumption) ?_
        rotate_left
        · (intro w hSw; (try dsimp only at hSw); go_simp; try with_reducible rfl)
        try simp only [List.getElem_toArray, List.getElem_cons_zero, List.getElem_cons_succ, Act.put, List.setIfInBounds_toArray, List.set_cons_zero, List.set_cons_succ]
        refine HeldBut.take (i := 21) (v := ?_) rfl (by kernel_rfl) (by kernel_rfl) (by kernel_rfl) (by kernel_rfl) (fun _ _ _ h => h) (Or.inl ⟨by rfl, ?_⟩) (by assumption) ?_
        rotate_left
        · (intro w hSw; (try dsimp only at hSw); go_simp; try with_reducible rfl)
        try simp only [List.getElem_toArray, List.getElem_cons_zero, List.getElem_cons_succ, Act.put, List.setIfInBounds_toArray, List.set_cons_zero, List.set_cons_succ]
        refine HeldBut.take (i := 22) (v := ?_) rfl (by kernel_rfl) (by kernel_rfl) (by kernel_rfl) (by kernel_rfl) (fun _ _ _ h => h) (Or.inl ⟨by rfl, ?_⟩) (by assumption) ?_
        rotate_left
        · (intro w hSw; (try dsimp only at hSw); go_simp; try with_reducible rfl)
        try simp only [List.getElem_toArray, List.getElem_cons_zero, List.getElem_cons_succ, Act.put, List.setIfInBounds_toArray, List.set_cons_zero, List.set_cons_succ]
        refine HeldBut.take (i := 23) (v := .string (strOfNums [])) rfl (by kernel_rfl) (by kernel_rfl) (by kernel_rfl) (by kernel_rfl) (fun _ _ _ h => h) (Or.inl ⟨by rfl, fun W hW => by have c := DCV W hW.2.2; go_simp⟩) (by assumption) ?_
        try simp only [List.getElem_toArray, List.getElem_cons_zero, List.getElem_cons_succ, Act.put, List.setIfInBounds_toArray, List.set_cons_zero, List.set_cons_succ]
        refine HeldBut.ready (rs := [7]) (by kernel_rfl) (by simp) ?_
        refine AllBut.cons (o := _) rfl (fun K hK => ?_) AllBut.nil
        go_simp
        refine (rnum_any _ (KNM.out _ hHeld.2.2) (by omega)).mono ?_
        rintro e W2 ⟨rfl, hW2⟩
        rw [hW2]
        clear hW2
        go_wp2_with fail
        refine hK.out _ _ (.inr hHeld) ?_
        clear hK K
        rw [HNQ.out]
        refine HeldBut.take (i := 8) (v := ?_) rfl (by kernel_rfl) (by kernel_rfl) (by kernel_rfl) (by kernel_rfl) (fun _ _ _ h => h) (Or.inl ⟨by rfl, ?_⟩) (by assumption) ?_
        rotate_left
        · (intro w hSw; (try dsimp only at hSw); go_simp; try with_reducible rfl)
        try simp only [List.getElem_toArray, List.getElem_cons_zero, List.getElem_cons_succ, Act.put, List.setIfInBounds_toArray, List.set_cons_zero, List.set_cons_succ]
        refine HeldBut.take (i := 24) (v := ?_) rfl (by kernel_rfl) (by kernel_rfl) (by kernel_rfl) (by kernel_rfl) (fun _ _ _ h => h) (Or.inl ⟨by rfl, ?_⟩) (by assumption) ?_
        rotate_left
        · (intro w hSw; (try dsimp only at hSw); go_simp; try with_reducible rfl)
        try simp only [List.getElem_toArray, List.getElem_cons_zero, List.getElem_cons_succ, Act.put, List.setIfInBounds_toArray, List.set_cons_zero, List.set_cons_succ]
        refine HeldBut.ready (rs := [25]) (by kernel_rfl) (by simp) ?_
        refine AllBut.cons (o := _) rfl (fun K hK => ?_) AllBut.nil
        go_simp
        have c2b : (wr.alloc (.cells #[.int .i64 N2, .int .i64 z2, .string (strOfNums [])] 38)).drew.cell? ⟨gb, k + 2, none⟩ = some (.int .u8 z2) := ((below1 wr _).cell (p := ⟨gb, k + 2, none⟩) HGW.out.2).trans C2.out
        have c5b : (wr.alloc (.cells #[.int .i64 N2, .int .i64 z2, .string (strOfNums [])] 38)).drew.cell? ⟨gt, 5, none⟩ = some (.slice va acc.length vc) := ((below1 wr _).cell (p := ⟨gt, 5, none⟩) HGW.out.1).trans C5.out
        have bsb : BS (wr.alloc (.cells #[.int .i64 N2, .int .i64 z2, .string (strOfNums [])] 38)).drew (some ⟨gb, 0, none⟩) n zs := (SK.out.below (below1 wr _)).drew
        have rwb : (wr.alloc (.cells #[.int .i64 N2, .int .i64 z2, .string (strOfNums [])] 38)).drew.heap[gt]? = some (.cells #[.int .u32 0, .int .u32 0, .int .i64 0, .int .i64 vni, .bool oam, .slice va acc.length vc, .string ⟨#[]⟩] 25 (0, 0)) := ((below1 wr _).block _ HGW.out.1).trans RK.out
        have reb : (wr.alloc (.cells #[.int .i64 N2, .int .i64 z2, .string (strOfNums [])] 38)).drew.heap[w.heap.size]? = some (.cells #[.int .u32 0, .int .u32 0, .int .i64 0, .int .i64 0, .bool false, .slice none 0 0, .string ⟨#[]⟩] 25 (0, 0)) := ((below1 wr _).block _ (Ca.lt_of_heap EK.out)).trans EK.out
        have hOw : World.ownsRow (wr.alloc (.cells #[.int .i64 N2, .int .i64 z2, .string (strOfNums [])] 38)).drew (gt + 1) 38 3 (.slice va acc.length vc) acc.length (optCells acc) := World.ownsRow.drew (World.ownsRow.alloc OWK.out _)
        clear hHeld
        have hHeld : (wr.alloc (.cells #[.int .i64 N2, .int .i64 z2, .string (strOfNums [])] 38)).drew.cell? ⟨gt, 5, none⟩ = some (.slice va acc.length vc) ∧ (wr.alloc (.cells #[.int .i64 N2, .int .i64 z2, .string (strOfNums [])] 38)).drew.cell? ⟨gb, k + 2, none⟩ = some (.int .u8 z2) ∧ BS (wr.alloc (.cells #[.int .i64 N2, .int .i64 z2, .string (strOfNums [])] 38)).drew (some ⟨gb, 0, none⟩) n zs := ⟨c5b, c2b, bsb⟩
        refine hK.out _ _ (.inr hHeld) ?_
        clear hK K
        try simp only [List.getElem_toArray, List.getElem_cons_zero, List.getElem_cons_succ, Act.put, List.setIfInBounds_toArray, List.set_cons_zero, List.set_cons_succ]
        refine HeldBut.ready (rs := [26]) (by kernel_rfl) (by simp) ?_
        refine AllBut.cons (o := _) rfl (fun K hK => ?_) AllBut.nil
        refine step_append_lies _ (by rfl) (.tmp 60) (.tmp 84) 23 (by rfl) (gt + 1) 38 i0 _ 3 32 Try.underlying23 hi hzz0 hzz1 hzz2 rfl (by omega) _ acc.length _ (by rfl) hOw ⟨wr.heap.size, 0, none⟩ 1 1 [.int .i64 N2, .int .i64 z2, .string (strOfNums [])] (by rfl) rfl (World.news_of_block (w := (wr.alloc (.cells #[.int .i64 N2, .int .i64 z2, .string (strOfNums [])] 38)).drew) (heap_alloc_new wr _)) (by simp [Value.oneCell']) (by omega) (by unfold maxLen; omega) (by omega) (by have := HGW.out.1; simp; omega) _ rfl ?_
        intro g cap2 we h1' h2' h3' h4'
        have nob : ∀ j, j < gt + 1 → some j ≠ Value.ownBlock (.slice va acc.length vc) := fun j hj e => by have := (World.ownsRow.lt hOw _ e.symm).1; omega
        have hgt0 : gt < gt + 1 := by omega
        have hgb0 : gb < gt + 1 := by have := HGT.out; omega
        have hgr0 : w.heap.size < gt + 1 := by have := HGT.out; have := HGE.out; omega
        have r3 : we.heap[gt]? = some (.cells #[.int .u32 0, .int .u32 0, .int .i64 0, .int .i64 vni, .bool oam, .slice va acc.length vc, .string ⟨#[]⟩] 25 (0, 0)) := (h2'.block gt (by simp; have := HGW.out.1; omega) (nob _ hgt0)).trans rwb
        have e3 : we.heap[w.heap.size]? = some (.cells #[.int .u32 0, .int .u32 0, .int .i64 0, .int .i64 0, .bool false, .slice none 0 0, .string ⟨#[]⟩] 25 (0, 0)) := (h2'.block w.heap.size (by simp; have := Ca.lt_of_heap EK.out; omega) (nob _ hgr0)).trans reb
        have hck3 : we.cell? ⟨gb, k + 2, none⟩ = some (.int .u8 z2) := (h2'.cell_far ⟨gb, k + 2, none⟩ (by simp; have := HGW.out.2; omega) (nob _ hgb0)).trans c2b
        have bs3 : BS we (some ⟨gb, 0, none⟩) n zs := by
          refine ⟨bsb.len, bsb.fits, bsb.room, .inr ⟨gb, 0, rfl, fun j hj => ?_⟩⟩
          have hc0 : (wr.alloc (.cells #[.int .i64 N2, .int .i64 z2, .string (strOfNums [])] 38)).drew.cell? ⟨gb, 0 + j, none⟩ = some (.int .u8 (zs.getD j 0)) := by
            rcases bsb.cells with h0 | ⟨b', off', e, hc⟩
            · have := bsb.len; omega
            · cases e; exact hc j hj
          exact (h2'.cell_far ⟨gb, 0 + j, none⟩ (by simp; have := HGW.out.2; omega) (nob _ hgb0)).trans hc0
        have bel3 : Below w.heap.size w we := by
          have bA := BK.out.alloc BK.out.size (.cells #[.int .i64 N2, .int .i64 z2, .string (strOfNums [])] 38)
          exact bA.drew.grown h2' (by have := BK.out.size; simp; omega) (fun j hj => by have := (World.ownsRow.lt hOw j hj).1; omega)
        have q5 : we.cell? ⟨gt, 5, none⟩ = some (.slice va acc.length vc) := cells14g' r3 5
        have f5 := frozen_of_row we _ 5 _ _ r3
        clear hHeld
        have hHeld : we.cell? ⟨gt, 5, none⟩ = some (.slice va acc.length vc) ∧ we.cell? ⟨gb, k + 2, none⟩ = some (.int .u8 z2) ∧ BS we (some ⟨gb, 0, none⟩) n zs := ⟨q5, hck3, bs3⟩
        refine hK.out _ _ (.inr hHeld) ?_
        clear hK K
        try simp only [List.getElem_toArray, List.getElem_cons_zero, List.getElem_cons_succ, Act.put, List.setIfInBounds_toArray, List.set_cons_zero, List.set_cons_succ]
        refine HeldBut.take (i := 27) (v := ?_) rfl (by kernel_rfl) (by kernel_rfl) (by kernel_rfl) (by kernel_rfl) (fun _ _ _ h => h) (Or.inl ⟨by rfl, ?_⟩) (by assumption) ?_
        rotate_left
        · (intro w hSw; (try dsimp only at hSw); go_simp; try with_reducible rfl)
        try simp only [List.getElem_toArray, List.getElem_cons_zero, List.getElem_cons_succ, Act.put, List.setIfInBounds_toArray, List.set_cons_zero, List.set_cons_succ]
        refine HeldBut.ready (rs := [28]) (by kernel_rfl) (by simp) ?_
        refine AllBut.cons (o := _) rfl (fun K hK => ?_) AllBut.nil
        go_simp
        have hge : gt + 1 ≤ g := by
          rcases h3' with h | h
          · exact (World.ownsRow.lt hOw _ h).1
          · have := HGW.out.1
            simp at h
            omega
        have hgne : ¬ g = gt := by omega
        have r4 : (we.setCell ⟨gt, 5, none⟩ (.slice (some ⟨g, 0, none⟩) (acc.length + 1) cap2)).heap[gt]? = some (.cells #[.int .u32 0, .int .u32 0, .int .i64 0, .int .i64 vni, .bool oam, .slice (some ⟨g, 0, none⟩) (acc.length + 1) cap2, .string ⟨#[]⟩] 25 (0, 0)) := Ca.row_setCell r3 5 _
        have e4 : (we.setCell ⟨gt, 5, none⟩ (.slice (some ⟨g, 0, none⟩) (acc.length + 1) cap2)).heap[w.heap.size]? = some (.cells #[.int .u32 0, .int .u32 0, .int .i64 0, .int .i64 0, .bool false, .slice none 0 0, .string ⟨#[]⟩] 25 (0, 0)) := (Below.heap_setCell _ _ _ _ (show w.heap.size ≠ gt by omega)).trans e3
        have o4 : (we.setCell ⟨gt, 5, none⟩ (.slice (some ⟨g, 0, none⟩) (acc.length + 1) cap2)).ownsRow (gt + 1) 38 3 (.slice (some ⟨g, 0, none⟩) (acc.length + 1) cap2) (acc.length + 1) (optCells acc ++ [.int .i64 N2, .int .i64 z2, .string (strOfNums [])]) := own_far9 h1' (fun e => hgne (by simpa [Value.ownBlock] using e)) _
        have b4 : BS (we.setCell ⟨gt, 5, none⟩ (.slice (some ⟨g, 0, none⟩) (acc.length + 1) cap2)) (some ⟨gb, 0, none⟩) n zs := bs_far9 bs3 (show gb ≠ gt by have := HGT.out; omega) 5 _
        have hPI : PI w zs w.heap.size gb gt s vni oam (k + (4 + 0)) (acc ++ [⟨N2, z2, []⟩]) (we.setCell ⟨gt, 5, none⟩ (.slice (some ⟨g, 0, none⟩) (acc.length + 1) cap2)) :=
          KPI.out _ b4 ⟨_, cap2, r4, o4⟩ e4 (bel3.setCell (show w.heap.size ≤ gt by omega) _)
        have HPI : Hid _ := hPI
        refine hK.out _ _ (.inl rfl) ?_
        clear hK K hHeld
        refine HeldBut.done (by kernel_rfl) ?_ _
        try simp only [List.getElem_toArray, List.getElem_cons_zero, List.getElem_cons_succ, Act.put, List.setIfInBounds_toArray, List.set_cons_zero, List.set_cons_succ]
        clear hPI r4 e4 o4 b4 h1' h2' h3' h4' nob hgt0 hgb0 hgr0 r3 e3 hck3 bs3 bel3 q5 f5 hge hgne c2b c5b bsb rwb reb hOw hck2 RK EK C5 C2 SK OWK BK
        go_wp2
        go_roundw
        case rel => exact ⟨k + (4 + 0), _, by first | rfl | go_num | (congr 1; push_cast; omega), HPI.out⟩
        case measure => simp [intOf]; have := HSZQ.out; omega
      · have DCV : ∀ W, BS W (some ⟨gb, 0, none⟩) n zs → (convert 26 9 (.slice (some ⟨gb, k + 4, none⟩) q (cap - (k + 4)))).run Try.prog W = .ok (.string (strOfNums D)) W := fun W h => by
          have := run_conv_bs (P := Try.prog) (w := W) (cap - (k + 4)) ((h.drop (by omega) (k + 4) (by have := LK.out; omega)).take q (by have := LK.out; omega)) 26 9 5 Try.underlying26 Try.underlying5 Try.underlying9
          rw [HDQ.out, Nat.zero_add] at this
          exact this
        go_wp2_with fail
        have hck2 : wr.cell? ⟨gb, k + 2, none⟩ = some (.int .u8 z2) := C2.out
        refine region_but (fun W => W.cell? ⟨gt, 5, none⟩ = some (.slice va acc.length vc) ∧ W.cell? ⟨gb, k + 2, none⟩ = some (.int .u8 z2) ∧ BS W (some ⟨gb, 0, none⟩) n zs) 28 (by kernel_rfl) ?_
        have hHeld : wr.drew.cell? ⟨gt, 5, none⟩ = some (.slice va acc.length vc) ∧ wr.drew.cell? ⟨gb, k + 2, none⟩ = some (.int .u8 z2) ∧ BS wr.drew (some ⟨gb, 0, none⟩) n zs := ⟨C5.out, hck2, SK.out.drew⟩
        refine HeldBut.take (i := 0) (v := ?_) rfl (by kernel_rfl) (by kernel_rfl) (by kernel_rfl) (by kernel_rfl) (fun _ _ _ h => h) (Or.inl ⟨by rfl, ?_⟩) (by assumption) ?_
        rotate_left
        · (intro w hSw; (try dsimp only at hSw); go_simp; try with_reducible rfl)
        try simp only [List.getElem_toArray, List.getElem_cons_zero, List.getElem_cons_succ, Act.put, List.setIfInBounds_toArray, List.set_cons_zero, List.set_cons_succ]
        refine HeldBut.take (i := 1) (v := ?_) rfl (by kernel_rfl) (by kernel_rfl) (by kernel_rfl) (by kernel_rfl) (fun _ _ _ h => h) (Or.inl ⟨by rfl, ?_⟩) (by assumption) ?_
        rotate_left
        · (intro w hSw; (try dsimp only at hSw); go_simp; try with_reducible rfl)
        try simp only [List.getElem_toArray, List.getElem_cons_zero, List.getElem_cons_succ, Act.put, List.setIfInBounds_toArray, List.set_cons_zero, List.set_cons_succ]
        refine HeldBut.take (i := 2) (v := ?_) rfl (by kernel_rfl) (by kernel_rfl) (by kernel_rfl) (by kernel_rfl) (fun _ _ _ h => h) (Or.inl ⟨by rfl, ?_⟩) (by assumption) ?_
        rotate_left
        · (intro w hSw; (try dsimp only at hSw); go_simp; try with_reducible rfl)
        try simp only [List.getElem_toArray, List.getElem_cons_zero, List.getElem_cons_succ, Act.put, List.setIfInBounds_toArray, List.set_cons_zero, List.set_cons_succ]
        refine HeldBut.take (i := 3) (v := ?_) rfl (by kernel_rfl) (by kernel_rfl) (by kernel_rfl) (by kernel_rfl) (fun _ _ _ h => h) (Or.inl ⟨by rfl, ?_⟩) (by assumption) ?_
        rotate_left
        · (intro w hSw; (try dsimp only at hSw); go_simp; try with_reducible rfl)
        try simp only [List.getElem_toArray, List.getElem_cons_zero, List.getElem_cons_succ, Act.put, List.setIfInBounds_toArray, List.set_cons_zero, List.set_cons_succ]
        refine HeldBut.take (i := 4) (v := ?_) rfl (by kernel_rfl) (by kernel_rfl) (by kernel_rfl) (by kernel_rfl) (fun _ _ _ h => h) (Or.inl ⟨by rfl, ?_⟩) (by assumption) ?_
        rotate_left
        · (intro w hSw; (try dsimp only at hSw); go_simp; try with_reducible rfl)
        try simp only [List.getElem_toArray, List.getElem_cons_zero, List.getElem_cons_succ, Act.put, List.setIfInBounds_toArray, List.set_cons_zero, List.set_cons_succ]
        refine HeldBut.take (i := 5) (v := ?_) rfl (by kernel_rfl) (by kernel_rfl) (by kernel_rfl) (by kernel_rfl) (fun _ _ _ h => h) (Or.inl ⟨by rfl, ?_⟩) (by assumption) ?_
        rotate_left
        · (intro w hSw; (try dsimp only at hSw); go_simp; try with_reducible rfl)
        try simp only [List.getElem_toArray, List.getElem_cons_zero, List.getElem_cons_succ, Act.put, List.setIfInBounds_toArray, List.set_cons_zero, List.set_cons_succ]
        refine HeldBut.take (i := 6) (v := ?_) rfl (by kernel_rfl) (by kernel_rfl) (by kernel_rfl) (by kernel_rfl) (fun _ _ _ h => h) (Or.inl ⟨by rfl, ?_⟩) (by assumption) ?_
        rotate_left
        · (intro w hSw; (try dsimp only at hSw); go_simp; try with_reducible rfl)
        try simp only [List.getElem_toArray, List.getElem_cons_zero, List.getElem_cons_succ, Act.put, List.setIfInBounds_toArray, List.set_cons_zero, List.set_cons_succ]
        refine HeldBut.take (i := 9) (v := ?_) rfl (by kernel_rfl) (by kernel_rfl) (by kernel_rfl) (by kernel_rfl) (fun _ _ _ h => h) (Or.inl ⟨by rfl, ?_⟩) (by assumption) ?_
        rotate_left
        · (intro w hSw; (try dsimp only at hSw); go_simp; try with_reducible rfl)
        try simp only [List.getElem_toArray, List.getElem_cons_zero, List.getElem_cons_succ, Act.put, List.setIfInBounds_toArray, List.set_cons_zero, List.set_cons_succ]
        refine HeldBut.take (i := 10) (v := ?_) rfl (by kernel_rfl) (by kernel_rfl) (by kernel_rfl) (by kernel_rfl) (fun _ _ _ h => h) (Or.inl ⟨by rfl, ?_⟩) (by assumption) ?_
        rotate_left
        · (intro w hSw; (try dsimp only at hSw); go_simp; try with_reducible rfl)
        try simp only [List.getElem_toArray, List.getElem_cons_zero, List.getElem_cons_succ, Act.put, List.setIfInBounds_toArray, List.set_cons_zero, List.set_cons_succ]
        refine HeldBut.take (i := 11) (v := ?_) rfl (by kernel_rfl) (by kernel_rfl) (by kernel_rfl) (by kernel_rfl) (fun _ _ _ h => h) (Or.inl ⟨by rfl, ?_⟩) (by assumption) ?_
        rotate_left
        · (intro w hSw; (try dsimp only at hSw); go_simp; try with_reducible rfl)
        try simp only [List.getElem_toArray, List.getElem_cons_zero, List.getElem_cons_succ, Act.put, List.setIfInBounds_toArray, List.set_cons_zero, List.set_cons_succ]
        refine HeldBut.take (i := 12) (v := ?_) rfl (by kernel_rfl) (by kernel_rfl) (by kernel_rfl) (by kernel_rfl) (fun _ _ _ h => h) (Or.inl ⟨by rfl, ?_⟩) (by assumption) ?_
        rotate_left
        · (intro w hSw; (try dsimp only at hSw); go_simp; try with_reducible rfl)
        try simp only [List.getElem_toArray, List.getElem_cons_zero, List.getElem_cons_succ, Act.put, List.setIfInBounds_toArray, List.set_cons_zero, List.set_cons_succ]
        refine HeldBut.take (i := 13) (v := ?_) rfl (by kernel_rfl) (by kernel_rfl) (by kernel_rfl) (by kernel_rfl) (fun _ _ _ h => h) (Or.inl ⟨by rfl, ?_⟩) (by assumption) ?_
        rotate_left
        · (intro w hSw; (try dsimp only at hSw); go_simp; try with_reducible rfl)
        try simp only [List.getElem_toArray, List.getElem_cons_zero, List.getElem_cons_succ, Act.put, List.setIfInBounds_toArray, List.set_cons_zero, List.set_cons_succ]
        refine HeldBut.take (i := 14) (v := ?_) rfl (by kernel_rfl) (by kernel_rfl) (by kernel_rfl) (by kernel_rfl) (fun _ _ _ h => h) (Or.inl ⟨by rfl, ?_⟩) (by assumption) ?_
        rotate_left
        · (intro w hSw; (try dsimp only at hSw); go_simp; try with_reducible rfl)
        try simp only [List.getElem_toArray, List.getElem_cons_zero, List.getElem_cons_succ, Act.put, List.setIfInBounds_toArray, List.set_cons_zero, List.set_cons_succ]
        refine HeldBut.take (i := 15) (v := ?_) rfl (by kernel_rfl) (by kernel_rfl) (by kernel_rfl) (by kernel_rfl) (fun _ _ _ h => h) (Or.inl ⟨by rfl, ?_⟩) (by assumption) ?_
        rotate_left
        · (intro w hSw; (try dsimp only at hSw); go_simp; try with_reducible rfl)
        try simp only [List.getElem_toArray, List.getElem_cons_zero, List.getElem_cons_succ, Act.put, List.setIfInBounds_toArray, List.set_cons_zero, List.set_cons_succ]
        refine HeldBut.take (i := 16) (v := ?_) rfl (by kernel_rfl) (by kernel_rfl) (by kernel_rfl) (by kernel_rfl) (fun _ _ _ h => h) (Or.inl ⟨by rfl, ?_⟩) (by assumption) ?_
        rotate_left
        · (intro w hSw; (try dsimp only at hSw); go_simp; try with_reducible rfl)
        try simp only [List.getElem_toArray, List.getElem_cons_zero, List.getElem_cons_succ, Act.put, List.setIfInBounds_toArray, List.set_cons_zero, List.set_cons_succ]
        refine HeldBut.take (i := 17) (v := ?_) rfl (by kernel_rfl) (by kernel_rfl) (by kernel_rfl) (by kernel_rfl) (fun _ _ _ h => h) (Or.inl ⟨by rfl, ?_⟩) (by assumption) ?_
        rotate_left
        · (intro w hSw; (try dsimp only at hSw); go_simp; try with_reducible rfl)
        try simp only [List.getElem_toArray, List.getElem_cons_zero, List.getElem_cons_succ, Act.put, List.setIfInBounds_toArray, List.set_cons_zero, List.set_cons_succ]
        refine HeldBut.take (i := 18) (v := ?_) rfl (by kernel_rfl) (by kernel_rfl) (by kernel_rfl) (by kernel_rfl) (fun _ _ _ h => h) (Or.inl ⟨by rfl, ?_⟩) (by assumption) ?_
        rotate_left
        · (intro w hSw; (try dsimp only at hSw); go_simp; try with_reducible rfl)
        try simp only [List.getElem_toArray, List.getElem_cons_zero, List.getElem_cons_succ, Act.put, List.setIfInBounds_toArray, List.set_cons_zero, List.set_cons_succ]
        refine HeldBut.take (i := 19) (v := ?_) rfl (by kernel_rfl) (by kernel_rfl) (by kernel_rfl) (by kernel_rfl) (fun _ _ _ h => h) (Or.inl ⟨by rfl, ?_⟩) (by assumption) ?_
        rotate_left
        · (intro w hSw; (try dsimp only at hSw); go_simp; try with_reducible rfl)
        try simp only [List.getElem_toArray, List.getElem_cons_zero, List.getElem_cons_succ, Act.put, List.setIfInBounds_toArray, List.set_cons_zero, List.set_cons_succ]
        refine HeldBut.take (i := 20) (v := ?_) rfl (by kernel_rfl) (by kernel_rfl) (by kernel_rfl) (by kernel_rfl) (fun _ _ _ h => h) (Or.inl ⟨by rfl, ?_⟩) (by assumption) ?_
        rotate_left
        · (intro w hSw; (try dsimp only at hSw); go_simp; try with_reducible rfl)
        try simp only [List.getElem_toArray, List.getElem_cons_zero, List.getElem_cons_succ, Act.put, List.setIfInBounds_toArray, List.set_cons_zero, List.set_cons_succ]
        refine HeldBut.take (i := 21) (v := ?_) rfl (by kernel_rfl) (by kernel_rfl) (by kernel_rfl) (by kernel_rfl) (fun _ _ _ h => h) (Or.inl ⟨by rfl, ?_⟩) (by assumption) ?_
        rotate_left
        · (intro w hSw; (try dsimp only at hSw); go_simp; try with_reducible rfl)
        try simp only [List.getElem_toArray, List.getElem_cons_zero, List.getElem_cons_succ, Act.put, List.setIfInBounds_toArray, List.set_cons_zero, List.set_cons_succ]
        refine HeldBut.take (i := 22) (v := ?_) rfl (by kernel_rfl) (by kernel_rfl) (by kernel_rfl) (by kernel_rfl) (fun _ _ _ h => h) (Or.inl ⟨by rfl, ?_⟩) (by assumption) ?_
        rotate_left
        · (intro w hSw; (try dsimp only at hSw); go_simp; try with_reducible rfl)
        try simp only [List.getElem_toArray, List.getElem_cons_zero, List.getElem_cons_succ, Act.put, List.setIfInBounds_toArray, List.set_cons_zero, List.set_cons_succ]
        refine HeldBut.take (i := 23) (v := .string (strOfNums D)) rfl (by kernel_rfl) (by kernel_rfl) (by kernel_rfl) (by kernel_rfl) (fun _ _ _ h => h) (Or.inl ⟨by rfl, fun W hW => by have c := DCV W hW.2.2; go_simp⟩) (by assumption) ?_
        try simp only [List.getElem_toArray, List.getElem_cons_zero, List.getElem_cons_succ, Act.put, List.setIfInBounds_toArray, List.set_cons_zero, List.set_cons_succ]
        refine HeldBut.ready (rs := [7]) (by kernel_rfl) (by simp) ?_
        refine AllBut.cons (o := _) rfl (fun K hK => ?_) AllBut.nil
        go_simp
        refine (rnum_any _ (KNM.out _ hHeld.2.2) (by omega)).mono ?_
        rintro e W2 ⟨rfl, hW2⟩
        rw [hW2]
        clear hW2
        go_wp2_with fail
        refine hK.out _ _ (.inr hHeld) ?_
        clear hK K
        rw [HNQ.out]
        refine HeldBut.take (i := 8) (v := ?_) rfl (by kernel_rfl) (by kernel_rfl) (by kernel_rfl) (by kernel_rfl) (fun _ _ _ h => h) (Or.inl ⟨by rfl, ?_⟩) (by assumption) ?_
        rotate_left
        · (intro w hSw; (try dsimp only at hSw); go_simp; try with_reducible rfl)
        try simp only [List.getElem_toArray, List.getElem_cons_zero, List.getElem_cons_succ, Act.put, List.setIfInBounds_toArray, List.set_cons_zero, List.set_cons_succ]
        refine HeldBut.take (i := 24) (v := ?_) rfl (by kernel_rfl) (by kernel_rfl) (by kernel_rfl) (by kernel_rfl) (fun _ _ _ h => h) (Or.inl ⟨by rfl, ?_⟩) (by assumption) ?_
        rotate_left
        · (intro w hSw; (try dsimp only at hSw); go_simp; try with_reducible rfl)
        try simp only [List.getElem_toArray, List.getElem_cons_zero, List.getElem_cons_succ, Act.put, List.setIfInBounds_toArray, List.set_cons_zero, List.set_cons_succ]
        refine HeldBut.ready (rs := [25]) (by kernel_rfl) (by simp) ?_
        refine AllBut.cons (o := _) rfl (fun K hK => ?_) AllBut.nil
        go_simp
        have c2b : (wr.alloc (.cells #[.int .i64 N2, .int .i64 z2, .string (strOfNums D)] 38)).drew.cell? ⟨gb, k + 2, none⟩ = some (.int .u8 z2) := ((below1 wr _).cell (p := ⟨gb, k + 2, none⟩) HGW.out.2).trans C2.out
        have c5b : (wr.alloc (.cells #[.int .i64 N2, .int .i64 z2, .string (strOfNums D)] 38)).drew.cell? ⟨gt, 5, none⟩ = some (.slice va acc.length vc) := ((below1 wr _).cell (p := ⟨gt, 5, none⟩) HGW.out.1).trans C5.out
        have bsb : BS (wr.alloc (.cells #[.int .i64 N2, .int .i64 z2, .string (strOfNums D)] 38)).drew (some ⟨gb, 0, none⟩) n zs := (SK.out.below (below1 wr _)).drew
        have rwb : (wr.alloc (.cells #[.int .i64 N2, .int .i64 z2, .string (strOfNums D)] 38)).drew.heap[gt]? = some (.cells #[.int .u32 0, .int .u32 0, .int .i64 0, .int .i64 vni, .bool oam, .slice va acc.length vc, .string ⟨#[]⟩] 25 (0, 0)) := ((below1 wr _).block _ HGW.out.1).trans RK.out
        have reb : (wr.alloc (.cells #[.int .i64 N2, .int .i64 z2, .string (strOfNums D)] 38)).drew.heap[w.heap.size]? = some (.cells #[.int .u32 0, .int .u32 0, .int .i64 0, .int .i64 0, .bool false, .slice none 0 0, .string ⟨#[]⟩] 25 (0, 0)) := ((below1 wr _).block _ (Ca.lt_of_heap EK.out)).trans EK.out
        have hOw : World.ownsRow (wr.alloc (.cells #[.int .i64 N2, .int .i64 z2, .string (strOfNums D)] 38)).drew (gt + 1) 38 3 (.slice va acc.length vc) acc.length (optCells acc) := World.ownsRow.drew (World.ownsRow.alloc OWK.out _)
        clear hHeld
        have hHeld : (wr.alloc (.cells #[.int .i64 N2, .int .i64 z2, .string (strOfNums D)] 38)).drew.cell? ⟨gt, 5, none⟩ = some (.slice va acc.length vc) ∧ (wr.alloc (.cells #[.int .i64 N2, .int .i64 z2, .string (strOfNums D)] 38)).drew.cell? ⟨gb, k + 2, none⟩ = some (.int .u8 z2) ∧ BS (wr.alloc (.cells #[.int .i64 N2, .int .i64 z2, .string (strOfNums D)] 38)).drew (some ⟨gb, 0, none⟩) n zs := ⟨c5b, c2b, bsb⟩
        refine hK.out _ _ (.inr hHeld) ?_
        clear hK K
        try simp only [List.getElem_toArray, List.getElem_cons_zero, List.getElem_cons_succ, Act.put, List.setIfInBounds_toArray, List.set_cons_zero, List.set_cons_succ]
        refine HeldBut.ready (rs := [26]) (by kernel_rfl) (by simp) ?_
        refine AllBut.cons (o := _) rfl (fun K hK => ?_) AllBut.nil
        refine step_append_lies _ (by rfl) (.tmp 60) (.tmp 84) 23 (by rfl) (gt + 1) 38 i0 _ 3 32 Try.underlying23 hi hzz0 hzz1 hzz2 rfl (by omega) _ acc.length _ (by rfl) hOw ⟨wr.heap.size, 0, none⟩ 1 1 [.int .i64 N2, .int .i64 z2, .string (strOfNums D)] (by rfl) rfl (World.news_of_block (w := (wr.alloc (.cells #[.int .i64 N2, .int .i64 z2, .string (strOfNums D)] 38)).drew) (heap_alloc_new wr _)) (by simp [Value.oneCell']) (by omega) (by unfold maxLen; omega) (by omega) (by have := HGW.out.1; simp; omega) _ rfl ?_
        intro g cap2 we h1' h2' h3' h4'
        have nob : ∀ j, j < gt + 1 → some j ≠ Value.ownBlock (.slice va acc.length vc) := fun j hj e => by have := (World.ownsRow.lt hOw _ e.symm).1; omega
        have hgt0 : gt < gt + 1 := by omega
        have hgb0 : gb < gt + 1 := by have := HGT.out; omega
        have hgr0 : w.heap.size < gt + 1 := by have := HGT.out; have := HGE.out; omega
        have r3 : we.heap[gt]? = some (.cells #[.int .u32 0, .int .u32 0, .int .i64 0, .int .i64 vni, .bool oam, .slice va acc.length vc, .string ⟨#[]⟩] 25 (0, 0)) := (h2'.block gt (by simp; have := HGW.out.1; omega) (nob _ hgt0)).trans rwb
        have e3 : we.heap[w.heap.size]? = some (.cells #[.int .u32 0, .int .u32 0, .int .i64 0, .int .i64 0, .bool false, .slice none 0 0, .string ⟨#[]⟩] 25 (0, 0)) := (h2'.block w.heap.size (by simp; have := Ca.lt_of_heap EK.out; omega) (nob _ hgr0)).trans reb
        have hck3 : we.cell? ⟨gb, k + 2, none⟩ = some (.int .u8 z2) := (h2'.cell_far ⟨gb, k + 2, none⟩ (by simp; have := HGW.out.2; omega) (nob _ hgb0)).trans c2b
        have bs3 : BS we (some ⟨gb, 0, none⟩) n zs := by
          refine ⟨bsb.len, bsb.fits, bsb.room, .inr ⟨gb, 0, rfl, fun j hj => ?_⟩⟩
          have hc0 : (wr.alloc (.cells #[.int .i64 N2, .int .i64 z2, .string (strOfNums D)] 38)).drew.cell? ⟨gb, 0 + j, none⟩ = some (.int .u8 (zs.getD j 0)) := by
            rcases bsb.cells with h0 | ⟨b', off', e, hc⟩
            · have := bsb.len; omega
            · cases e; exact hc j hj
          exact (h2'.cell_far ⟨gb, 0 + j, none⟩ (by simp; have := HGW.out.2; omega) (nob _ hgb0)).trans hc0
        have bel3 : Below w.heap.size w we := by
          have bA := BK.out.alloc BK.out.size (.cells #[.int .i64 N2, .int .i64 z2, .string (strOfNums D)] 38)
          exact bA.drew.grown h2' (by have := BK.out.size; simp; omega) (fun j hj => by have := (World.ownsRow.lt hOw j hj).1; omega)
        have q5 : we.cell? ⟨gt, 5, none⟩ = some (.slice va acc.length vc) := cells14g' r3 5
        have f5 := frozen_of_row we _ 5 _ _ r3
        clear hHeld
        have hHeld : we.cell? ⟨gt, 5, none⟩ = some (.slice va acc.length vc) ∧ we.cell? ⟨gb, k + 2, none⟩ = some (.int .u8 z2) ∧ BS we (some ⟨gb, 0, none⟩) n zs := ⟨q5, hck3, bs3⟩
        refine hK.out _ _ (.inr hHeld) ?_
        clear hK K
        try simp only [List.getElem_toArray, List.getElem_cons_zero, List.getElem_cons_succ, Act.put, List.setIfInBounds_toArray, List.set_cons_zero, List.set_cons_succ]
        refine HeldBut.take (i := 27) (v := ?_) rfl (by kernel_rfl) (by kernel_rfl) (by kernel_rfl) (by kernel_rfl) (fun _ _ _ h => h) (Or.inl ⟨by rfl, ?_⟩) (by assumption) ?_
        rotate_left
        · (intro w hSw; (try dsimp only at hSw); go_simp; try with_reducible rfl)
        try simp only [List.getElem_toArray, List.getElem_cons_zero, List.getElem_cons_succ, Act.put, List.setIfInBounds_toArray, List.set_cons_zero, List.set_cons_succ]
        refine HeldBut.ready (rs := [28]) (by kernel_rfl) (by simp) ?_
        refine AllBut.cons (o := _) rfl (fun K hK => ?_) AllBut.nil
        go_simp
        have hge : gt + 1 ≤ g := by
          rcases h3' with h | h
          · exact (World.ownsRow.lt hOw _ h).1
          · have := HGW.out.1
            simp at h
            omega
        have hgne : ¬ g = gt := by omega
        have r4 : (we.setCell ⟨gt, 5, none⟩ (.slice (some ⟨g, 0, none⟩) (acc.length + 1) cap2)).heap[gt]? = some (.cells #[.int .u32 0, .int .u32 0, .int .i64 0, .int .i64 vni, .bool oam, .slice (some ⟨g, 0, none⟩) (acc.length + 1) cap2, .string ⟨#[]⟩] 25 (0, 0)) := Ca.row_setCell r3 5 _
        have e4 : (we.setCell ⟨gt, 5, none⟩ (.slice (some ⟨g, 0, none⟩) (acc.length + 1) cap2)).heap[w.heap.size]? = some (.cells #[.int .u32 0, .int .u32 0, .int .i64 0, .int .i64 0, .bool false, .slice none 0 0, .string ⟨#[]⟩] 25 (0, 0)) := (Below.heap_setCell _ _ _ _ (show w.heap.size ≠ gt by omega)).trans e3
        have o4 : (we.setCell ⟨gt, 5, none⟩ (.slice (some ⟨g, 0, none⟩) (acc.length + 1) cap2)).ownsRow (gt + 1) 38 3 (.slice (some ⟨g, 0, none⟩) (acc.length + 1) cap2) (acc.length + 1) (optCells acc ++ [.int .i64 N2, .int .i64 z2, .string (strOfNums D)]) := own_far9 h1' (fun e => hgne (by simpa [Value.ownBlock] using e)) _
        have b4 : BS (we.setCell ⟨gt, 5, none⟩ (.slice (some ⟨g, 0, none⟩) (acc.length + 1) cap2)) (some ⟨gb, 0, none⟩) n zs := bs_far9 bs3 (show gb ≠ gt by have := HGT.out; omega) 5 _
        have hPI : PI w zs w.heap.size gb gt s vni oam (k + (4 + q)) (acc ++ [⟨N2, z2, D⟩]) (we.setCell ⟨gt, 5, none⟩ (.slice (some ⟨g, 0, none⟩) (acc.length + 1) cap2)) :=
          KPI.out _ b4 ⟨_, cap2, r4, o4⟩ e4 (bel3.setCell (show w.heap.size ≤ gt by omega) _)
        have HPI : Hid _ := hPI
        refine hK.out _ _ (.inl rfl) ?_
        clear hK K hHeld
        refine HeldBut.done (by kernel_rfl) ?_ _
        try simp only [List.getElem_toArray, List.getElem_cons_zero, List.getElem_cons_succ, Act.put, List.setIfInBounds_toArray, List.set_cons_zero, List.set_cons_succ]
        clear hPI r4 e4 o4 b4 h1' h2' h3' h4' nob hgt0 hgb0 hgr0 r3 e3 hck3 bs3 bel3 q5 f5 hge hgne c2b c5b bsb rwb reb hOw hck2 RK EK C5 C2 SK OWK BK
        go_wp2
        go_roundw
        case rel => exact ⟨k + (4 + q), _, by first | rfl | go_num | (congr 1; push_cast; omega), HPI.out⟩
        case measure => simp [intOf]; have := HSZQ.out; omega
  · go_simp
    refine hK.out _ _ ⟨((below1 W1 _).cell (p := ⟨gb, 1, none⟩) HGB.out).trans c1, (S1.out.below (below1 W1 _)).drew⟩ (fun hHeld2 => ?_)
    clear hK K hHeld
    try simp only [List.getElem_toArray, List.getElem_cons_zero, List.getElem_cons_succ, Act.put, List.setIfInBounds_toArray, List.set_cons_zero, List.set_cons_succ]
    refine wpAnyH_ready (rs := [6]) (by kernel_rfl) (by simp) ?_
    refine AllReadyH.cons (o := _) rfl (fun K hK => ?_) AllReadyH.nil
    go_simp
    refine (rnum_any _ ((hHeld2.2.drop (by omega) 4 (by omega)).take 3 (by omega)) (by omega)).mono ?_
    rintro e W2 ⟨rfl, hW2⟩
    rw [hW2]
    clear hW2
    go_wp2_with fail
    refine hK.out _ _ hHeld2 (fun hHeld3 => ?_)
    clear hK K hHeld2
    rw [HV.out]
    refine wpAnyH_take (i := 7) (v := ?_) rfl (by kernel_rfl) (by kernel_rfl) (by kernel_rfl) (fun _ _ _ h => h) (Or.inl ⟨by rfl, ?_⟩) (by assumption) ?_
    rotate_left
    · (intro w hSw; (try dsimp only at hSw); go_simp; try with_reducible rfl)
    try simp only [List.getElem_toArray, List.getElem_cons_zero, List.getElem_cons_succ, Act.put, List.setIfInBounds_toArray, List.set_cons_zero, List.set_cons_succ]
    refine wpAnyH_take (i := 8) (v := ?_) rfl (by kernel_rfl) (by kernel_rfl) (by kernel_rfl) (fun _ _ _ h => h) (Or.inl ⟨by rfl, ?_⟩) (by assumption) ?_
    rotate_left
    · (intro w hSw; (try dsimp only at hSw); go_simp; try with_reducible rfl)
    try simp only [List.getElem_toArray, List.getElem_cons_zero, List.getElem_cons_succ, Act.put, List.setIfInBounds_toArray, List.set_cons_zero, List.set_cons_succ]
    refine wpAnyH_ready (rs := [10]) (by kernel_rfl) (by simp) ?_
    refine AllReadyH.cons (o := _) rfl (fun K hK => ?_) AllReadyH.nil
    refine Ca.step_store_at rfl 25 _ _ rfl W1.heap.size 0 #[.int .u32 0, .int .u32 0, .int .i64 0, .int .i64 0, .bool false, .slice none 0 0, .string ⟨#[]⟩] #[.int .u32 0, .int .u32 0, .int .i64 0, .int .i64 vni, .bool oam, .slice none 0 0, .string ⟨#[]⟩] 25 rfl rfl (heap_alloc_new W1 _) (by kernel_rfl) (Nat.le_of_ble_eq_true (by kernel_rfl)) (by kernel_rfl) ?_
    intro W4 y1 y2 y3 y4
    have R4 : Hid (W4.heap[W1.heap.size]? = some (.cells #[.int .u32 0, .int .u32 0, .int .i64 0, .int .i64 vni, .bool oam, .slice none 0 0, .string ⟨#[]⟩] 25 (0, 0))) := by show _ = _; rw [← put_tn vni oam]; exact y1
    have hb4 : Below W1.heap.size W1 W4 := (below1 W1 _).drew.trans (y4.mono (Nat.le_refl _))
    have P4 : Hid (W4.heap[w.heap.size]? = some (.cells #[.int .u32 0, .int .u32 0, .int .i64 0, .int .i64 0, .bool false, .slice none 0 0, .string ⟨#[]⟩] 25 (0, 0))) := (hb4.block _ (Ca.lt_of_heap P1.out)).trans P1.out
    have S4 : Hid (BS W4 (some ⟨gb, 0, none⟩) n zs) := S1.out.below hb4
    have B4 : Hid (Below w.heap.size w W4) := B1.out.trans (hb4.mono B1.out.size)
    have C4 : Hid (W4.cell? ⟨gb, 0, none⟩ = some (.int .u8 z0)) := (hb4.cell (p := ⟨gb, 0, none⟩) HGB.out).trans c0
    refine hK.out _ _ ⟨(hb4.cell (p := ⟨gb, 1, none⟩) HGB.out).trans c1, S4.out⟩ (fun hHeld => ?_)
    clear hK K y1 y2 y3 y4 hb4
    try simp only [List.getElem_toArray, List.getElem_cons_zero, List.getElem_cons_succ, Act.put, List.setIfInBounds_toArray, List.set_cons_zero, List.set_cons_succ]
    refine wpAnyH_done (by kernel_rfl) ?_ _
    clear hHeld
    have HGT : Hid (gb < W1.heap.size) := HGB.out
    obtain ⟨gt, hgt⟩ : ∃ g, W1.heap.size = g := ⟨_, rfl⟩
    rw [hgt] at R4 HGT ⊢
    clear hgt hrun S1 P1 B1 HGB c0 c1 hcq
    have c4 := C4.out
    by_cases hns : n < s
    · have hsn : (n : Int) < (s : Int) := by omega
      have HRD : Hid (rdX zs = none) := if_pos (by rw [HLN.out, HSS.out]; exact hns)
      go_wp2_with (first
        | refine Ca.wpList_store_row rfl 25 _ _ rfl w.heap.size #[.int .u32 0, .int .u32 0, .int .i64 0, .int .i64 0, .bool false, .slice none 0 0, .string ⟨#[]⟩] #[.int .u32 0, .int .u32 0, .int .i64 0, .int .i64 0, .bool false, .slice none 0 0, .string ⟨#[]⟩] 25 rfl rfl P4.out (by kernel_rfl) rfl (by kernel_rfl) ?_
        | fail)
      intro W5 y1 y2 y3 y4
      go_wp2
      refine bodyPost_ret (results_tb (p := 2) (u := 3) rfl _ _ w.heap.size _ rfl y1 rfl) rfl ⟨?_, B4.out.trans (y4.mono (Nat.le_refl _))⟩
      rw [HRD.out]
      rfl
    have hsn : ¬ (n : Int) < (s : Int) := by omega
    have hsN : ¬ n < s := by omega
    have HBE : Hid (s ≤ n) := by show _ ≤ _; omega
    have HRD0 : Hid (rdX zs = rdO (optsD zs)) := if_neg (by rw [HLN.out, HSS.out]; exact hns)
    clear hns
    obtain ⟨i0, hi, hzz0, hzz1, hzz2⟩ := info_parts infoOptG
    have HRW : Hid (W4.ownsRow (gt + 1) 38 3 (.slice none 0 0) 0 (optCells [])) := ⟨rfl, .inl ⟨rfl, rfl⟩⟩
    have HP0 : Hid (PI w zs w.heap.size gb gt s vni oam 8 [] W4) := ⟨by rw [HLN.out]; exact S4.out, ⟨none, 0, R4.out, HRW.out⟩, P4.out, by omega, by omega, by simp; omega, by rw [HOD.out]; cases rdO ((zs.take s).drop 8) <;> simp, fun o ho => (by cases ho), B4.out⟩
    clear HRW R4 P4 S4 B4 C4
    go_wp2_with fail
    clear c4
    go_loopw [7] (fun i wr => ∃ (k : Nat) (acc : List Opt), i = .int .i64 k ∧ PI w zs w.heap.size gb gt s vni oam k acc wr) (fun i _ => s - (intOf i).toNat)
    case atStart => exact ⟨8, [], rfl, HP0.out⟩
    case round =>
      obtain ⟨k, acc, rfl, hP⟩ := hrel
      obtain ⟨va, vc, hrow, hown⟩ := hP.row
      have RK : Hid _ := hrow
      have OWK : Hid _ := hown
      have EK : Hid _ := hP.res
      have BK : Hid _ := hP.bel
      have SK : Hid (BS wr (some ⟨gb, 0, none⟩) n zs) := by show BS _ _ _ _; rw [← HLN.out]; exact hP.bs
      have HPK : Hid _ := hP
      have hlow := hP.low
      have hlen := hP.four
      have hfew := hP.few
      have hgb1 : gb < wr.heap.size := by
        rcases SK.out.cells with h0 | ⟨b', off', e, hc⟩
        · omega
        · cases e
          have := hc 0 (by rw [HLN.out]; omega)
          exact cell_lt this
      have HGW : Hid (gt < wr.heap.size ∧ gb < wr.heap.size) := ⟨Ca.lt_of_heap RK.out, hgb1⟩
      clear hrow hown hP HP0 hgb1
      by_cases hks : k = s
      · have e0 : ¬ (k : Int) < (s : Int) := by omega
        have HRD : Hid (rdO (optsD zs) = some acc) := by
          show _ = _
          rw [HPK.out.same, rdO_nil (by simp; omega)]; simp
        have HOSA : Hid (OS wr va acc.length acc ∧ ∀ x, va = some x → gt + 1 ≤ x.block) := by
          show OS _ _ _ _ ∧ _
          have ho := OWK.out
          rcases ho.2 with ⟨hv, h0⟩ | ⟨g, c, cur, hv, hg, _⟩
          · have ha : acc = [] := List.eq_nil_of_length_eq_zero h0
            subst ha
            have e1 : va = none := by injection hv
            subst e1
            exact ⟨OS.empty _, fun x e => by cases e⟩
          · have e1 : va = some ⟨g, 0, none⟩ := by injection hv
            subst e1
            exact ⟨os_own (cap := vc) ho (by omega) HPK.out.fit, fun x e => by cases e; exact hg⟩
        subst hks
        obtain ⟨fs, hfs⟩ : ∃ v, strOfNums (zs.drop k) = v := ⟨_, rfl⟩
        have HFS : Hid (strOfNums (zs.drop k) = fs) := hfs
        have q6 := cells14g' RK.out 6
        simp only [List.getElem?_toArray, List.getElem?_cons_succ, List.getElem?_cons_zero] at q6
        have f6 := frozen_of_row wr _ 6 _ _ RK.out
        have hgg : w.heap.size < gt := by have := HGT.out; have := HGE.out; omega
        have B7 : Hid (Below w.heap.size w (wr.setCell ⟨gt, 6, none⟩ (.string fs))) := BK.out.setCell (show w.heap.size ≤ gt by omega) _
        have Q7 : Hid ((wr.setCell ⟨gt, 6, none⟩ (.string fs)).heap[gt]? = some (.cells #[.int .u32 0, .int .u32 0, .int .i64 0, .int .i64 vni, .bool oam, .slice va acc.length vc, .string fs] 25 (0, 0))) := Ca.row_setCell RK.out 6 (.string fs)
        have P7 : Hid ((wr.setCell ⟨gt, 6, none⟩ (.string fs)).heap[w.heap.size]? = some (.cells #[.int .u32 0, .int .u32 0, .int .i64 0, .int .i64 0, .bool false, .slice none 0 0, .string ⟨#[]⟩] 25 (0, 0))) := (Below.heap_setCell _ _ _ _ (show w.heap.size ≠ gt by omega)).trans EK.out
        have O7 : Hid (OS (wr.setCell ⟨gt, 6, none⟩ (.string fs)) va acc.length acc) := os_far HOSA.out.1 _ _ (fun x e => by have := HOSA.out.2 x e; show x.block ≠ gt; omega)
        have HFR : Hid (∀ x, va = some x → w.heap.size < x.block) := fun x e => by have := HOSA.out.2 x e; omega
        have hkn : (k : Int) ≤ (n : Int) := by have := HBE.out; omega
        have hkc2 : (k : Int) ≤ (cap : Int) := by omega
        by_cases hcs : cap = k
        · obtain rfl : n = k := by have := HBE.out; omega
          subst hcs
          have hcv := run_conv_bs (P := Try.prog) (w := wr) 0 (BS.empty (some ⟨gb, 0, none⟩)) 26 9 5 Try.underlying26 Try.underlying5 Try.underlying9
          rw [show strOfNums [] = fs by rw [← hfs, List.drop_of_length_le (by rw [HLN.out]; omega)]] at hcv
          clear hfs HPK HGW
          go_wp2_with (first
            | refine wpList_load_row rfl 25 _ rfl gt rfl 25 #[.int .u32 0, .int .u32 0, .int .i64 0, .int .i64 vni, .bool oam, .slice va acc.length vc, .string fs] (0, 0) _ Q7.out Try.underlying25 rfl infoTn ?_
            | refine Ca.wpList_store_row rfl 25 _ _ rfl w.heap.size #[.int .u32 0, .int .u32 0, .int .i64 0, .int .i64 0, .bool false, .slice none 0 0, .string ⟨#[]⟩] #[.int .u32 0, .int .u32 0, .int .i64 0, .int .i64 vni, .bool oam, .slice va acc.length vc, .string fs] 25 rfl rfl P7.out (by kernel_rfl) rfl (by kernel_rfl) ?_
            | fail)
          intro W5 y1 y2 y3 y4
          have OS5 : Hid (OS W5 va acc.length acc) := os_far2 O7.out y2 (fun x e => by have := HFR.out x e; omega)
          go_wp2
          refine bodyPost_ret (results_tb (p := 2) (u := 3) rfl _ _ w.heap.size _ rfl y1 rfl) rfl ⟨?_, B7.out.trans (y4.mono (Nat.le_refl _))⟩
          rw [HRD0.out, HRD.out]
          exact ⟨va, vc, by rw [HFS.out]; rfl, OS5.out, fun x e => by have := HFR.out x e; omega⟩
        · have hcv := run_conv_bs (P := Try.prog) (w := wr) (cap - k) (SK.out.drop (by omega) k (by have := HBE.out; omega)) 26 9 5 Try.underlying26 Try.underlying5 Try.underlying9
          rw [hfs, Nat.zero_add] at hcv
          clear hfs HPK HGW
          go_wp2_with (first
            | refine wpList_load_row rfl 25 _ rfl gt rfl 25 #[.int .u32 0, .int .u32 0, .int .i64 0, .int .i64 vni, .bool oam, .slice va acc.length vc, .string fs] (0, 0) _ Q7.out Try.underlying25 rfl infoTn ?_
            | refine Ca.wpList_store_row rfl 25 _ _ rfl w.heap.size #[.int .u32 0, .int .u32 0, .int .i64 0, .int .i64 0, .bool false, .slice none 0 0, .string ⟨#[]⟩] #[.int .u32 0, .int .u32 0, .int .i64 0, .int .i64 vni, .bool oam, .slice va acc.length vc, .string fs] 25 rfl rfl P7.out (by kernel_rfl) rfl (by kernel_rfl) ?_
            | fail)
          intro W5 y1 y2 y3 y4
          have OS5 : Hid (OS W5 va acc.length acc) := os_far2 O7.out y2 (fun x e => by have := HFR.out x e; omega)
          go_wp2
          refine bodyPost_ret (results_tb (p := 2) (u := 3) rfl _ _ w.heap.size _ rfl y1 rfl) rfl ⟨?_, B7.out.trans (y4.mono (Nat.le_refl _))⟩
          rw [HRD0.out, HRD.out]
          exact ⟨va, vc, by rw [HFS.out]; rfl, OS5.out, fun x e => by have := HFR.out x e; omega⟩
      have e0 : (k : Int) < (s : Int) := by omega
      have e1 : ¬ (s : Int) < (k : Int) + 4 := by omega
      have LK : Hid (k < s ∧ (s - k) % 4 = 0 ∧ s ≤ n) := ⟨by omega, hlen, HBE.out⟩
      have hz3 := HFT.out (k + 3)
      have hz2 := HFT.out (k + 2)
      have C3 := SK.out.cell9 (k + 3) (by omega)
      have C2 : Hid (wr.cell? ⟨gb, k + 2, none⟩ = some (.int .u8 (zs.getD (k + 2) 0))) := SK.out.cell9 (k + 2) (by omega)
      have HL2 : Hid ((((zs.take s).drop k).length : Nat) = s - k) := by show _ = _; rw [List.length_drop, List.length_take, HLN.out]; omega
      have hsz : (4 : Int) + 4 * (zs.getD (k + 3) 0 % 32) = (sizO ((zs.take s).drop k) : Int) := by unfold sizO; rw [drop_take_get zs s k 3 (by omega)]; omega
      have hs4 := sizO_four ((zs.take s).drop k)
      obtain ⟨q, hq⟩ : ∃ q : Nat, sizO ((zs.take s).drop k) = 4 + q := ⟨sizO ((zs.take s).drop k) - 4, by omega⟩
      have HSQ : Hid (sizO ((zs.take s).drop k) = 4 + q) := hq
      rw [hq] at hsz hs4
      have HO3 : Hid (((zs.take s).drop k).getD 2 0 = zs.getD (k + 2) 0) := drop_take_get zs s k 2 (by omega)
      generalize hq3 : zs.getD (k + 3) 0 = z3 at *
      generalize hq2 : zs.getD (k + 2) 0 = z2 at *
      have w1 : IntKind.i64.wrap (z3 % 32) = z3 % 32 := by simp [IntKind.wrap, IntKind.bits, IntKind.signed]; omega
      have w2 : IntKind.i64.wrap (4 * (z3 % 32)) = (q : Int) := by rw [show 4 * (z3 % 32) = (q : Int) by omega]; simp [IntKind.wrap, IntKind.bits, IntKind.signed]; omega
      have w4 : 4 * (z3 % 32) = (q : Int) := by omega
      have w5 : IntKind.i64.wrap (z2) = z2 := by simp [IntKind.wrap, IntKind.bits, IntKind.signed]; omega
      have hk3 : (k : Int) + 3 < (n : Int) := by have := LK.out; omega
      have hk2 : (k : Int) + 2 < (n : Int) := by have := LK.out; omega
      have hk2c : (k : Int) + 2 ≤ (cap : Int) := by have := LK.out; omega
      have hkb : (k : Int) ≤ 260 := by omega
      have hkc : ¬ cap = k := by have := LK.out; omega
      by_cases hsh : s - k < 4 + q
      · have e2 : (s : Int) < (k : Int) + 4 + (q : Int) := by omega
        have HRD : Hid (rdO (optsD zs) = none) := by
          show _ = _
          rw [HPK.out.same, rdO_short (by rw [HL2.out]; omega) (by rw [HL2.out, HSQ.out]; omega)]; rfl
        clear hsz hlen hfew LK HL2 HO3 HSQ hs4
        go_wp2_with (first
          | refine Ca.wpList_store_row rfl 25 _ _ rfl w.heap.size #[.int .u32 0, .int .u32 0, .int .i64 0, .int .i64 0, .bool false, .slice none 0 0, .string ⟨#[]⟩] #[.int .u32 0, .int .u32 0, .int .i64 0, .int .i64 0, .bool false, .slice none 0 0, .string ⟨#[]⟩] 25 rfl rfl EK.out (by kernel_rfl) rfl (by kernel_rfl) ?_
          | fail)
        intro W5 y1 y2 y3 y4
        go_wp2
        refine bodyPost_ret (results_tb (p := 2) (u := 3) rfl _ _ w.heap.size _ rfl y1 rfl) rfl ⟨?_, BK.out.trans (y4.mono (Nat.le_refl _))⟩
        rw [HRD0.out, HRD.out]
        rfl
      have e2 : ¬ (s : Int) < (k : Int) + 4 + (q : Int) := by omega
      have e3 : (k : Int) + 4 + (q : Int) ≤ (cap : Int) := by have := LK.out; omega
      have C5 : Hid (wr.cell? ⟨gt, 5, none⟩ = some (.slice va acc.length vc)) := cells14g' RK.out 5
      obtain ⟨D, hD⟩ : ∃ D, (zs.drop (k + 4)).take q = D := ⟨_, rfl⟩
      obtain ⟨N2, hN2⟩ : ∃ N, num ((zs.drop k).take 2) = N := ⟨_, rfl⟩
      have hnum : 0 ≤ num ((zs.drop k).take 2) ∧ num ((zs.drop k).take 2) < 65536 := num_bd (zs.drop k) (Eth9.fits_drop9 HFT.out k) 2
      rw [hN2] at hnum
      have HNQ : Hid (num ((zs.drop k).take 2) = N2) := hN2
      have wN : IntKind.i64.wrap N2 = N2 := by simp [IntKind.wrap, IntKind.bits, IntKind.signed]; omega
      have HDf : Fit D := by rw [← hD]; exact fits_take9 (Eth9.fits_drop9 HFT.out (k + 4)) _
      have KNM : Hid (∀ W, BS W (some ⟨gb, 0, none⟩) n zs → BS W (some ⟨gb, k, none⟩) 2 ((zs.drop k).take 2)) := fun W h => by
        have := (h.drop (by omega) k (by have := LK.out; omega)).take 2 (by have := LK.out; omega)
        rw [Nat.zero_add] at this
        exact this
      have HOP : optO ((zs.take s).drop k) = ⟨N2, z2, D⟩ := by
        have := LK.out
        unfold optO
        rw [HO3.out, HSQ.out, ← hN2, ← hD]
        have e1 : ((zs.take s).drop k).take 2 = (zs.drop k).take 2 := by rw [List.drop_take, List.take_take, Nat.min_eq_left (by omega)]
        have e2 : (((zs.take s).drop k).drop 4).take (4 + q - 4) = (zs.drop (k + 4)).take q := by
          rw [List.drop_drop, List.drop_take, List.take_take, show 4 + q - 4 = q by omega, Nat.min_eq_left (by omega)]
        rw [e1, e2]
      have HSZQ : Hid (k + (4 + q) ≤ s ∧ k < s) := by show _ ∧ _; have := LK.out; omega
      have KPI : Hid (∀ W, BS W (some ⟨gb, 0, none⟩) n zs → (∃ va vc, W.heap[gt]? = some (.cells #[.int .u32 0, .int .u32 0, .int .i64 0, .int .i64 vni, .bool oam, .slice va (acc.length + 1) vc, .string ⟨#[]⟩] 25 (0, 0)) ∧ W.ownsRow (gt + 1) 38 3 (.slice va (acc.length + 1) vc) (acc.length + 1) (optCells acc ++ [.int .i64 N2, .int .i64 z2, .string (strOfNums D)])) → W.heap[w.heap.size]? = some (.cells #[.int .u32 0, .int .u32 0, .int .i64 0, .int .i64 0, .bool false, .slice none 0 0, .string ⟨#[]⟩] 25 (0, 0)) → Below w.heap.size w W → PI w zs w.heap.size gb gt s vni oam (k + (4 + q)) (acc ++ [⟨N2, z2, D⟩]) W) := fun W a1 a2 a3 a4 => by
        have hlk := LK.out
        have hle : (acc ++ [(⟨N2, z2, D⟩ : Opt)]).length = acc.length + 1 := by simp
        refine ⟨by rw [HLN.out]; exact a1, by rw [hle, optCells_app]; exact a2, a3, by omega, by omega, by rw [hle]; omega, ?_, ?_, a4⟩
        · rw [HPK.out.same, rdO_cons (by rw [HL2.out]; omega) (by rw [HL2.out, HSQ.out]; omega), HSQ.out, HOP, List.drop_drop]
          cases rdO ((zs.take s).drop (k + (4 + q))) <;> simp
        · intro o ho
          rcases List.mem_append.1 ho with h | h
          · exact HPK.out.fit o h
          · obtain rfl : o = ⟨N2, z2, D⟩ := by simpa using h
            exact HDf
      have hrunO := run_buildO N2 z2 (strOfNums D)
      have HDQ : Hid ((zs.drop (k + 4)).take q = D) := hD
      have v2 : IntKind.i64.wrap ((k : Int) + 2) = (k : Int) + 2 := by simp [IntKind.wrap, IntKind.bits, IntKind.signed]; omega
      have v4 : IntKind.i64.wrap ((k : Int) + 4) = (k : Int) + 4 := by simp [IntKind.wrap, IntKind.bits, IntKind.signed]; omega
      have v5 : IntKind.i64.wrap ((k : Int) + 4 + (q : Int)) = (k : Int) + 4 + (q : Int) := by simp [IntKind.wrap, IntKind.bits, IntKind.signed]; omega
      have t2 : ((k : Int) + 2).toNat = k + 2 := by omega
      have t4 : ((k : Int) + 4).toNat = k + 4 := by omega
      have t5 : ((k : Int) + 4 + (q : Int)).toNat = k + 4 + q := by omega
      have p2 : (0 : Int) ≤ (k : Int) + 2 := by omega
      have p4 : (0 : Int) ≤ (k : Int) + 4 := by omega
      have p5 : (0 : Int) ≤ (k : Int) + 4 + (q : Int) := by omega
      have h4k : (k : Int) + 4 ≤ (k : Int) + 4 + (q : Int) := by omega
      have hwgt : w.heap.size < gt := by have := HGT.out; have := HGE.out; omega
      clear HOP HDf hN2 hD HPK hsz hs4 hq hlen
      by_cases hc4 : cap = k + 4
      · have hq0 : q = 0 := by have := LK.out; omega
        subst hq0
        have hD0 : D = [] := by rw [← HDQ.out]; simp
        subst hD0
        subst hc4
        have DCV : ∀ W, BS W (some ⟨gb, 0, none⟩) n zs → (convert 26 9 (.slice (some ⟨gb, 0, none⟩) 0 0)).run Try.prog W = .ok (.string (strOfNums [])) W := fun W _ => run_conv_bs (P := Try.prog) (w := W) 0 (BS.empty (some ⟨gb, 0, none⟩)) 26 9 5 Try.underlying26 Try.underlying5 Try.underlying9
        go_wp2_with fail
        have hck2 : wr.cell? ⟨gb, k + 2, none⟩ = some (.int .u8 z2) := C2.out
        refine region_but (fun W => W.cell? ⟨gt, 5, none⟩ = some (.slice va acc.length vc) ∧ W.cell? ⟨gb, k + 2, none⟩ = some (.int .u8 z2) ∧ BS W (some ⟨gb, 0, none⟩) n zs) 28 (by kernel_rfl) ?_
        have hHeld : wr.drew.cell? ⟨gt, 5, none⟩ = some (.slice va acc.length vc) ∧ wr.drew.cell? ⟨gb, k + 2, none⟩ = some (.int .u8 z2) ∧ BS wr.drew (some ⟨gb, 0, none⟩) n zs := ⟨C5.out, hck2, SK.out.drew⟩
        refine HeldBut.take (i := 0) (v := ?_) rfl (by kernel_rfl) (by kernel_rfl) (by kernel_rfl) (by kernel_rfl) (fun _ _ _ h => h) (Or.inl ⟨by rfl, ?_⟩) (by assumption) ?_
        rotate_left
        · (intro w hSw; (try dsimp only at hSw); go_simp; try with_reducible rfl)
        try simp only [List.getElem_toArray, List.getElem_cons_zero, List.getElem_cons_succ, Act.put, List.setIfInBounds_toArray, List.set_cons_zero, List.set_cons_succ]
        refine HeldBut.take (i := 1) (v := ?_) rfl (by kernel_rfl) (by kernel_rfl) (by kernel_rfl) (by kernel_rfl) (fun _ _ _ h => h) (Or.inl ⟨by rfl, ?_⟩) (by assumption) ?_
        rotate_left
        · (intro w hSw; (try dsimp only at hSw); go_simp; try with_reducible rfl)
        try simp only [List.getElem_toArray, List.getElem_cons_zero, List.getElem_cons_succ, Act.put, List.setIfInBounds_toArray, List.set_cons_zero, List.set_cons_succ]
        refine HeldBut.take (i := 2) (v := ?_) rfl (by kernel_rfl) (by kernel_rfl) (by kernel_rfl) (by kernel_rfl) (fun _ _ _ h => h) (Or.inl ⟨by rfl, ?_⟩) (by assumption) ?_
        rotate_left
        · (intro w hSw; (try dsimp only at hSw); go_simp; try with_reducible rfl)
        try simp only [List.getElem_toArray, List.getElem_cons_zero, List.getElem_cons_succ, Act.put, List.setIfInBounds_toArray, List.set_cons_zero, List.set_cons_succ]
        refine HeldBut.take (i := 3) (v := ?_) rfl (by kernel_rfl) (by kernel_rfl) (by kernel_rfl) (by kernel_rfl) (fun _ _ _ h => h) (Or.inl ⟨by rfl, ?_⟩) (by assumption) ?_
        rotate_left
        · (intro w hSw; (try dsimp only at hSw); go_simp; try with_reducible rfl)
        try simp only [List.getElem_toArray, List.getElem_cons_zero, List.getElem_cons_succ, Act.put, List.setIfInBounds_toArray, List.set_cons_zero, List.set_cons_succ]
        refine HeldBut.take (i := 4) (v := ?_) rfl (by kernel_rfl) (by kernel_rfl) (by kernel_rfl) (by kernel_rfl) (fun _ _ _ h => h) (Or.inl ⟨by rfl, ?_⟩) (by assumption) ?_
        rotate_left
        · (intro w hSw; (try dsimp only at hSw); go_simp; try with_reducible rfl)
        try simp only [List.getElem_toArray, List.getElem_cons_zero, List.getElem_cons_succ, Act.put, List.setIfInBounds_toArray, List.set_cons_zero, List.set_cons_succ]
        refine HeldBut.take (i := 5) (v := ?_) rfl (by kernel_rfl) (by kernel_rfl) (by kernel_rfl) (by kernel_rfl) (fun _ _ _ h => h) (Or.inl ⟨by rfl, ?_⟩) (by assumption) ?_
        rotate_left
        · (intro w hSw; (try dsimp only at hSw); go_simp; try with_reducible rfl)
        try simp only [List.getElem_toArray, List.getElem_cons_zero, List.getElem_cons_succ, Act.put, List.setIfInBounds_toArray, List.set_cons_zero, List.set_cons_succ]
        refine HeldBut.take (i := 6) (v := ?_) rfl (by kernel_rfl) (by kernel_rfl) (by kernel_rfl) (by kernel_rfl) (fun _ _ _ h => h) (Or.inl ⟨by rfl, ?_⟩) (by assumption) ?_
        rotate_left
        · (intro w hSw; (try dsimp only at hSw); go_simp; try with_reducible rfl)
        try simp only [List.getElem_toArray, List.getElem_cons_zero, List.getElem_cons_succ, Act.put, List.setIfInBounds_toArray, List.set_cons_zero, List.set_cons_succ]
        refine HeldBut.take (i := 9) (v := ?_) rfl (by kernel_rfl) (by kernel_rfl) (by kernel_rfl) (by kernel_rfl) (fun _ _ _ h => h) (Or.inl ⟨by rfl, ?_⟩) (by assumption) ?_
        rotate_left
        · (intro w hSw; (try dsimp only at hSw); go_simp; try with_reducible rfl)
        try simp only [List.getElem_toArray, List.getElem_cons_zero, List.getElem_cons_succ, Act.put, List.setIfInBounds_toArray, List.set_cons_zero, List.set_cons_succ]
        refine HeldBut.take (i := 10) (v := ?_) rfl (by kernel_rfl) (by kernel_rfl) (by kernel_rfl) (by kernel_rfl) (fun _ _ _ h => h) (Or.inl ⟨by rfl, ?_⟩) (by assumption) ?_
        rotate_left
        · (intro w hSw; (try dsimp only at hSw); go_simp; try with_reducible rfl)
        try simp only [List.getElem_toArray, List.getElem_cons_zero, List.getElem_cons_succ, Act.put, List.setIfInBounds_toArray, List.set_cons_zero, List.set_cons_succ]
        refine HeldBut.take (i := 11) (v := ?_) rfl (by kernel_rfl) (by kernel_rfl) (by kernel_rfl) (by kernel_rfl) (fun _ _ _ h => h) (Or.inl ⟨by rfl, ?_⟩) (by assumption) ?_
        rotate_left
        · (intro w hSw; (try dsimp only at hSw); go_simp; try with_reducible rfl)
        try simp only [List.getElem_toArray, List.getElem_cons_zero, List.getElem_cons_succ, Act.put, List.setIfInBounds_toArray, List.set_cons_zero, List.set_cons_succ]
        refine HeldBut.take (i := 12) (v := ?_) rfl (by kernel_rfl) (by kernel_rfl) (by kernel_rfl) (by kernel_rfl) (fun _ _ _ h => h) (Or.inl ⟨by rfl, ?_⟩) (by assumption) ?_
        rotate_left
        · (intro w hSw; (try dsimp only at hSw); go_simp; try with_reducible rfl)
        try simp only [List.getElem_toArray, List.getElem_cons_zero, List.getElem_cons_succ, Act.put, List.setIfInBounds_toArray, List.set_cons_zero, List.set_cons_succ]
        refine HeldBut.take (i := 13) (v := ?_) rfl (by kernel_rfl) (by kernel_rfl) (by kernel_rfl) (by kernel_rfl) (fun _ _ _ h => h) (Or.inl ⟨by rfl, ?_⟩) (by assumption) ?_
        rotate_left
        · (intro w hSw; (try dsimp only at hSw); go_simp; try with_reducible rfl)
        try simp only [List.getElem_toArray, List.getElem_cons_zero, List.getElem_cons_succ, Act.put, List.setIfInBounds_toArray, List.set_cons_zero, List.set_cons_succ]
        refine HeldBut.take (i := 14) (v := ?_) rfl (by kernel_rfl) (by kernel_rfl) (by kernel_rfl) (by kernel_rfl) (fun _ _ _ h => h) (Or.inl ⟨by rfl, ?_⟩) (by assumption) ?_
        rotate_left
        · (intro w hSw; (try dsimp only at hSw); go_simp; try with_reducible rfl)
        try simp only [List.getElem_toArray, List.getElem_cons_zero, List.getElem_cons_succ, Act.put, List.setIfInBounds_toArray, List.set_cons_zero, List.set_cons_succ]
        refine HeldBut.take (i := 15) (v := ?_) rfl (by kernel_rfl) (by kernel_rfl) (by kernel_rfl) (by kernel_rfl) (fun _ _ _ h => h) (Or.inl ⟨by rfl, ?_⟩) (by assumption) ?_
        rotate_left
        · (intro w hSw; (try dsimp only at hSw); go_simp; try with_reducible rfl)
        try simp only [List.getElem_toArray, List.getElem_cons_zero, List.getElem_cons_succ, Act.put, List.setIfInBounds_toArray, List.set_cons_zero, List.set_cons_succ]
        refine HeldBut.take (i := 16) (v := ?_) rfl (by kernel_rfl) (by kernel_rfl) (by kernel_rfl) (by kernel_rfl) (fun _ _ _ h => h) (Or.inl ⟨by rfl, ?_⟩) (by assumption) ?_
        rotate_left
        · (intro w hSw; (try dsimp only at hSw); go_simp; try with_reducible rfl)
        try simp only [List.getElem_toArray, List.getElem_cons_zero, List.getElem_cons_succ, Act.put, List.setIfInBounds_toArray, List.set_cons_zero, List.set_cons_succ]
        refine HeldBut.take (i := 17) (v := ?_) rfl (by kernel_rfl) (by kernel_rfl) (by kernel_rfl) (by kernel_rfl) (fun _ _ _ h => h) (Or.inl ⟨by rfl, ?_⟩) (by assumption) ?_
        rotate_left
        · (intro w hSw; (try dsimp only at hSw); go_simp; try with_reducible rfl)
        try simp only [List.getElem_toArray, List.getElem_cons_zero, List.getElem_cons_succ, Act.put, List.setIfInBounds_toArray, List.set_cons_zero, List.set_cons_succ]
        refine HeldBut.take (i := 18) (v := ?_) rfl (by kernel_rfl) (by kernel_rfl) (by kernel_rfl) (by kernel_rfl) (fun _ _ _ h => h) (Or.inl ⟨by rfl, ?_⟩) (by assumption) ?_
        rotate_left
        · (intro w hSw; (try dsimp only at hSw); go_simp; try with_reducible rfl)
        try simp only [List.getElem_toArray, List.getElem_cons_zero, List.getElem_cons_succ, Act.put, List.setIfInBounds_toArray, List.set_cons_zero, List.set_cons_succ]
        refine HeldBut.take (i := 19) (v := ?_) rfl (by kernel_rfl) (by kernel_rfl) (by kernel_rfl) (by kernel_rfl) (fun _ _ _ h => h) (Or.inl ⟨by rfl, ?_⟩) (by assumption) ?_
        rotate_left
        · (intro w hSw; (try dsimp only at hSw); go_simp; try with_reducible rfl)
        try simp only [List.getElem_toArray, List.getElem_cons_zero, List.getElem_cons_succ, Act.put, List.setIfInBounds_toArray, List.set_cons_zero, List.set_cons_succ]
        refine HeldBut.take (i := 20) (v := ?_) rfl (by kernel_rfl) (by kernel_rfl) (by kernel_rfl) (by kernel_rfl) (fun _ _ _ h => h) (Or.inl ⟨by rfl, ?_⟩) (by assumption) ?_
        rotate_left
        · (intro w hSw; (try dsimp only at hSw); go_simp; try with_reducible rfl)
        try simp only [List.getElem_toArray, List.getElem_cons_zero, List.getElem_cons_succ, Act.put, List.setIfInBounds_toArray, List.set_cons_zero, List.set_cons_succ]
        refine HeldBut.take (i := 21) (v := ?_) rfl (by kernel_rfl) (by kernel_rfl) (by kernel_rfl) (by kernel_rfl) (fun _ _ _ h => h) (Or.inl ⟨by rfl, ?_⟩) (by assumption) ?_
        rotate_left
        · (intro w hSw; (try dsimp only at hSw); go_simp; try with_reducible rfl)
        try simp only [List.getElem_toArray, List.getElem_cons_zero, List.getElem_cons_succ, Act.put, List.setIfInBounds_toArray, List.set_cons_zero, List.set_cons_succ]
        refine HeldBut.take (i := 22) (v := ?_) rfl (by kernel_rfl) (by kernel_rfl) (by kernel_rfl) (by kernel_rfl) (fun _ _ _ h => h) (Or.inl ⟨by rfl, ?_⟩) (by assumption) ?_
        rotate_left
        · (intro w hSw; (try dsimp only at hSw); go_simp; try with_reducible rfl)
        try simp only [List.getElem_toArray, List.getElem_cons_zero, List.getElem_cons_succ, Act.put, List.setIfInBounds_toArray, List.set_cons_zero, List.set_cons_succ]
        refine HeldBut.take (i := 23) (v := .string (strOfNums [])) rfl (by kernel_rfl) (by kernel_rfl) (by kernel_rfl) (by kernel_rfl) (fun _ _ _ h => h) (Or.inl ⟨by rfl, fun W hW => by have c := DCV W hW.2.2; go_simp⟩) (by assumption) ?_
        try simp only [List.getElem_toArray, List.getElem_cons_zero, List.getElem_cons_succ, Act.put, List.setIfInBounds_toArray, List.set_cons_zero, List.set_cons_succ]
        refine HeldBut.ready (rs := [7]) (by kernel_rfl) (by simp) ?_
        refine AllBut.cons (o := _) rfl (fun K hK => ?_) AllBut.nil
        go_simp
        refine (rnum_any _ (KNM.out _ hHeld.2.2) (by omega)).mono ?_
        rintro e W2 ⟨rfl, hW2⟩
        rw [hW2]
        clear hW2
        go_wp2_with fail
        refine hK.out _ _ (.inr hHeld) ?_
        clear hK K
        rw [HNQ.out]
        refine HeldBut.take (i := 8) (v := ?_) rfl (by kernel_rfl) (by kernel_rfl) (by kernel_rfl) (by kernel_rfl) (fun _ _ _ h => h) (Or.inl ⟨by rfl, ?_⟩) (by assumption) ?_
        rotate_left
        · (intro w hSw; (try dsimp only at hSw); go_simp; try with_reducible rfl)
        try simp only [List.getElem_toArray, List.getElem_cons_zero, List.getElem_cons_succ, Act.put, List.setIfInBounds_toArray, List.set_cons_zero, List.set_cons_succ]
        refine HeldBut.take (i := 24) (v := ?_) rfl (by kernel_rfl) (by kernel_rfl) (by kernel_rfl) (by kernel_rfl) (fun _ _ _ h => h) (Or.inl ⟨by rfl, ?_⟩) (by assumption) ?_
        rotate_left
        · (intro w hSw; (try dsimp only at hSw); go_simp; try with_reducible rfl)
        try simp only [List.getElem_toArray, List.getElem_cons_zero, List.getElem_cons_succ, Act.put, List.setIfInBounds_toArray, List.set_cons_zero, List.set_cons_succ]
        refine HeldBut.ready (rs := [25]) (by kernel_rfl) (by simp) ?_
        refine AllBut.cons (o := _) rfl (fun K hK => ?_) AllBut.nil
        go_simp
        have c2b : (wr.alloc (.cells #[.int .i64 N2, .int .i64 z2, .string (strOfNums [])] 38)).drew.cell? ⟨gb, k + 2, none⟩ = some (.int .u8 z2) := ((below1 wr _).cell (p := ⟨gb, k + 2, none⟩) HGW.out.2).trans C2.out
        have c5b : (wr.alloc (.cells #[.int .i64 N2, .int .i64 z2, .string (strOfNums [])] 38)).drew.cell? ⟨gt, 5, none⟩ = some (.slice va acc.length vc) := ((below1 wr _).cell (p := ⟨gt, 5, none⟩) HGW.out.1).trans C5.out
        have bsb : BS (wr.alloc (.cells #[.int .i64 N2, .int .i64 z2, .string (strOfNums [])] 38)).drew (some ⟨gb, 0, none⟩) n zs := (SK.out.below (below1 wr _)).drew
        have rwb : (wr.alloc (.cells #[.int .i64 N2, .int .i64 z2, .string (strOfNums [])] 38)).drew.heap[gt]? = some (.cells #[.int .u32 0, .int .u32 0, .int .i64 0, .int .i64 vni, .bool oam, .slice va acc.length vc, .string ⟨#[]⟩] 25 (0, 0)) := ((below1 wr _).block _ HGW.out.1).trans RK.out
        have reb : (wr.alloc (.cells #[.int .i64 N2, .int .i64 z2, .string (strOfNums [])] 38)).drew.heap[w.heap.size]? = some (.cells #[.int .u32 0, .int .u32 0, .int .i64 0, .int .i64 0, .bool false, .slice none 0 0, .string ⟨#[]⟩] 25 (0, 0)) := ((below1 wr _).block _ (Ca.lt_of_heap EK.out)).trans EK.out
        have hOw : World.ownsRow (wr.alloc (.cells #[.int .i64 N2, .int .i64 z2, .string (strOfNums [])] 38)).drew (gt + 1) 38 3 (.slice va acc.length vc) acc.length (optCells acc) := World.ownsRow.drew (World.ownsRow.alloc OWK.out _)
        clear hHeld
        have hHeld : (wr.alloc (.cells #[.int .i64 N2, .int .i64 z2, .string (strOfNums [])] 38)).drew.cell? ⟨gt, 5, none⟩ = some (.slice va acc.length vc) ∧ (wr.alloc (.cells #[.int .i64 N2, .int .i64 z2, .string (strOfNums [])] 38)).drew.cell? ⟨gb, k + 2, none⟩ = some (.int .u8 z2) ∧ BS (wr.alloc (.cells #[.int .i64 N2, .int .i64 z2, .string (strOfNums [])] 38)).drew (some ⟨gb, 0, none⟩) n zs := ⟨c5b, c2b, bsb⟩
        refine hK.out _ _ (.inr hHeld) ?_
        clear hK K
        try simp only [List.getElem_toArray, List.getElem_cons_zero, List.getElem_cons_succ, Act.put, List.setIfInBounds_toArray, List.set_cons_zero, List.set_cons_succ]
        refine HeldBut.ready (rs := [26]) (by kernel_rfl) (by simp) ?_
        refine AllBut.cons (o := _) rfl (fun K hK => ?_) AllBut.nil
        refine step_append_lies _ (by rfl) (.tmp 60) (.tmp 84) 23 (by rfl) (gt + 1) 38 i0 _ 3 32 Try.underlying23 hi hzz0 hzz1 hzz2 rfl (by omega) _ acc.length _ (by rfl) hOw ⟨wr.heap.size, 0, none⟩ 1 1 [.int .i64 N2, .int .i64 z2, .string (strOfNums [])] (by rfl) rfl (World.news_of_block (w := (wr.alloc (.cells #[.int .i64 N2, .int .i64 z2, .string (strOfNums [])] 38)).drew) (heap_alloc_new wr _)) (by simp [Value.oneCell']) (by omega) (by unfold maxLen; omega) (by omega) (by have := HGW.out.1; simp; omega) _ rfl ?_
        intro g cap2 we h1' h2' h3' h4'
        have nob : ∀ j, j < gt + 1 → some j ≠ Value.ownBlock (.slice va acc.length vc) := fun j hj e => by have := (World.ownsRow.lt hOw _ e.symm).1; omega
        have hgt0 : gt < gt + 1 := by omega
        have hgb0 : gb < gt + 1 := by have := HGT.out; omega
        have hgr0 : w.heap.size < gt + 1 := by have := HGT.out; have := HGE.out; omega
        have r3 : we.heap[gt]? = some (.cells #[.int .u32 0, .int .u32 0, .int .i64 0, .int .i64 vni, .bool oam, .slice va acc.length vc, .string ⟨#[]⟩] 25 (0, 0)) := (h2'.block gt (by simp; have := HGW.out.1; omega) (nob _ hgt0)).trans rwb
        have e3 : we.heap[w.heap.size]? = some (.cells #[.int .u32 0, .int .u32 0, .int .i64 0, .int .i64 0, .bool false, .slice none 0 0, .string ⟨#[]⟩] 25 (0, 0)) := (h2'.block w.heap.size (by simp; have := Ca.lt_of_heap EK.out; omega) (nob _ hgr0)).trans reb
        have hck3 : we.cell? ⟨gb, k + 2, none⟩ = some (.int .u8 z2) := (h2'.cell_far ⟨gb, k + 2, none⟩ (by simp; have := HGW.out.2; omega) (nob _ hgb0)).trans c2b
        have bs3 : BS we (some ⟨gb, 0, none⟩) n zs := by
          refine ⟨bsb.len, bsb.fits, bsb.room, .inr ⟨gb, 0, rfl, fun j hj => ?_⟩⟩
          have hc0 : (wr.alloc (.cells #[.int .i64 N2, .int .i64 z2, .string (strOfNums [])] 38)).drew.cell? ⟨gb, 0 + j, none⟩ = some (.int .u8 (zs.getD j 0)) := by
            rcases bsb.cells with h0 | ⟨b', off', e, hc⟩
            · have := bsb.len; omega
            · cases e; exact hc j hj
          exact (h2'.cell_far ⟨gb, 0 + j, none⟩ (by simp; have := HGW.out.2; omega) (nob _ hgb0)).trans hc0
        have bel3 : Below w.heap.size w we := by
          have bA := BK.out.alloc BK.out.size (.cells #[.int .i64 N2, .int .i64 z2, .string (strOfNums [])] 38)
          exact bA.drew.grown h2' (by have := BK.out.size; simp; omega) (fun j hj => by have := (World.ownsRow.lt hOw j hj).1; omega)
        have q5 : we.cell? ⟨gt, 5, none⟩ = some (.slice va acc.length vc) := cells14g' r3 5
        have f5 := frozen_of_row we _ 5 _ _ r3
        clear hHeld
        have hHeld : we.cell? ⟨gt, 5, none⟩ = some (.slice va acc.length vc) ∧ we.cell? ⟨gb, k + 2, none⟩ = some (.int .u8 z2) ∧ BS we (some ⟨gb, 0, none⟩) n zs := ⟨q5, hck3, bs3⟩
        refine hK.out _ _ (.inr hHeld) ?_
        clear hK K
        try simp only [List.getElem_toArray, List.getElem_cons_zero, List.getElem_cons_succ, Act.put, List.setIfInBounds_toArray, List.set_cons_zero, List.set_cons_succ]
        refine HeldBut.take (i := 27) (v := ?_) rfl (by kernel_rfl) (by kernel_rfl) (by kernel_rfl) (by kernel_rfl) (fun _ _ _ h => h) (Or.inl ⟨by rfl, ?_⟩) (by assumption) ?_
        rotate_left
        · (intro w hSw; (try dsimp only at hSw); go_simp; try with_reducible rfl)
        try simp only [List.getElem_toArray, List.getElem_cons_zero, List.getElem_cons_succ, Act.put, List.setIfInBounds_toArray, List.set_cons_zero, List.set_cons_succ]
        refine HeldBut.ready (rs := [28]) (by kernel_rfl) (by simp) ?_
        refine AllBut.cons (o := _) rfl (fun K hK => ?_) AllBut.nil
        go_simp
        have hge : gt + 1 ≤ g := by
          rcases h3' with h | h
          · exact (World.ownsRow.lt hOw _ h).1
          · have := HGW.out.1
            simp at h
            omega
        have hgne : ¬ g = gt := by omega
        have r4 : (we.setCell ⟨gt, 5, none⟩ (.slice (some ⟨g, 0, none⟩) (acc.length + 1) cap2)).heap[gt]? = some (.cells #[.int .u32 0, .int .u32 0, .int .i64 0, .int .i64 vni, .bool oam, .slice (some ⟨g, 0, none⟩) (acc.length + 1) cap2, .string ⟨#[]⟩] 25 (0, 0)) := Ca.row_setCell r3 5 _
        have e4 : (we.setCell ⟨gt, 5, none⟩ (.slice (some ⟨g, 0, none⟩) (acc.length + 1) cap2)).heap[w.heap.size]? = some (.cells #[.int .u32 0, .int .u32 0, .int .i64 0, .int .i64 0, .bool false, .slice none 0 0, .string ⟨#[]⟩] 25 (0, 0)) := (Below.heap_setCell _ _ _ _ (show w.heap.size ≠ gt by omega)).trans e3
        have o4 : (we.setCell ⟨gt, 5, none⟩ (.slice (some ⟨g, 0, none⟩) (acc.length + 1) cap2)).ownsRow (gt + 1) 38 3 (.slice (some ⟨g, 0, none⟩) (acc.length + 1) cap2) (acc.length + 1) (optCells acc ++ [.int .i64 N2, .int .i64 z2, .string (strOfNums [])]) := own_far9 h1' (fun e => hgne (by simpa [Value.ownBlock] using e)) _
        have b4 : BS (we.setCell ⟨gt, 5, none⟩ (.slice (some ⟨g, 0, none⟩) (acc.length + 1) cap2)) (some ⟨gb, 0, none⟩) n zs := bs_far9 bs3 (show gb ≠ gt by have := HGT.out; omega) 5 _
        have hPI : PI w zs w.heap.size gb gt s vni oam (k + (4 + 0)) (acc ++ [⟨N2, z2, []⟩]) (we.setCell ⟨gt, 5, none⟩ (.slice (some ⟨g, 0, none⟩) (acc.length + 1) cap2)) :=
          KPI.out _ b4 ⟨_, cap2, r4, o4⟩ e4 (bel3.setCell (show w.heap.size ≤ gt by omega) _)
        have HPI : Hid _ := hPI
        refine hK.out _ _ (.inl rfl) ?_
        clear hK K hHeld
        refine HeldBut.done (by kernel_rfl) ?_ _
        try simp only [List.getElem_toArray, List.getElem_cons_zero, List.getElem_cons_succ, Act.put, List.setIfInBounds_toArray, List.set_cons_zero, List.set_cons_succ]
        clear hPI r4 e4 o4 b4 h1' h2' h3' h4' nob hgt0 hgb0 hgr0 r3 e3 hck3 bs3 bel3 q5 f5 hge hgne c2b c5b bsb rwb reb hOw hck2 RK EK C5 C2 SK OWK BK
        go_wp2
        go_roundw
        case rel => exact ⟨k + (4 + 0), _, by first | rfl | go_num | (congr 1; push_cast; omega), HPI.out⟩
        case measure => simp [intOf]; have := HSZQ.out; omega
      · have DCV : ∀ W, BS W (some ⟨gb, 0, none⟩) n zs → (convert 26 9 (.slice (some ⟨gb, k + 4, none⟩) q (cap - (k + 4)))).run Try.prog W = .ok (.string (strOfNums D)) W := fun W h => by
          have := run_conv_bs (P := Try.prog) (w := W) (cap - (k + 4)) ((h.drop (by omega) (k + 4) (by have := LK.out; omega)).take q (by have := LK.out; omega)) 26 9 5 Try.underlying26 Try.underlying5 Try.underlying9
          rw [HDQ.out, Nat.zero_add] at this
          exact this
        go_wp2_with fail
        have hck2 : wr.cell? ⟨gb, k + 2, none⟩ = some (.int .u8 z2) := C2.out
        refine region_but (fun W => W.cell? ⟨gt, 5, none⟩ = some (.slice va acc.length vc) ∧ W.cell? ⟨gb, k + 2, none⟩ = some (.int .u8 z2) ∧ BS W (some ⟨gb, 0, none⟩) n zs) 28 (by kernel_rfl) ?_
        have hHeld : wr.drew.cell? ⟨gt, 5, none⟩ = some (.slice va acc.length vc) ∧ wr.drew.cell? ⟨gb, k + 2, none⟩ = some (.int .u8 z2) ∧ BS wr.drew (some ⟨gb, 0, none⟩) n zs := ⟨C5.out, hck2, SK.out.drew⟩
        refine HeldBut.take (i := 0) (v := ?_) rfl (by kernel_rfl) (by kernel_rfl) (by kernel_rfl) (by kernel_rfl) (fun _ _ _ h => h) (Or.inl ⟨by rfl, ?_⟩) (by assumption) ?_
        rotate_left
        · (intro w hSw; (try dsimp only at hSw); go_simp; try with_reducible rfl)
        try simp only [List.getElem_toArray, List.getElem_cons_zero, List.getElem_cons_succ, Act.put, List.setIfInBounds_toArray, List.set_cons_zero, List.set_cons_succ]
        refine HeldBut.take (i := 1) (v := ?_) rfl (by kernel_rfl) (by kernel_rfl) (by kernel_rfl) (by kernel_rfl) (fun _ _ _ h => h) (Or.inl ⟨by rfl, ?_⟩) (by assumption) ?_
        rotate_left
        · (intro w hSw; (try dsimp only at hSw); go_simp; try with_reducible rfl)
        try simp only [List.getElem_toArray, List.getElem_cons_zero, List.getElem_cons_succ, Act.put, List.setIfInBounds_toArray, List.set_cons_zero, List.set_cons_succ]
        refine HeldBut.take (i := 2) (v := ?_) rfl (by kernel_rfl) (by kernel_rfl) (by kernel_rfl) (by kernel_rfl) (fun _ _ _ h => h) (Or.inl ⟨by rfl, ?_⟩) (by assumption) ?_
        rotate_left
        · (intro w hSw; (try dsimp only at hSw); go_simp; try with_reducible rfl)
        try simp only [List.getElem_toArray, List.getElem_cons_zero, List.getElem_cons_succ, Act.put, List.setIfInBounds_toArray, List.set_cons_zero, List.set_cons_succ]
        refine HeldBut.take (i := 3) (v := ?_) rfl (by kernel_rfl) (by kernel_rfl) (by kernel_rfl) (by kernel_rfl) (fun _ _ _ h => h) (Or.inl ⟨by rfl, ?_⟩) (by assumption) ?_
        rotate_left
        · (intro w hSw; (try dsimp only at hSw); go_simp; try with_reducible rfl)
        try simp only [List.getElem_toArray, List.getElem_cons_zero, List.getElem_cons_succ, Act.put, List.setIfInBounds_toArray, List.set_cons_zero, List.set_cons_succ]
        refine HeldBut.take (i := 4) (v := ?_) rfl (by kernel_rfl) (by kernel_rfl) (by kernel_rfl) (by kernel_rfl) (fun _ _ _ h => h) (Or.inl ⟨by rfl, ?_⟩) (by assumption) ?_
        rotate_left
        · (intro w hSw; (try dsimp only at hSw); go_simp; try with_reducible rfl)
        try simp only [List.getElem_toArray, List.getElem_cons_zero, List.getElem_cons_succ, Act.put, List.setIfInBounds_toArray, List.set_cons_zero, List.set_cons_succ]
        refine HeldBut.take (i := 5) (v := ?_) rfl (by kernel_rfl) (by kernel_rfl) (by kernel_rfl) (by kernel_rfl) (fun _ _ _ h => h) (Or.inl ⟨by rfl, ?_⟩) (by assumption) ?_
        rotate_left
        · (intro w hSw; (try dsimp only at hSw); go_simp; try with_reducible rfl)
        try simp only [List.getElem_toArray, List.getElem_cons_zero, List.getElem_cons_succ, Act.put, List.setIfInBounds_toArray, List.set_cons_zero, List.set_cons_succ]
        refine HeldBut.take (i := 6) (v := ?_) rfl (by kernel_rfl) (by kernel_rfl) (by kernel_rfl) (by kernel_rfl) (fun _ _ _ h => h) (Or.inl ⟨by rfl, ?_⟩) (by assumption) ?_
        rotate_left
        · (intro w hSw; (try dsimp only at hSw); go_simp; try with_reducible rfl)
        try simp only [List.getElem_toArray, List.getElem_cons_zero, List.getElem_cons_succ, Act.put, List.setIfInBounds_toArray, List.set_cons_zero, List.set_cons_succ]
        refine HeldBut.take (i := 9) (v := ?_) rfl (by kernel_rfl) (by kernel_rfl) (by kernel_rfl) (by kernel_rfl) (fun _ _ _ h => h) (Or.inl ⟨by rfl, ?_⟩) (by assumption) ?_
        rotate_left
        · (intro w hSw; (try dsimp only at hSw); go_simp; try with_reducible rfl)
        try simp only [List.getElem_toArray, List.getElem_cons_zero, List.getElem_cons_succ, Act.put, List.setIfInBounds_toArray, List.set_cons_zero, List.set_cons_succ]
        refine HeldBut.take (i := 10) (v := ?_) rfl (by kernel_rfl) (by kernel_rfl) (by kernel_rfl) (by kernel_rfl) (fun _ _ _ h => h) (Or.inl ⟨by rfl, ?_⟩) (by assumption) ?_
        rotate_left
        · (intro w hSw; (try dsimp only at hSw); go_simp; try with_reducible rfl)
        try simp only [List.getElem_toArray, List.getElem_cons_zero, List.getElem_cons_succ, Act.put, List.setIfInBounds_toArray, List.set_cons_zero, List.set_cons_succ]
        refine HeldBut.take (i := 11) (v := ?_) rfl (by kernel_rfl) (by kernel_rfl) (by kernel_rfl) (by kernel_rfl) (fun _ _ _ h => h) (Or.inl ⟨by rfl, ?_⟩) (by assumption) ?_
        rotate_left
        · (intro w hSw; (try dsimp only at hSw); go_simp; try with_reducible rfl)
        try simp only [List.getElem_toArray, List.getElem_cons_zero, List.getElem_cons_succ, Act.put, List.setIfInBounds_toArray, List.set_cons_zero, List.set_cons_succ]
        refine HeldBut.take (i := 12) (v := ?_) rfl (by kernel_rfl) (by kernel_rfl) (by kernel_rfl) (by kernel_rfl) (fun _ _ _ h => h) (Or.inl ⟨by rfl, ?_⟩) (by assumption) ?_
        rotate_left
        · (intro w hSw; (try dsimp only at hSw); go_simp; try with_reducible rfl)
        try simp only [List.getElem_toArray, List.getElem_cons_zero, List.getElem_cons_succ, Act.put, List.setIfInBounds_toArray, List.set_cons_zero, List.set_cons_succ]
        refine HeldBut.take (i := 13) (v := ?_) rfl (by kernel_rfl) (by kernel_rfl) (by kernel_rfl) (by kernel_rfl) (fun _ _ _ h => h) (Or.inl ⟨by rfl, ?_⟩) (by assumption) ?_
        rotate_left
        · (intro w hSw; (try dsimp only at hSw); go_simp; try with_reducible rfl)
        try simp only [List.getElem_toArray, List.getElem_cons_zero, List.getElem_cons_succ, Act.put, List.setIfInBounds_toArray, List.set_cons_zero, List.set_cons_succ]
        refine HeldBut.take (i := 14) (v := ?_) rfl (by kernel_rfl) (by kernel_rfl) (by kernel_rfl) (by kernel_rfl) (fun _ _ _ h => h) (Or.inl ⟨by rfl, ?_⟩) (by assumption) ?_
        rotate_left
        · (intro w hSw; (try dsimp only at hSw); go_simp; try with_reducible rfl)
        try simp only [List.getElem_toArray, List.getElem_cons_zero, List.getElem_cons_succ, Act.put, List.setIfInBounds_toArray, List.set_cons_zero, List.set_cons_succ]
        refine HeldBut.take (i := 15) (v := ?_) rfl (by kernel_rfl) (by kernel_rfl) (by kernel_rfl) (by kernel_rfl) (fun _ _ _ h => h) (Or.inl ⟨by rfl, ?_⟩) (by assumption) ?_
        rotate_left
        · (intro w hSw; (try dsimp only at hSw); go_simp; try with_reducible rfl)
        try simp only [List.getElem_toArray, List.getElem_cons_zero, List.getElem_cons_succ, Act.put, List.setIfInBounds_toArray, List.set_cons_zero, List.set_cons_succ]
        refine HeldBut.take (i := 16) (v := ?_) rfl (by kernel_rfl) (by kernel_rfl) (by kernel_rfl) (by kernel_rfl) (fun _ _ _ h => h) (Or.inl ⟨by rfl, ?_⟩) (by assumption) ?_
        rotate_left
        · (intro w hSw; (try dsimp only at hSw); go_simp; try with_reducible rfl)
        try simp only [List.getElem_toArray, List.getElem_cons_zero, List.getElem_cons_succ, Act.put, List.setIfInBounds_toArray, List.set_cons_zero, List.set_cons_succ]
        refine HeldBut.take (i := 17) (v := ?_) rfl (by kernel_rfl) (by kernel_rfl) (by kernel_rfl) (by kernel_rfl) (fun _ _ _ h => h) (Or.inl ⟨by rfl, ?_⟩) (by assumption) ?_
        rotate_left
        · (intro w hSw; (try dsimp only at hSw); go_simp; try with_reducible rfl)
        try simp only [List.getElem_toArray, List.getElem_cons_zero, List.getElem_cons_succ, Act.put, List.setIfInBounds_toArray, List.set_cons_zero, List.set_cons_succ]
        refine HeldBut.take (i := 18) (v := ?_) rfl (by kernel_rfl) (by kernel_rfl) (by kernel_rfl) (by kernel_rfl) (fun _ _ _ h => h) (Or.inl ⟨by rfl, ?_⟩) (by assumption) ?_
        rotate_left
        · (intro w hSw; (try dsimp only at hSw); go_simp; try with_reducible rfl)
        try simp only [List.getElem_toArray, List.getElem_cons_zero, List.getElem_cons_succ, Act.put, List.setIfInBounds_toArray, List.set_cons_zero, List.set_cons_succ]
        refine HeldBut.take (i := 19) (v := ?_) rfl (by kernel_rfl) (by kernel_rfl) (by kernel_rfl) (by kernel_rfl) (fun _ _ _ h => h) (Or.inl ⟨by rfl, ?_⟩) (by assumption) ?_
        rotate_left
        · (intro w hSw; (try dsimp only at hSw); go_simp; try with_reducible rfl)
        try simp only [List.getElem_toArray, List.getElem_cons_zero, List.getElem_cons_succ, Act.put, List.setIfInBounds_toArray, List.set_cons_zero, List.set_cons_succ]
        refine HeldBut.take (i := 20) (v := ?_) rfl (by kernel_rfl) (by kernel_rfl) (by kernel_rfl) (by kernel_rfl) (fun _ _ _ h => h) (Or.inl ⟨by rfl, ?_⟩) (by assumption) ?_
        rotate_left
        · (intro w hSw; (try dsimp only at hSw); go_simp; try with_reducible rfl)
        try simp only [List.getElem_toArray, List.getElem_cons_zero, List.getElem_cons_succ, Act.put, List.setIfInBounds_toArray, List.set_cons_zero, List.set_cons_succ]
        refine HeldBut.take (i := 21) (v := ?_) rfl (by kernel_rfl) (by kernel_rfl) (by kernel_rfl) (by kernel_rfl) (fun _ _ _ h => h) (Or.inl ⟨by rfl, ?_⟩) (by assumption) ?_
        rotate_left
        · (intro w hSw; (try dsimp only at hSw); go_simp; try with_reducible rfl)
        try simp only [List.getElem_toArray, List.getElem_cons_zero, List.getElem_cons_succ, Act.put, List.setIfInBounds_toArray, List.set_cons_zero, List.set_cons_succ]
        refine HeldBut.take (i := 22) (v := ?_) rfl (by kernel_rfl) (by kernel_rfl) (by kernel_rfl) (by kernel_rfl) (fun _ _ _ h => h) (Or.inl ⟨by rfl, ?_⟩) (by assumption) ?_
        rotate_left
        · (intro w hSw; (try dsimp only at hSw); go_simp; try with_reducible rfl)
        try simp only [List.getElem_toArray, List.getElem_cons_zero, List.getElem_cons_succ, Act.put, List.setIfInBounds_toArray, List.set_cons_zero, List.set_cons_succ]
        refine HeldBut.take (i := 23) (v := .string (strOfNums D)) rfl (by kernel_rfl) (by kernel_rfl) (by kernel_rfl) (by kernel_rfl) (fun _ _ _ h => h) (Or.inl ⟨by rfl, fun W hW => by have c := DCV W hW.2.2; go_simp⟩) (by assumption) ?_
        try simp only [List.getElem_toArray, List.getElem_cons_zero, List.getElem_cons_succ, Act.put, List.setIfInBounds_toArray, List.set_cons_zero, List.set_cons_succ]
        refine HeldBut.ready (rs := [7]) (by kernel_rfl) (by simp) ?_
        refine AllBut.cons (o := _) rfl (fun K hK => ?_) AllBut.nil
        go_simp
        refine (rnum_any _ (KNM.out _ hHeld.2.2) (by omega)).mono ?_
        rintro e W2 ⟨rfl, hW2⟩
        rw [hW2]
        clear hW2
        go_wp2_with fail
        refine hK.out _ _ (.inr hHeld) ?_
        clear hK K
        rw [HNQ.out]
        refine HeldBut.take (i := 8) (v := ?_) rfl (by kernel_rfl) (by kernel_rfl) (by kernel_rfl) (by kernel_rfl) (fun _ _ _ h => h) (Or.inl ⟨by rfl, ?_⟩) (by assumption) ?_
        rotate_left
        · (intro w hSw; (try dsimp only at hSw); go_simp; try with_reducible rfl)
        try simp only [List.getElem_toArray, List.getElem_cons_zero, List.getElem_cons_succ, Act.put, List.setIfInBounds_toArray, List.set_cons_zero, List.set_cons_succ]
        refine HeldBut.take (i := 24) (v := ?_) rfl (by kernel_rfl) (by kernel_rfl) (by kernel_rfl) (by kernel_rfl) (fun _ _ _ h => h) (Or.inl ⟨by rfl, ?_⟩) (by assumption) ?_
        rotate_left
        · (intro w hSw; (try dsimp only at hSw); go_simp; try with_reducible rfl)
        try simp only [List.getElem_toArray, List.getElem_cons_zero, List.getElem_cons_succ, Act.put, List.setIfInBounds_toArray, List.set_cons_zero, List.set_cons_succ]
        refine HeldBut.ready (rs := [25]) (by kernel_rfl) (by simp) ?_
        refine AllBut.cons (o := _) rfl (fun K hK => ?_) AllBut.nil
        go_simp
        have c2b : (wr.alloc (.cells #[.int .i64 N2, .int .i64 z2, .string (strOfNums D)] 38)).drew.cell? ⟨gb, k + 2, none⟩ = some (.int .u8 z2) := ((below1 wr _).cell (p := ⟨gb, k + 2, none⟩) HGW.out.2).trans C2.out
        have c5b : (wr.alloc (.cells #[.int .i64 N2, .int .i64 z2, .string (strOfNums D)] 38)).drew.cell? ⟨gt, 5, none⟩ = some (.slice va acc.length vc) := ((below1 wr _).cell (p := ⟨gt, 5, none⟩) HGW.out.1).trans C5.out
        have bsb : BS (wr.alloc (.cells #[.int .i64 N2, .int .i64 z2, .string (strOfNums D)] 38)).drew (some ⟨gb, 0, none⟩) n zs := (SK.out.below (below1 wr _)).drew
        have rwb : (wr.alloc (.cells #[.int .i64 N2, .int .i64 z2, .string (strOfNums D)] 38)).drew.heap[gt]? = some (.cells #[.int .u32 0, .int .u32 0, .int .i64 0, .int .i64 vni, .bool oam, .slice va acc.length vc, .string ⟨#[]⟩] 25 (0, 0)) := ((below1 wr _).block _ HGW.out.1).trans RK.out
        have reb : (wr.alloc (.cells #[.int .i64 N2, .int .i64 z2, .string (strOfNums D)] 38)).drew.heap[w.heap.size]? = some (.cells #[.int .u32 0, .int .u32 0, .int .i64 0, .int .i64 0, .bool false, .slice none 0 0, .string ⟨#[]⟩] 25 (0, 0)) := ((below1 wr _).block _ (Ca.lt_of_heap EK.out)).trans EK.out
        have hOw : World.ownsRow (wr.alloc (.cells #[.int .i64 N2, .int .i64 z2, .string (strOfNums D)] 38)).drew (gt + 1) 38 3 (.slice va acc.length vc) acc.length (optCells acc) := World.ownsRow.drew (World.ownsRow.alloc OWK.out _)
        clear hHeld
        have hHeld : (wr.alloc (.cells #[.int .i64 N2, .int .i64 z2, .string (strOfNums D)] 38)).drew.cell? ⟨gt, 5, none⟩ = some (.slice va acc.length vc) ∧ (wr.alloc (.cells #[.int .i64 N2, .int .i64 z2, .string (strOfNums D)] 38)).drew.cell? ⟨gb, k + 2, none⟩ = some (.int .u8 z2) ∧ BS (wr.alloc (.cells #[.int .i64 N2, .int .i64 z2, .string (strOfNums D)] 38)).drew (some ⟨gb, 0, none⟩) n zs := ⟨c5b, c2b, bsb⟩
        refine hK.out _ _ (.inr hHeld) ?_
        clear hK K
        try simp only [List.getElem_toArray, List.getElem_cons_zero, List.getElem_cons_succ, Act.put, List.setIfInBounds_toArray, List.set_cons_zero, List.set_cons_succ]
        refine HeldBut.ready (rs := [26]) (by kernel_rfl) (by simp) ?_
        refine AllBut.cons (o := _) rfl (fun K hK => ?_) AllBut.nil
        refine step_append_lies _ (by rfl) (.tmp 60) (.tmp 84) 23 (by rfl) (gt + 1) 38 i0 _ 3 32 Try.underlying23 hi hzz0 hzz1 hzz2 rfl (by omega) _ acc.length _ (by rfl) hOw ⟨wr.heap.size, 0, none⟩ 1 1 [.int .i64 N2, .int .i64 z2, .string (strOfNums D)] (by rfl) rfl (World.news_of_block (w := (wr.alloc (.cells #[.int .i64 N2, .int .i64 z2, .string (strOfNums D)] 38)).drew) (heap_alloc_new wr _)) (by simp [Value.oneCell']) (by omega) (by unfold maxLen; omega) (by omega) (by have := HGW.out.1; simp; omega) _ rfl ?_
        intro g cap2 we h1' h2' h3' h4'
        have nob : ∀ j, j < gt + 1 → some j ≠ Value.ownBlock (.slice va acc.length vc) := fun j hj e => by have := (World.ownsRow.lt hOw _ e.symm).1; omega
        have hgt0 : gt < gt + 1 := by omega
        have hgb0 : gb < gt + 1 := by have := HGT.out; omega
        have hgr0 : w.heap.size < gt + 1 := by have := HGT.out; have := HGE.out; omega
        have r3 : we.heap[gt]? = some (.cells #[.int .u32 0, .int .u32 0, .int .i64 0, .int .i64 vni, .bool oam, .slice va acc.length vc, .string ⟨#[]⟩] 25 (0, 0)) := (h2'.block gt (by simp; have := HGW.out.1; omega) (nob _ hgt0)).trans rwb
        have e3 : we.heap[w.heap.size]? = some (.cells #[.int .u32 0, .int .u32 0, .int .i64 0, .int .i64 0, .bool false, .slice none 0 0, .string ⟨#[]⟩] 25 (0, 0)) := (h2'.block w.heap.size (by simp; have := Ca.lt_of_heap EK.out; omega) (nob _ hgr0)).trans reb
        have hck3 : we.cell? ⟨gb, k + 2, none⟩ = some (.int .u8 z2) := (h2'.cell_far ⟨gb, k + 2, none⟩ (by simp; have := HGW.out.2; omega) (nob _ hgb0)).trans c2b
        have bs3 : BS we (some ⟨gb, 0, none⟩) n zs := by
          refine ⟨bsb.len, bsb.fits, bsb.room, .inr ⟨gb, 0, rfl, fun j hj => ?_⟩⟩
          have hc0 : (wr.alloc (.cells #[.int .i64 N2, .int .i64 z2, .string (strOfNums D)] 38)).drew.cell? ⟨gb, 0 + j, none⟩ = some (.int .u8 (zs.getD j 0)) := by
            rcases bsb.cells with h0 | ⟨b', off', e, hc⟩
            · have := bsb.len; omega
            · cases e; exact hc j hj
          exact (h2'.cell_far ⟨gb, 0 + j, none⟩ (by simp; have := HGW.out.2; omega) (nob _ hgb0)).trans hc0
        have bel3 : Below w.heap.size w we := by
          have bA := BK.out.alloc BK.out.size (.cells #[.int .i64 N2, .int .i64 z2, .string (strOfNums D)] 38)
          exact bA.drew.grown h2' (by have := BK.out.size; simp; omega) (fun j hj => by have := (World.ownsRow.lt hOw j hj).1; omega)
        have q5 : we.cell? ⟨gt, 5, none⟩ = some (.slice va acc.length vc) := cells14g' r3 5
        have f5 := frozen_of_row we _ 5 _ _ r3
        clear hHeld
        have hHeld : we.cell? ⟨gt, 5, none⟩ = some (.slice va acc.length vc) ∧ we.cell? ⟨gb, k + 2, none⟩ = some (.int .u8 z2) ∧ BS we (some ⟨gb, 0, none⟩) n zs := ⟨q5, hck3, bs3⟩
        refine hK.out _ _ (.inr hHeld) ?_
        clear hK K
        try simp only [List.getElem_toArray, List.getElem_cons_zero, List.getElem_cons_succ, Act.put, List.setIfInBounds_toArray, List.set_cons_zero, List.set_cons_succ]
        refine HeldBut.take (i := 27) (v := ?_) rfl (by kernel_rfl) (by kernel_rfl) (by kernel_rfl) (by kernel_rfl) (fun _ _ _ h => h) (Or.inl ⟨by rfl, ?_⟩) (by assumption) ?_
        rotate_left
        · (intro w hSw; (try dsimp only at hSw); go_simp; try with_reducible rfl)
        try simp only [List.getElem_toArray, List.getElem_cons_zero, List.getElem_cons_succ, Act.put, List.setIfInBounds_toArray, List.set_cons_zero, List.set_cons_succ]
        refine HeldBut.ready (rs := [28]) (by kernel_rfl) (by simp) ?_
        refine AllBut.cons (o := _) rfl (fun K hK => ?_) AllBut.nil
        go_simp
        have hge : gt + 1 ≤ g := by
          rcases h3' with h | h
          · exact (World.ownsRow.lt hOw _ h).1
          · have := HGW.out.1
            simp at h
            omega
        have hgne : ¬ g = gt := by omega
        have r4 : (we.setCell ⟨gt, 5, none⟩ (.slice (some ⟨g, 0, none⟩) (acc.length + 1) cap2)).heap[gt]? = some (.cells #[.int .u32 0, .int .u32 0, .int .i64 0, .int .i64 vni, .bool oam, .slice (some ⟨g, 0, none⟩) (acc.length + 1) cap2, .string ⟨#[]⟩] 25 (0, 0)) := Ca.row_setCell r3 5 _
        have e4 : (we.setCell ⟨gt, 5, none⟩ (.slice (some ⟨g, 0, none⟩) (acc.length + 1) cap2)).heap[w.heap.size]? = some (.cells #[.int .u32 0, .int .u32 0, .int .i64 0, .int .i64 0, .bool false, .slice none 0 0, .string ⟨#[]⟩] 25 (0, 0)) := (Below.heap_setCell _ _ _ _ (show w.heap.size ≠ gt by omega)).trans e3
        have o4 : (we.setCell ⟨gt, 5, none⟩ (.slice (some ⟨g, 0, none⟩) (acc.length + 1) cap2)).ownsRow (gt + 1) 38 3 (.slice (some ⟨g, 0, none⟩) (acc.length + 1) cap2) (acc.length + 1) (optCells acc ++ [.int .i64 N2, .int .i64 z2, .string (strOfNums D)]) := own_far9 h1' (fun e => hgne (by simpa [Value.ownBlock] using e)) _
        have b4 : BS (we.setCell ⟨gt, 5, none⟩ (.slice (some ⟨g, 0, none⟩) (acc.length + 1) cap2)) (some ⟨gb, 0, none⟩) n zs := bs_far9 bs3 (show gb ≠ gt by have := HGT.out; omega) 5 _
        have hPI : PI w zs w.heap.size gb gt s vni oam (k + (4 + q)) (acc ++ [⟨N2, z2, D⟩]) (we.setCell ⟨gt, 5, none⟩ (.slice (some ⟨g, 0, none⟩) (acc.length + 1) cap2)) :=
          KPI.out _ b4 ⟨_, cap2, r4, o4⟩ e4 (bel3.setCell (show w.heap.size ≤ gt by omega) _)
        have HPI : Hid _ := hPI
        refine hK.out _ _ (.inl rfl) ?_
        clear hK K hHeld
        refine HeldBut.done (by kernel_rfl) ?_ _
        try simp only [List.getElem_toArray, List.getElem_cons_zero, List.getElem_cons_succ, Act.put, List.setIfInBounds_toArray, List.set_cons_zero, List.set_cons_succ]
        clear hPI r4 e4 o4 b4 h1' h2' h3' h4' nob hgt0 hgb0 hgr0 r3 e3 hck3 bs3 bel3 q5 f5 hge hgne c2b c5b bsb rwb reb hOw hck2 RK EK C5 C2 SK OWK BK
        go_wp2
        go_roundw
        case rel => exact ⟨k + (4 + q), _, by first | rfl | go_num | (congr 1; push_cast; omega), HPI.out⟩
        case measure => simp [intOf]; have := HSZQ.out; omega
end Go.Proofs.Ytgonckbdkgiddaa
