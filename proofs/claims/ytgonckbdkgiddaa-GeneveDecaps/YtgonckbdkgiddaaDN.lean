/- Parts of the proof, in one text. -/
import Derived.Test.YtgonckbdkgiddaaDL
import Derived.Test.YtgonckbdkgiddaaDG
namespace Go.Proofs.Ytgonckbdkgiddaa
open Go.RowKit
set_option maxRecDepth 20000
set_option linter.unusedSimpArgs false
set_option maxHeartbeats 8000000 in
theorem decap_opts (w : World) (b off n cap : Nat) (zs : List Int) (h : BS w (some ⟨b, off, none⟩) n zs) (hcap : n ≤ cap) (m T : Nat) (_hm : 0 < m) (hmT : m ≤ T) (hTn : T ≤ n) (hcm : ¬ cap = m)
    (tos id fr ttl pr src dst : Int) (io : List Int)
    (HI : Hid (∀ W, BS W (some ⟨b, off, none⟩) n zs → Calls Try.prog 24 #[.slice (some ⟨b, off, none⟩) n cap] W fun e w' => e = .returned (.tuple #[.agg #[.int .i64 tos, .int .i64 id, .int .i64 fr, .int .i64 ttl, .int .i64 pr, .int .u32 src, .int .u32 dst, .string (strOfNums io)], .int .i64 m, .int .i64 T, .int .i64 0]) ∧ Below W.heap.size W w'))
    (k ty co re sp dp : Int) (ns : Bool) (sq ak fl wi ur : Int) (lo ds : List Int) (hdf : Fit ds) (hdl : ds.length ≤ 100000)
    (HL : Hid (∀ W, BS W (some ⟨b, off, none⟩) n zs → Calls Try.prog 25 #[.int .u32 src, .int .u32 dst, .int .i64 pr, .slice (some ⟨b, off + m, none⟩) (T - m) (cap - m)] W fun e w' => e = .returned (.tuple #[.agg #[.int .i64 k, .int .i64 ty, .int .i64 co, .int .u32 re, .int .i64 sp, .int .i64 dp, .bool ns, .int .u32 sq, .int .u32 ak, .int .i64 fl, .int .i64 wi, .int .i64 ur, .string (strOfNums lo), .string (strOfNums ds)], .int .i64 0]) ∧ Below W.heap.size W w'))
    (vni : Int) (oam : Bool) (fs : ByteArray) (os : List Opt)
    (HR : Hid (∀ W g c, BS W (some ⟨g, 0, none⟩) ds.length ds → ds.length ≤ c → c ≤ 9223372036854775807 → Calls Try.prog 26 #[.slice (some ⟨g, 0, none⟩) ds.length c] W fun e w' => ∃ oa oc, e = .returned (.tuple #[.agg #[.int .u32 0, .int .u32 0, .int .i64 0, .int .i64 vni, .bool oam, .slice oa os.length oc, .string fs], .bool true]) ∧ OS w' oa os.length os ∧ (∀ x, oa = some x → W.heap.size ≤ x.block) ∧ Below W.heap.size W w'))
    (HE : Hid (∀ W oa oc, OS W oa os.length os → Calls Try.prog 7 #[.agg #[.int .u32 src, .int .u32 dst, .int .i64 sp, .int .i64 vni, .bool oam, .slice oa os.length oc, .string fs]] W fun e w' => ∃ a' cap', e = .returned (.tuple #[.slice a' n cap', .int .i64 0]) ∧ BS w' a' n zs ∧ Below W.heap.size W w')) :
    Calls Try.prog 10 #[.slice (some ⟨b, off, none⟩) n cap] w fun e w' => ∃ oa oc, e = .returned (.tuple #[.agg #[.int .u32 src, .int .u32 dst, .int .i64 sp, .int .i64 vni, .bool oam, .slice oa os.length oc, .string fs], .int .i64 0]) ∧ OS w' oa os.length os ∧ Below w.heap.size w w' := by
  have H : Hid (BS w (some ⟨b, off, none⟩) n zs) := h
  have i1 : (m : Int) ≤ (T : Int) := by omega
  have i2 : (T : Int) ≤ (n : Int) := by omega
  have i3 : (n : Int) ≤ (cap : Int) := by omega
  have i4 : (T : Int) ≤ (cap : Int) := by omega
  have i5 : (m : Int) ≤ (cap : Int) := by omega
  have B0 : Hid (Below w.heap.size w (((w.alloc (.cells #[.int .u32 0, .int .u32 0, .int .i64 0, .int .i64 0, .bool false, .slice none 0 0, .string ⟨#[]⟩] 25)).alloc (.cells #[.int .u32 0, .int .u32 0, .int .i64 0, .int .i64 0, .bool false, .slice none 0 0, .string ⟨#[]⟩] 25)).alloc (.cells #[.int .i64 0, .int .i64 0, .int .i64 0, .int .u32 0, .int .i64 0, .int .i64 0, .bool false, .int .u32 0, .int .u32 0, .int .i64 0, .int .i64 0, .int .i64 0, .string ⟨#[]⟩, .string ⟨#[]⟩] 48))) := Ca.below3 w _ _ _
  have P0 : Hid ((((w.alloc (.cells #[.int .u32 0, .int .u32 0, .int .i64 0, .int .i64 0, .bool false, .slice none 0 0, .string ⟨#[]⟩] 25)).alloc (.cells #[.int .u32 0, .int .u32 0, .int .i64 0, .int .i64 0, .bool false, .slice none 0 0, .string ⟨#[]⟩] 25)).alloc (.cells #[.int .i64 0, .int .i64 0, .int .i64 0, .int .u32 0, .int .i64 0, .int .i64 0, .bool false, .int .u32 0, .int .u32 0, .int .i64 0, .int .i64 0, .int .i64 0, .string ⟨#[]⟩, .string ⟨#[]⟩] 48)).heap[w.heap.size]? = some (.cells #[.int .u32 0, .int .u32 0, .int .i64 0, .int .i64 0, .bool false, .slice none 0 0, .string ⟨#[]⟩] 25 (0, 0))) := Ca.three_first w _ _ _
  have Q0 : Hid ((((w.alloc (.cells #[.int .u32 0, .int .u32 0, .int .i64 0, .int .i64 0, .bool false, .slice none 0 0, .string ⟨#[]⟩] 25)).alloc (.cells #[.int .u32 0, .int .u32 0, .int .i64 0, .int .i64 0, .bool false, .slice none 0 0, .string ⟨#[]⟩] 25)).alloc (.cells #[.int .i64 0, .int .i64 0, .int .i64 0, .int .u32 0, .int .i64 0, .int .i64 0, .bool false, .int .u32 0, .int .u32 0, .int .i64 0, .int .i64 0, .int .i64 0, .string ⟨#[]⟩, .string ⟨#[]⟩] 48)).heap[w.heap.size + 1]? = some (.cells #[.int .u32 0, .int .u32 0, .int .i64 0, .int .i64 0, .bool false, .slice none 0 0, .string ⟨#[]⟩] 25 (0, 0))) := three_mid w _ _ _
  have R0 : Hid ((((w.alloc (.cells #[.int .u32 0, .int .u32 0, .int .i64 0, .int .i64 0, .bool false, .slice none 0 0, .string ⟨#[]⟩] 25)).alloc (.cells #[.int .u32 0, .int .u32 0, .int .i64 0, .int .i64 0, .bool false, .slice none 0 0, .string ⟨#[]⟩] 25)).alloc (.cells #[.int .i64 0, .int .i64 0, .int .i64 0, .int .u32 0, .int .i64 0, .int .i64 0, .bool false, .int .u32 0, .int .u32 0, .int .i64 0, .int .i64 0, .int .i64 0, .string ⟨#[]⟩, .string ⟨#[]⟩] 48)).heap[w.heap.size + 2]? = some (.cells #[.int .i64 0, .int .i64 0, .int .i64 0, .int .u32 0, .int .i64 0, .int .i64 0, .bool false, .int .u32 0, .int .u32 0, .int .i64 0, .int .i64 0, .int .i64 0, .string ⟨#[]⟩, .string ⟨#[]⟩] 48 (0, 0))) := three_lastg w _ _ _
  clear h
  go_enter Try.func10, Try.ntmps10
  go_wp2_with fail
  refine scope_from ?_
  go_wp2_with fail
  refine (HI.out _ (H.out.below B0.out)).mono ?_
  rintro e W1 ⟨rfl, hb⟩
  have B1 : Hid (Below w.heap.size w W1) := B0.out.trans (hb.mono B0.out.size)
  have P1 : Hid (W1.heap[w.heap.size]? = some (.cells #[.int .u32 0, .int .u32 0, .int .i64 0, .int .i64 0, .bool false, .slice none 0 0, .string ⟨#[]⟩] 25 (0, 0))) := (hb.block _ (Ca.lt_of_heap P0.out)).trans P0.out
  have Q1 : Hid (W1.heap[w.heap.size + 1]? = some (.cells #[.int .u32 0, .int .u32 0, .int .i64 0, .int .i64 0, .bool false, .slice none 0 0, .string ⟨#[]⟩] 25 (0, 0))) := (hb.block _ (Ca.lt_of_heap Q0.out)).trans Q0.out
  have R1 : Hid (W1.heap[w.heap.size + 2]? = some (.cells #[.int .i64 0, .int .i64 0, .int .i64 0, .int .u32 0, .int .i64 0, .int .i64 0, .bool false, .int .u32 0, .int .u32 0, .int .i64 0, .int .i64 0, .int .i64 0, .string ⟨#[]⟩, .string ⟨#[]⟩] 48 (0, 0))) := (hb.block _ (Ca.lt_of_heap R0.out)).trans R0.out
  clear hb HI B0 P0 Q0 R0
  go_wp2_with fail
  have hbA := below1 W1 (.cells #[.int .i64 tos, .int .i64 id, .int .i64 fr, .int .i64 ttl, .int .i64 pr, .int .u32 src, .int .u32 dst, .string (strOfNums io)] 51)
  have B2 : Hid (Below w.heap.size w (W1.alloc (.cells #[.int .i64 tos, .int .i64 id, .int .i64 fr, .int .i64 ttl, .int .i64 pr, .int .u32 src, .int .u32 dst, .string (strOfNums io)] 51))) := B1.out.trans (hbA.mono B1.out.size)
  have P2 : Hid ((W1.alloc (.cells #[.int .i64 tos, .int .i64 id, .int .i64 fr, .int .i64 ttl, .int .i64 pr, .int .u32 src, .int .u32 dst, .string (strOfNums io)] 51)).heap[w.heap.size]? = some (.cells #[.int .u32 0, .int .u32 0, .int .i64 0, .int .i64 0, .bool false, .slice none 0 0, .string ⟨#[]⟩] 25 (0, 0))) := (hbA.block _ (Ca.lt_of_heap P1.out)).trans P1.out
  have Q2 : Hid ((W1.alloc (.cells #[.int .i64 tos, .int .i64 id, .int .i64 fr, .int .i64 ttl, .int .i64 pr, .int .u32 src, .int .u32 dst, .string (strOfNums io)] 51)).heap[w.heap.size + 1]? = some (.cells #[.int .u32 0, .int .u32 0, .int .i64 0, .int .i64 0, .bool false, .slice none 0 0, .string ⟨#[]⟩] 25 (0, 0))) := (hbA.block _ (Ca.lt_of_heap Q1.out)).trans Q1.out
  have R2 : Hid ((W1.alloc (.cells #[.int .i64 tos, .int .i64 id, .int .i64 fr, .int .i64 ttl, .int .i64 pr, .int .u32 src, .int .u32 dst, .string (strOfNums io)] 51)).heap[w.heap.size + 2]? = some (.cells #[.int .i64 0, .int .i64 0, .int .i64 0, .int .u32 0, .int .i64 0, .int .i64 0, .bool false, .int .u32 0, .int .u32 0, .int .i64 0, .int .i64 0, .int .i64 0, .string ⟨#[]⟩, .string ⟨#[]⟩] 48 (0, 0))) := (hbA.block _ (Ca.lt_of_heap R1.out)).trans R1.out
  have I2 : Hid ((W1.alloc (.cells #[.int .i64 tos, .int .i64 id, .int .i64 fr, .int .i64 ttl, .int .i64 pr, .int .u32 src, .int .u32 dst, .string (strOfNums io)] 51)).heap[W1.heap.size]? = some (.cells #[.int .i64 tos, .int .i64 id, .int .i64 fr, .int .i64 ttl, .int .i64 pr, .int .u32 src, .int .u32 dst, .string (strOfNums io)] 51 (0, 0))) := heap_alloc_new W1 _
  have N2 : Hid (w.heap.size + 2 < W1.heap.size) := Ca.lt_of_heap R1.out
  obtain ⟨W2, hW⟩ : ∃ V, W1.alloc (.cells #[.int .i64 tos, .int .i64 id, .int .i64 fr, .int .i64 ttl, .int .i64 pr, .int .u32 src, .int .u32 dst, .string (strOfNums io)] 51) = V := ⟨_, rfl⟩
  obtain ⟨g8, hg⟩ : ∃ V, W1.heap.size = V := ⟨_, rfl⟩
  rw [hW] at B2 P2 Q2 R2 I2 ⊢
  rw [hg] at I2 N2 ⊢
  clear hW hg hbA B1 P1 Q1 R1
  have KC : Hid (∀ W, Below W2.heap.size W2 W → W.cell? ⟨g8, 5, none⟩ = some (.int .u32 src) ∧ W.cell? ⟨g8, 6, none⟩ = some (.int .u32 dst) ∧ W.cell? ⟨g8, 4, none⟩ = some (.int .i64 pr)) := fun W hb => by
    have e := (hb.block _ (Ca.lt_of_heap I2.out)).trans I2.out
    exact ⟨cells14g e 5, cells14g e 6, cells14g e 4⟩
  refine wp_region_held_drew (S := (fun W => W.cell? ⟨g8, 5, none⟩ = some (.int .u32 src) ∧ W.cell? ⟨g8, 6, none⟩ = some (.int .u32 dst) ∧ W.cell? ⟨g8, 4, none⟩ = some (.int .i64 pr))) (by kernel_rfl) ?_ (fun hHeld => ?_)
  · exact KC.out _ (Below.refl _ _).drew
  refine wpAnyH_take (i := 0) (v := ?_) rfl (by kernel_rfl) (by kernel_rfl) (by kernel_rfl) (fun _ _ _ h => h) (Or.inl ⟨by rfl, ?_⟩) (by assumption) ?_
  rotate_left
  · (intro w hSw; (try dsimp only at hSw); go_simp; try with_reducible rfl)
  try simp only [List.getElem_toArray, List.getElem_cons_zero, List.getElem_cons_succ, Act.put, List.setIfInBounds_toArray, List.set_cons_zero, List.set_cons_succ]
  refine wpAnyH_take (i := 1) (v := ?_) rfl (by kernel_rfl) (by kernel_rfl) (by kernel_rfl) (fun _ _ _ h => h) (Or.inl ⟨by rfl, ?_⟩) (by assumption) ?_
  rotate_left
  · (intro w hSw; (try dsimp only at hSw); go_simp; try with_reducible rfl)
  try simp only [List.getElem_toArray, List.getElem_cons_zero, List.getElem_cons_succ, Act.put, List.setIfInBounds_toArray, List.set_cons_zero, List.set_cons_succ]
  refine wpAnyH_take (i := 2) (v := ?_) rfl (by kernel_rfl) (by kernel_rfl) (by kernel_rfl) (fun _ _ _ h => h) (Or.inl ⟨by rfl, ?_⟩) (by assumption) ?_
  rotate_left
  · (intro w hSw; (try dsimp only at hSw); go_simp; try with_reducible rfl)
  try simp only [List.getElem_toArray, List.getElem_cons_zero, List.getElem_cons_succ, Act.put, List.setIfInBounds_toArray, List.set_cons_zero, List.set_cons_succ]
  refine wpAnyH_take (i := 3) (v := ?_) rfl (by kernel_rfl) (by kernel_rfl) (by kernel_rfl) (fun _ _ _ h => h) (Or.inl ⟨by rfl, ?_⟩) (by assumption) ?_
  rotate_left
  · (intro w hSw; (try dsimp only at hSw); go_simp; try with_reducible rfl)
  try simp only [List.getElem_toArray, List.getElem_cons_zero, List.getElem_cons_succ, Act.put, List.setIfInBounds_toArray, List.set_cons_zero, List.set_cons_succ]
  refine wpAnyH_take (i := 4) (v := ?_) rfl (by kernel_rfl) (by kernel_rfl) (by kernel_rfl) (fun _ _ _ h => h) (Or.inl ⟨by rfl, ?_⟩) (by assumption) ?_
  rotate_left
  · (intro w hSw; (try dsimp only at hSw); go_simp; try with_reducible rfl)
  try simp only [List.getElem_toArray, List.getElem_cons_zero, List.getElem_cons_succ, Act.put, List.setIfInBounds_toArray, List.set_cons_zero, List.set_cons_succ]
  refine wpAnyH_take (i := 5) (v := ?_) rfl (by kernel_rfl) (by kernel_rfl) (by kernel_rfl) (fun _ _ _ h => h) (Or.inl ⟨by rfl, ?_⟩) (by assumption) ?_
  rotate_left
  · (intro w hSw; (try dsimp only at hSw); go_simp; try with_reducible rfl)
  try simp only [List.getElem_toArray, List.getElem_cons_zero, List.getElem_cons_succ, Act.put, List.setIfInBounds_toArray, List.set_cons_zero, List.set_cons_succ]
  refine wpAnyH_take (i := 6) (v := ?_) rfl (by kernel_rfl) (by kernel_rfl) (by kernel_rfl) (fun _ _ _ h => h) (Or.inl ⟨by rfl, ?_⟩) (by assumption) ?_
  rotate_left
  · (intro w hSw; (try dsimp only at hSw); go_simp; try with_reducible rfl)
  try simp only [List.getElem_toArray, List.getElem_cons_zero, List.getElem_cons_succ, Act.put, List.setIfInBounds_toArray, List.set_cons_zero, List.set_cons_succ]
  refine wpAnyH_take (i := 7) (v := ?_) rfl (by kernel_rfl) (by kernel_rfl) (by kernel_rfl) (fun _ _ _ h => h) (Or.inl ⟨by rfl, ?_⟩) (by assumption) ?_
  rotate_left
  · (intro w hSw; (try dsimp only at hSw); go_simp; try with_reducible rfl)
  try simp only [List.getElem_toArray, List.getElem_cons_zero, List.getElem_cons_succ, Act.put, List.setIfInBounds_toArray, List.set_cons_zero, List.set_cons_succ]
  refine wpAnyH_take (i := 8) (v := ?_) rfl (by kernel_rfl) (by kernel_rfl) (by kernel_rfl) (fun _ _ _ h => h) (Or.inl ⟨by rfl, ?_⟩) (by assumption) ?_
  rotate_left
  · (intro w hSw; (try dsimp only at hSw); go_simp; try with_reducible rfl)
  try simp only [List.getElem_toArray, List.getElem_cons_zero, List.getElem_cons_succ, Act.put, List.setIfInBounds_toArray, List.set_cons_zero, List.set_cons_succ]
  refine wpAnyH_take (i := 9) (v := ?_) rfl (by kernel_rfl) (by kernel_rfl) (by kernel_rfl) (fun _ _ _ h => h) (Or.inl ⟨by rfl, ?_⟩) (by assumption) ?_
  rotate_left
  · (intro w hSw; (try dsimp only at hSw); go_simp; try with_reducible rfl)
  try simp only [List.getElem_toArray, List.getElem_cons_zero, List.getElem_cons_succ, Act.put, List.setIfInBounds_toArray, List.set_cons_zero, List.set_cons_succ]
  refine wpAnyH_ready (rs := [10]) (by kernel_rfl) (by simp) ?_
  refine AllReadyH.cons (o := _) rfl (fun K hK => ?_) AllReadyH.nil
  go_simp
  refine (HL.out _ (H.out.below B2.out.drew)).mono ?_
  rintro e W3 ⟨rfl, hb⟩
  have hb' : Below W2.heap.size W2 W3 := (Below.refl _ _).drew.trans hb
  go_wp2_with fail
  refine hK.out _ _ (KC.out _ hb') (fun hHeld2 => ?_)
  clear hK K hHeld hb
  try simp only [List.getElem_toArray, List.getElem_cons_zero, List.getElem_cons_succ, Act.put, List.setIfInBounds_toArray, List.set_cons_zero, List.set_cons_succ]
  refine wpAnyH_take (i := 11) (v := ?_) rfl (by kernel_rfl) (by kernel_rfl) (by kernel_rfl) (fun _ _ _ h => h) (Or.inl ⟨by rfl, ?_⟩) (by assumption) ?_
  rotate_left
  · (intro w hSw; (try dsimp only at hSw); go_simp; try with_reducible rfl)
  try simp only [List.getElem_toArray, List.getElem_cons_zero, List.getElem_cons_succ, Act.put, List.setIfInBounds_toArray, List.set_cons_zero, List.set_cons_succ]
  refine wpAnyH_take (i := 12) (v := ?_) rfl (by kernel_rfl) (by kernel_rfl) (by kernel_rfl) (fun _ _ _ h => h) (Or.inl ⟨by rfl, ?_⟩) (by assumption) ?_
  rotate_left
  · (intro w hSw; (try dsimp only at hSw); go_simp; try with_reducible rfl)
  try simp only [List.getElem_toArray, List.getElem_cons_zero, List.getElem_cons_succ, Act.put, List.setIfInBounds_toArray, List.set_cons_zero, List.set_cons_succ]
  refine wpAnyH_take (i := 13) (v := ?_) rfl (by kernel_rfl) (by kernel_rfl) (by kernel_rfl) (fun _ _ _ h => h) (Or.inl ⟨by rfl, ?_⟩) (by assumption) ?_
  rotate_left
  · (intro w hSw; (try dsimp only at hSw); go_simp; try with_reducible rfl)
  try simp only [List.getElem_toArray, List.getElem_cons_zero, List.getElem_cons_succ, Act.put, List.setIfInBounds_toArray, List.set_cons_zero, List.set_cons_succ]
  refine wpAnyH_ready (rs := [14]) (by kernel_rfl) (by simp) ?_
  refine AllReadyH.cons (o := _) rfl (fun K hK => ?_) AllReadyH.nil
  have hr5 : W3.heap[w.heap.size + 2]? = some (.cells #[.int .i64 0, .int .i64 0, .int .i64 0, .int .u32 0, .int .i64 0, .int .i64 0, .bool false, .int .u32 0, .int .u32 0, .int .i64 0, .int .i64 0, .int .i64 0, .string ⟨#[]⟩, .string ⟨#[]⟩] 48 (0, 0)) := (hb'.block _ (Ca.lt_of_heap R2.out)).trans R2.out
  refine Ca.step_store_at rfl 48 _ _ rfl (w.heap.size + 2) 0 #[.int .i64 0, .int .i64 0, .int .i64 0, .int .u32 0, .int .i64 0, .int .i64 0, .bool false, .int .u32 0, .int .u32 0, .int .i64 0, .int .i64 0, .int .i64 0, .string ⟨#[]⟩, .string ⟨#[]⟩] #[.int .i64 k, .int .i64 ty, .int .i64 co, .int .u32 re, .int .i64 sp, .int .i64 dp, .bool ns, .int .u32 sq, .int .u32 ak, .int .i64 fl, .int .i64 wi, .int .i64 ur, .string (strOfNums lo), .string (strOfNums ds)] 48 rfl rfl hr5 (by kernel_rfl) (Nat.le_of_ble_eq_true (by kernel_rfl)) (by kernel_rfl) ?_
  intro W4 y1 y2 y3 y4
  have R4 : Hid (W4.heap[w.heap.size + 2]? = some (.cells #[.int .i64 k, .int .i64 ty, .int .i64 co, .int .u32 re, .int .i64 sp, .int .i64 dp, .bool ns, .int .u32 sq, .int .u32 ak, .int .i64 fl, .int .i64 wi, .int .i64 ur, .string (strOfNums lo), .string (strOfNums ds)] 48 (0, 0))) := by show _ = _; rw [← put_l4c k ty co re sp dp ns sq ak fl wi ur lo ds]; exact y1
  have P4 : Hid (W4.heap[w.heap.size]? = some (.cells #[.int .u32 0, .int .u32 0, .int .i64 0, .int .i64 0, .bool false, .slice none 0 0, .string ⟨#[]⟩] 25 (0, 0))) := (y2 _ (by omega)).trans ((hb'.block _ (Ca.lt_of_heap P2.out)).trans P2.out)
  have Q4 : Hid (W4.heap[w.heap.size + 1]? = some (.cells #[.int .u32 0, .int .u32 0, .int .i64 0, .int .i64 0, .bool false, .slice none 0 0, .string ⟨#[]⟩] 25 (0, 0))) := (y2 _ (by omega)).trans ((hb'.block _ (Ca.lt_of_heap Q2.out)).trans Q2.out)
  have I4 : Hid (W4.heap[g8]? = some (.cells #[.int .i64 tos, .int .i64 id, .int .i64 fr, .int .i64 ttl, .int .i64 pr, .int .u32 src, .int .u32 dst, .string (strOfNums io)] 51 (0, 0))) := (y2 _ (by have := N2.out; omega)).trans ((hb'.block _ (Ca.lt_of_heap I2.out)).trans I2.out)
  have B4 : Hid (Below w.heap.size w W4) := (B2.out.trans (hb'.mono B2.out.size)).trans (y4.mono (by omega))
  refine hK.out _ _ ⟨cells14g I4.out 5, cells14g I4.out 6, cells14g I4.out 4⟩ (fun hHeld3 => ?_)
  clear hK K hHeld2 hb' hr5 y1 y2 y3 y4 B2 P2 Q2 R2 I2 KC
  try simp only [List.getElem_toArray, List.getElem_cons_zero, List.getElem_cons_succ, Act.put, List.setIfInBounds_toArray, List.set_cons_zero, List.set_cons_succ]
  refine wpAnyH_take (i := 15) (v := ?_) rfl (by kernel_rfl) (by kernel_rfl) (by kernel_rfl) (fun _ _ _ h => h) (Or.inl ⟨by rfl, ?_⟩) (by assumption) ?_
  rotate_left
  · (intro w hSw; (try dsimp only at hSw); go_simp; try with_reducible rfl)
  try simp only [List.getElem_toArray, List.getElem_cons_zero, List.getElem_cons_succ, Act.put, List.setIfInBounds_toArray, List.set_cons_zero, List.set_cons_succ]
  clear hHeld3
  refine wpAnyH_done (by kernel_rfl) ?_ _
  have c13 := cells14g R4.out 13
  simp only [List.getElem?_toArray, List.getElem?_cons_succ, List.getElem?_cons_zero] at c13
  obtain ⟨cp, W5, hrun, hB5, hbel, hcp, hcpm⟩ := conv_text W4 ds hdf (by omega)
  have B5 : Hid (Below w.heap.size w W5) := B4.out.trans (hbel.mono B4.out.size)
  have R5 : Hid (W5.heap[w.heap.size + 2]? = some (.cells #[.int .i64 k, .int .i64 ty, .int .i64 co, .int .u32 re, .int .i64 sp, .int .i64 dp, .bool ns, .int .u32 sq, .int .u32 ak, .int .i64 fl, .int .i64 wi, .int .i64 ur, .string (strOfNums lo), .string (strOfNums ds)] 48 (0, 0))) := (hbel.block _ (Ca.lt_of_heap R4.out)).trans R4.out
  have P5 : Hid (W5.heap[w.heap.size]? = some (.cells #[.int .u32 0, .int .u32 0, .int .i64 0, .int .i64 0, .bool false, .slice none 0 0, .string ⟨#[]⟩] 25 (0, 0))) := (hbel.block _ (Ca.lt_of_heap P4.out)).trans P4.out
  have Q5 : Hid (W5.heap[w.heap.size + 1]? = some (.cells #[.int .u32 0, .int .u32 0, .int .i64 0, .int .i64 0, .bool false, .slice none 0 0, .string ⟨#[]⟩] 25 (0, 0))) := (hbel.block _ (Ca.lt_of_heap Q4.out)).trans Q4.out
  have I5 : Hid (W5.heap[g8]? = some (.cells #[.int .i64 tos, .int .i64 id, .int .i64 fr, .int .i64 ttl, .int .i64 pr, .int .u32 src, .int .u32 dst, .string (strOfNums io)] 51 (0, 0))) := (hbel.block _ (Ca.lt_of_heap I4.out)).trans I4.out
  have S5 : Hid _ := hB5
  have HCP : Hid _ := hcp
  have HCM : Hid _ := hcpm
  clear hB5 hbel hcp hcpm
  go_wp2_with fail
  refine (HR.out _ _ _ S5.out HCP.out HCM.out).mono ?_
  rintro e W6 ⟨oa, oc, rfl, hO6, hfar, hb⟩
  have O6 : Hid _ := hO6
  have HFR : Hid (∀ x, oa = some x → w.heap.size + 2 < x.block) := fun x e => by have h1 := hfar x e; have h2 := Ca.lt_of_heap R5.out; omega
  clear hO6 hfar
  have B6 : Hid (Below w.heap.size w W6) := B5.out.trans (hb.mono B5.out.size)
  have R6 : Hid (W6.heap[w.heap.size + 2]? = some (.cells #[.int .i64 k, .int .i64 ty, .int .i64 co, .int .u32 re, .int .i64 sp, .int .i64 dp, .bool ns, .int .u32 sq, .int .u32 ak, .int .i64 fl, .int .i64 wi, .int .i64 ur, .string (strOfNums lo), .string (strOfNums ds)] 48 (0, 0))) := (hb.block _ (Ca.lt_of_heap R5.out)).trans R5.out
  have P6 : Hid (W6.heap[w.heap.size]? = some (.cells #[.int .u32 0, .int .u32 0, .int .i64 0, .int .i64 0, .bool false, .slice none 0 0, .string ⟨#[]⟩] 25 (0, 0))) := (hb.block _ (Ca.lt_of_heap P5.out)).trans P5.out
  have Q6 : Hid (W6.heap[w.heap.size + 1]? = some (.cells #[.int .u32 0, .int .u32 0, .int .i64 0, .int .i64 0, .bool false, .slice none 0 0, .string ⟨#[]⟩] 25 (0, 0))) := (hb.block _ (Ca.lt_of_heap Q5.out)).trans Q5.out
  have I6 : Hid (W6.heap[g8]? = some (.cells #[.int .i64 tos, .int .i64 id, .int .i64 fr, .int .i64 ttl, .int .i64 pr, .int .u32 src, .int .u32 dst, .string (strOfNums io)] 51 (0, 0))) := (hb.block _ (Ca.lt_of_heap I5.out)).trans I5.out
  clear hb hrun c13 B4 R4 P4 Q4 I4 B5 R5 P5 Q5 I5 S5 HCP HR
  go_wp2_with (first
    | refine Ca.wpList_store_row rfl 25 _ _ rfl (w.heap.size + 1) #[.int .u32 0, .int .u32 0, .int .i64 0, .int .i64 0, .bool false, .slice none 0 0, .string ⟨#[]⟩] #[.int .u32 0, .int .u32 0, .int .i64 0, .int .i64 vni, .bool oam, .slice oa os.length oc, .string fs] 25 rfl rfl Q6.out (by kernel_rfl) rfl (by kernel_rfl) ?_
    | fail)
  intro W7 y1 y2 y3 y4
  have B7 : Hid (Below w.heap.size w W7) := B6.out.trans (y4.mono (by omega))
  have R7' : Hid (W7.heap[w.heap.size + 2]? = some (.cells #[.int .i64 k, .int .i64 ty, .int .i64 co, .int .u32 re, .int .i64 sp, .int .i64 dp, .bool ns, .int .u32 sq, .int .u32 ak, .int .i64 fl, .int .i64 wi, .int .i64 ur, .string (strOfNums lo), .string (strOfNums ds)] 48 (0, 0))) := (y2 _ (by omega)).trans R6.out
  have P7 : Hid (W7.heap[w.heap.size]? = some (.cells #[.int .u32 0, .int .u32 0, .int .i64 0, .int .i64 0, .bool false, .slice none 0 0, .string ⟨#[]⟩] 25 (0, 0))) := (y2 _ (by omega)).trans P6.out
  have Q7 : Hid (W7.heap[w.heap.size + 1]? = some (.cells #[.int .u32 0, .int .u32 0, .int .i64 0, .int .i64 vni, .bool oam, .slice oa os.length oc, .string fs] 25 (0, 0))) := y1
  have I7 : Hid (W7.heap[g8]? = some (.cells #[.int .i64 tos, .int .i64 id, .int .i64 fr, .int .i64 ttl, .int .i64 pr, .int .u32 src, .int .u32 dst, .string (strOfNums io)] 51 (0, 0))) := (y2 _ (by have := N2.out; omega)).trans I6.out
  have O7 : Hid _ := os_far2 O6.out y2 (fun x e => by have := HFR.out x e; omega)
  clear y1 y2 y3 y4 B6 R6 P6 Q6 I6 O6
  go_wp2_with fail
  have hA5 := cells14g I7.out 5
  have hA6 := cells14g I7.out 6
  have hA4 := cells14g R7'.out 4
  have hB0 := cells14g Q7.out 0
  have hB1 := cells14g Q7.out 1
  have hB2 := cells14g Q7.out 2
  simp only [List.getElem?_toArray, List.getElem?_cons_succ, List.getElem?_cons_zero] at hA5 hA6 hA4 hB0 hB1 hB2
  have hF0 := frozen_of_row W7 _ 0 _ _ Q7.out
  have hF1 := frozen_of_row W7 _ 1 _ _ Q7.out
  have hF2 := frozen_of_row W7 _ 2 _ _ Q7.out
  have hn1 : ¬ w.heap.size + 1 = g8 := by have := N2.out; omega
  have hn2 : ¬ g8 = w.heap.size + 1 := by have := N2.out; omega
  go_region
  clear hA5 hA6 hA4 hB0 hB1 hB2 hF0 hF1 hF2
  have Q8 : Hid ((((W7.setCell ⟨w.heap.size + 1, 0, none⟩ (.int .u32 src)).setCell ⟨w.heap.size + 1, 1, none⟩ (.int .u32 dst)).setCell ⟨w.heap.size + 1, 2, none⟩ (.int .i64 sp)).drew.heap[w.heap.size + 1]? = some (.cells #[.int .u32 src, .int .u32 dst, .int .i64 sp, .int .i64 vni, .bool oam, .slice oa os.length oc, .string fs] 25 (0, 0))) := Ca.row_setCell (Ca.row_setCell (Ca.row_setCell Q7.out 0 (.int .u32 src)) 1 (.int .u32 dst)) 2 (.int .i64 sp)
  have P8 : Hid ((((W7.setCell ⟨w.heap.size + 1, 0, none⟩ (.int .u32 src)).setCell ⟨w.heap.size + 1, 1, none⟩ (.int .u32 dst)).setCell ⟨w.heap.size + 1, 2, none⟩ (.int .i64 sp)).drew.heap[w.heap.size]? = some (.cells #[.int .u32 0, .int .u32 0, .int .i64 0, .int .i64 0, .bool false, .slice none 0 0, .string ⟨#[]⟩] 25 (0, 0))) := (Below.heap_setCell _ _ _ _ (show w.heap.size ≠ w.heap.size + 1 by omega)).trans ((Below.heap_setCell _ _ _ _ (show w.heap.size ≠ w.heap.size + 1 by omega)).trans ((Below.heap_setCell _ _ _ _ (show w.heap.size ≠ w.heap.size + 1 by omega)).trans P7.out))
  have B8 : Hid (Below w.heap.size w (((W7.setCell ⟨w.heap.size + 1, 0, none⟩ (.int .u32 src)).setCell ⟨w.heap.size + 1, 1, none⟩ (.int .u32 dst)).setCell ⟨w.heap.size + 1, 2, none⟩ (.int .i64 sp)).drew) := (((B7.out.setCell (show w.heap.size ≤ w.heap.size + 1 by omega) _).setCell (show w.heap.size ≤ w.heap.size + 1 by omega) _).setCell (show w.heap.size ≤ w.heap.size + 1 by omega) _).drew
  have O8 : Hid (OS (((W7.setCell ⟨w.heap.size + 1, 0, none⟩ (.int .u32 src)).setCell ⟨w.heap.size + 1, 1, none⟩ (.int .u32 dst)).setCell ⟨w.heap.size + 1, 2, none⟩ (.int .i64 sp)).drew oa os.length os) := os_far2 (os_far (os_far (os_far O7.out _ _ (fun x e => by have := HFR.out x e; show x.block ≠ w.heap.size + 1; omega)) _ _ (fun x e => by have := HFR.out x e; show x.block ≠ w.heap.size + 1; omega)) _ _ (fun x e => by have := HFR.out x e; show x.block ≠ w.heap.size + 1; omega)) (g := w.heap.size) (fun _ _ => rfl) (fun x e => by have := HFR.out x e; omega)
  obtain ⟨W8, hW⟩ : ∃ V, (((W7.setCell ⟨w.heap.size + 1, 0, none⟩ (.int .u32 src)).setCell ⟨w.heap.size + 1, 1, none⟩ (.int .u32 dst)).setCell ⟨w.heap.size + 1, 2, none⟩ (.int .i64 sp)).drew = V := ⟨_, rfl⟩
  rw [hW] at Q8 P8 B8 O8 ⊢
  clear hW B7 R7' P7 Q7 I7 O7
  obtain ⟨x0, x1, x2, x3, x4, x5, x6⟩ := seven Q8.out
  go_wp2_with fail
  refine (HE.out _ _ _ O8.out).mono ?_
  rintro e W9 ⟨a', cap', rfl, hB9, hb⟩
  have B9 : Hid (Below w.heap.size w W9) := B8.out.trans (hb.mono B8.out.size)
  have P9 : Hid (W9.heap[w.heap.size]? = some (.cells #[.int .u32 0, .int .u32 0, .int .i64 0, .int .i64 0, .bool false, .slice none 0 0, .string ⟨#[]⟩] 25 (0, 0))) := (hb.block _ (Ca.lt_of_heap P8.out)).trans P8.out
  have Q9 : Hid (W9.heap[w.heap.size + 1]? = some (.cells #[.int .u32 src, .int .u32 dst, .int .i64 sp, .int .i64 vni, .bool oam, .slice oa os.length oc, .string fs] 25 (0, 0))) := (hb.block _ (Ca.lt_of_heap Q8.out)).trans Q8.out
  have S9 : Hid _ := hB9
  have O9 : Hid _ := O8.out.below hb
  clear hb hB9 HE x0 x1 x2 x3 x4 x5 x6 B8 P8 Q8
  go_wp2_with fail
  refine (bequal_same _ _ S9.out (H.out.below B9.out)).mono ?_
  rintro e W10 ⟨rfl, rfl⟩
  obtain ⟨x0, x1, x2, x3, x4, x5, x6⟩ := seven Q9.out
  go_wp2_with (first
    | refine Ca.wpList_store_row rfl 25 _ _ rfl w.heap.size #[.int .u32 0, .int .u32 0, .int .i64 0, .int .i64 0, .bool false, .slice none 0 0, .string ⟨#[]⟩] #[.int .u32 src, .int .u32 dst, .int .i64 sp, .int .i64 vni, .bool oam, .slice oa os.length oc, .string fs] 25 rfl rfl P9.out (by kernel_rfl) rfl (by kernel_rfl) ?_
    | fail)
  intro W11 y1 y2 y3 y4
  have O11 : Hid _ := os_far2 O9.out y2 (fun x e => by have := HFR.out x e; omega)
  go_wp2
  simp only [Exit.jumpTo]
  exact bodyPost_ret (results_tb (p := 2) (u := 3) rfl _ _ w.heap.size _ rfl y1 rfl) rfl ⟨oa, oc, rfl, O11.out, B9.out.trans (y4.mono (Nat.le_refl _))⟩
end Go.Proofs.Ytgonckbdkgiddaa

namespace Go.Proofs.Ytgonckbdkgiddaa
open Go.RowKit
set_option maxRecDepth 20000
set_option linter.unusedSimpArgs false
theorem str_ne9 {xs zs : List Int} (hx : Fit xs) (hz : Fit zs) (h : xs ≠ zs) : ((strOfNums xs).toList == (strOfNums zs).toList) = false := by
  rw [Bool.eq_false_iff]
  intro he
  apply h
  rw [beq_iff_eq, ByteArray.toList_eq, ByteArray.toList_eq, strOfNums_data, strOfNums_data] at he
  have h1 : xs.length = zs.length := by simpa using congrArg List.length he
  refine List.ext_getElem h1 (fun i hi1 hi2 => ?_)
  have h2 := congrArg (fun l => l[i]?) he
  simp only [List.getElem?_map, List.getElem?_eq_getElem hi1, List.getElem?_eq_getElem hi2, Option.map_some, Option.some.injEq] at h2
  have a1 := hx i
  have a2 := hz i
  rw [List.getD_eq_getElem?_getD, List.getElem?_eq_getElem hi1, Option.getD_some] at a1
  rw [List.getD_eq_getElem?_getD, List.getElem?_eq_getElem hi2, Option.getD_some] at a2
  have h3 := congrArg UInt8.toNat h2
  simp only [UInt8.toNat_ofNat'] at h3
  omega
theorem bequal_other {W : World} {a a' : Option Addr} {n n' : Nat} {xs zs : List Int} (c c' : Nat) (h : BS W a n xs) (h' : BS W a' n' zs) (hne : xs ≠ zs) :
    Calls Try.prog 27 #[.slice a n c, .slice a' n' c'] W fun e w' => e = .returned (.bool false) ∧ w' = W := by
  have v1 := run_conv_bs (P := Try.prog) c h 26 9 5 Try.underlying26 Try.underlying5 Try.underlying9
  have v2 := run_conv_bs (P := Try.prog) c' h' 26 9 5 Try.underlying26 Try.underlying5 Try.underlying9
  have hq := str_ne9 h.fits h'.fits hne
  clear h h' hne
  generalize strOfNums xs = s at *
  generalize strOfNums zs = t at *
  go_enter Try.func27, Try.ntmps27
  go_wp2
  go_ret
  exact ⟨rfl, rfl⟩
set_option maxHeartbeats 4000000 in
theorem decap_ipbad (w : World) (a : Option Addr) (n cap : Nat) (zs : List Int) (h : BS w a n zs) (f : Int) (hf : (f != 0) = true) (sz tt : Int)
    (HI : Hid (∀ W, BS W a n zs → Calls Try.prog 24 #[.slice a n cap] W fun e w' => e = .returned (.tuple #[Ip.ip0, .int .i64 sz, .int .i64 tt, .int .i64 f]) ∧ Below W.heap.size W w')) :
    Calls Try.prog 10 #[.slice a n cap] w fun e w' => e = .returned (.tuple #[.agg #[.int .u32 0, .int .u32 0, .int .i64 0, .int .i64 0, .bool false, .slice none 0 0, .string ⟨#[]⟩], .int .i64 f]) ∧ Below w.heap.size w w' := by
  have H : Hid (BS w a n zs) := h
  have B0 : Hid (Below w.heap.size w (((w.alloc (.cells #[.int .u32 0, .int .u32 0, .int .i64 0, .int .i64 0, .bool false, .slice none 0 0, .string ⟨#[]⟩] 25)).alloc (.cells #[.int .u32 0, .int .u32 0, .int .i64 0, .int .i64 0, .bool false, .slice none 0 0, .string ⟨#[]⟩] 25)).alloc (.cells #[.int .i64 0, .int .i64 0, .int .i64 0, .int .u32 0, .int .i64 0, .int .i64 0, .bool false, .int .u32 0, .int .u32 0, .int .i64 0, .int .i64 0, .int .i64 0, .string ⟨#[]⟩, .string ⟨#[]⟩] 48))) := Ca.below3 w _ _ _
  have P0 : Hid ((((w.alloc (.cells #[.int .u32 0, .int .u32 0, .int .i64 0, .int .i64 0, .bool false, .slice none 0 0, .string ⟨#[]⟩] 25)).alloc (.cells #[.int .u32 0, .int .u32 0, .int .i64 0, .int .i64 0, .bool false, .slice none 0 0, .string ⟨#[]⟩] 25)).alloc (.cells #[.int .i64 0, .int .i64 0, .int .i64 0, .int .u32 0, .int .i64 0, .int .i64 0, .bool false, .int .u32 0, .int .u32 0, .int .i64 0, .int .i64 0, .int .i64 0, .string ⟨#[]⟩, .string ⟨#[]⟩] 48)).heap[w.heap.size]? = some (.cells #[.int .u32 0, .int .u32 0, .int .i64 0, .int .i64 0, .bool false, .slice none 0 0, .string ⟨#[]⟩] 25 (0, 0))) := Ca.three_first w _ _ _
  unfold Ip.ip0 at HI
  clear h
  go_enter Try.func10, Try.ntmps10
  go_wp2_with fail
  refine scope_from ?_
  go_wp2_with fail
  refine (HI.out _ (H.out.below B0.out)).mono ?_
  rintro e W1 ⟨rfl, hb⟩
  have B1 : Hid (Below w.heap.size w W1) := B0.out.trans (hb.mono B0.out.size)
  have P1 : Hid (W1.heap[w.heap.size]? = some (.cells #[.int .u32 0, .int .u32 0, .int .i64 0, .int .i64 0, .bool false, .slice none 0 0, .string ⟨#[]⟩] 25 (0, 0))) := (hb.block _ (Ca.lt_of_heap P0.out)).trans P0.out
  clear hb HI B0 P0
  have B2 : Hid (Below w.heap.size w (W1.alloc (.cells #[.int .i64 0, .int .i64 0, .int .i64 0, .int .i64 0, .int .i64 0, .int .u32 0, .int .u32 0, .string ⟨#[]⟩] 51))) := B1.out.alloc B1.out.size _
  have P2 : Hid ((W1.alloc (.cells #[.int .i64 0, .int .i64 0, .int .i64 0, .int .i64 0, .int .i64 0, .int .u32 0, .int .u32 0, .string ⟨#[]⟩] 51)).heap[w.heap.size]? = some (.cells #[.int .u32 0, .int .u32 0, .int .i64 0, .int .i64 0, .bool false, .slice none 0 0, .string ⟨#[]⟩] 25 (0, 0))) := ((below1 W1 _).block _ (Ca.lt_of_heap P1.out)).trans P1.out
  go_wp2_with fail
  go_step3
  show FromLabel _ _ _ _ _ _
  refine from_label rfl ?_
  go_wp2_with (first
    | refine Ca.wpList_store_row rfl 25 _ _ rfl w.heap.size #[.int .u32 0, .int .u32 0, .int .i64 0, .int .i64 0, .bool false, .slice none 0 0, .string ⟨#[]⟩] #[.int .u32 0, .int .u32 0, .int .i64 0, .int .i64 0, .bool false, .slice none 0 0, .string ⟨#[]⟩] 25 rfl rfl P2.out (by kernel_rfl) rfl (by kernel_rfl) ?_
    | fail)
  intro W11 y1 y2 y3 y4
  go_wp2
  simp only [Exit.jumpTo]
  exact bodyPost_ret (results_tb (p := 2) (u := 3) rfl _ _ w.heap.size _ rfl y1 rfl) rfl ⟨rfl, B2.out.trans (y4.mono (Nat.le_refl _))⟩
set_option maxHeartbeats 8000000 in
theorem decap_other (w : World) (b off n cap : Nat) (zs : List Int) (h : BS w (some ⟨b, off, none⟩) n zs) (hcap : n ≤ cap) (m T : Nat) (_hm : 0 < m) (hmT : m ≤ T) (hTn : T ≤ n) (hcm : ¬ cap = m)
    (tos id fr ttl pr src dst : Int) (io : List Int)
    (HI : Hid (∀ W, BS W (some ⟨b, off, none⟩) n zs → Calls Try.prog 24 #[.slice (some ⟨b, off, none⟩) n cap] W fun e w' => e = .returned (.tuple #[.agg #[.int .i64 tos, .int .i64 id, .int .i64 fr, .int .i64 ttl, .int .i64 pr, .int .u32 src, .int .u32 dst, .string (strOfNums io)], .int .i64 m, .int .i64 T, .int .i64 0]) ∧ Below W.heap.size W w'))
    (k ty co re sp dp : Int) (ns : Bool) (sq ak fl wi ur : Int) (lo ds : List Int) (hdf : Fit ds) (hdl : ds.length ≤ 100000)
    (HL : Hid (∀ W, BS W (some ⟨b, off, none⟩) n zs → Calls Try.prog 25 #[.int .u32 src, .int .u32 dst, .int .i64 pr, .slice (some ⟨b, off + m, none⟩) (T - m) (cap - m)] W fun e w' => e = .returned (.tuple #[.agg #[.int .i64 k, .int .i64 ty, .int .i64 co, .int .u32 re, .int .i64 sp, .int .i64 dp, .bool ns, .int .u32 sq, .int .u32 ak, .int .i64 fl, .int .i64 wi, .int .i64 ur, .string (strOfNums lo), .string (strOfNums ds)], .int .i64 0]) ∧ Below W.heap.size W w'))
    (vni : Int) (oam : Bool) (fs : ByteArray) (os : List Opt)
    (HR : Hid (∀ W g c, BS W (some ⟨g, 0, none⟩) ds.length ds → ds.length ≤ c → c ≤ 9223372036854775807 → Calls Try.prog 26 #[.slice (some ⟨g, 0, none⟩) ds.length c] W fun e w' => ∃ oa oc, e = .returned (.tuple #[.agg #[.int .u32 0, .int .u32 0, .int .i64 0, .int .i64 vni, .bool oam, .slice oa os.length oc, .string fs], .bool true]) ∧ OS w' oa os.length os ∧ (∀ x, oa = some x → W.heap.size ≤ x.block) ∧ Below W.heap.size W w'))
    (eB : List Int) (hne : eB ≠ zs) (HE : Hid (∀ W oa oc, OS W oa os.length os → Calls Try.prog 7 #[.agg #[.int .u32 src, .int .u32 dst, .int .i64 sp, .int .i64 vni, .bool oam, .slice oa os.length oc, .string fs]] W fun e w' => ∃ a' cap' f, e = .returned (.tuple #[.slice a' eB.length cap', .int .i64 f]) ∧ BS w' a' eB.length eB ∧ Below W.heap.size W w')) :
    Calls Try.prog 10 #[.slice (some ⟨b, off, none⟩) n cap] w fun e w' => e = .returned (.tuple #[.agg #[.int .u32 0, .int .u32 0, .int .i64 0, .int .i64 0, .bool false, .slice none 0 0, .string ⟨#[]⟩], .int .i64 70]) ∧ Below w.heap.size w w' := by
  have HNE : Hid _ := hne
  have H : Hid (BS w (some ⟨b, off, none⟩) n zs) := h
  have i1 : (m : Int) ≤ (T : Int) := by omega
  have i2 : (T : Int) ≤ (n : Int) := by omega
  have i3 : (n : Int) ≤ (cap : Int) := by omega
  have i4 : (T : Int) ≤ (cap : Int) := by omega
  have i5 : (m : Int) ≤ (cap : Int) := by omega
  have B0 : Hid (Below w.heap.size w (((w.alloc (.cells #[.int .u32 0, .int .u32 0, .int .i64 0, .int .i64 0, .bool false, .slice none 0 0, .string ⟨#[]⟩] 25)).alloc (.cells #[.int .u32 0, .int .u32 0, .int .i64 0, .int .i64 0, .bool false, .slice none 0 0, .string ⟨#[]⟩] 25)).alloc (.cells #[.int .i64 0, .int .i64 0, .int .i64 0, .int .u32 0, .int .i64 0, .int .i64 0, .bool false, .int .u32 0, .int .u32 0, .int .i64 0, .int .i64 0, .int .i64 0, .string ⟨#[]⟩, .string ⟨#[]⟩] 48))) := Ca.below3 w _ _ _
  have P0 : Hid ((((w.alloc (.cells #[.int .u32 0, .int .u32 0, .int .i64 0, .int .i64 0, .bool false, .slice none 0 0, .string ⟨#[]⟩] 25)).alloc (.cells #[.int .u32 0, .int .u32 0, .int .i64 0, .int .i64 0, .bool false, .slice none 0 0, .string ⟨#[]⟩] 25)).alloc (.cells #[.int .i64 0, .int .i64 0, .int .i64 0, .int .u32 0, .int .i64 0, .int .i64 0, .bool false, .int .u32 0, .int .u32 0, .int .i64 0, .int .i64 0, .int .i64 0, .string ⟨#[]⟩, .string ⟨#[]⟩] 48)).heap[w.heap.size]? = some (.cells #[.int .u32 0, .int .u32 0, .int .i64 0, .int .i64 0, .bool false, .slice none 0 0, .string ⟨#[]⟩] 25 (0, 0))) := Ca.three_first w _ _ _
  have Q0 : Hid ((((w.alloc (.cells #[.int .u32 0, .int .u32 0, .int .i64 0, .int .i64 0, .bool false, .slice none 0 0, .string ⟨#[]⟩] 25)).alloc (.cells #[.int .u32 0, .int .u32 0, .int .i64 0, .int .i64 0, .bool false, .slice none 0 0, .string ⟨#[]⟩] 25)).alloc (.cells #[.int .i64 0, .int .i64 0, .int .i64 0, .int .u32 0, .int .i64 0, .int .i64 0, .bool false, .int .u32 0, .int .u32 0, .int .i64 0, .int .i64 0, .int .i64 0, .string ⟨#[]⟩, .string ⟨#[]⟩] 48)).heap[w.heap.size + 1]? = some (.cells #[.int .u32 0, .int .u32 0, .int .i64 0, .int .i64 0, .bool false, .slice none 0 0, .string ⟨#[]⟩] 25 (0, 0))) := three_mid w _ _ _
  have R0 : Hid ((((w.alloc (.cells #[.int .u32 0, .int .u32 0, .int .i64 0, .int .i64 0, .bool false, .slice none 0 0, .string ⟨#[]⟩] 25)).alloc (.cells #[.int .u32 0, .int .u32 0, .int .i64 0, .int .i64 0, .bool false, .slice none 0 0, .string ⟨#[]⟩] 25)).alloc (.cells #[.int .i64 0, .int .i64 0, .int .i64 0, .int .u32 0, .int .i64 0, .int .i64 0, .bool false, .int .u32 0, .int .u32 0, .int .i64 0, .int .i64 0, .int .i64 0, .string ⟨#[]⟩, .string ⟨#[]⟩] 48)).heap[w.heap.size + 2]? = some (.cells #[.int .i64 0, .int .i64 0, .int .i64 0, .int .u32 0, .int .i64 0, .int .i64 0, .bool false, .int .u32 0, .int .u32 0, .int .i64 0, .int .i64 0, .int .i64 0, .string ⟨#[]⟩, .string ⟨#[]⟩] 48 (0, 0))) := three_lastg w _ _ _
  clear h
  go_enter Try.func10, Try.ntmps10
  go_wp2_with fail
  refine scope_from ?_
  go_wp2_with fail
  refine (HI.out _ (H.out.below B0.out)).mono ?_
  rintro e W1 ⟨rfl, hb⟩
  have B1 : Hid (Below w.heap.size w W1) := B0.out.trans (hb.mono B0.out.size)
  have P1 : Hid (W1.heap[w.heap.size]? = some (.cells #[.int .u32 0, .int .u32 0, .int .i64 0, .int .i64 0, .bool false, .slice none 0 0, .string ⟨#[]⟩] 25 (0, 0))) := (hb.block _ (Ca.lt_of_heap P0.out)).trans P0.out
  have Q1 : Hid (W1.heap[w.heap.size + 1]? = some (.cells #[.int .u32 0, .int .u32 0, .int .i64 0, .int .i64 0, .bool false, .slice none 0 0, .string ⟨#[]⟩] 25 (0, 0))) := (hb.block _ (Ca.lt_of_heap Q0.out)).trans Q0.out
  have R1 : Hid (W1.heap[w.heap.size + 2]? = some (.cells #[.int .i64 0, .int .i64 0, .int .i64 0, .int .u32 0, .int .i64 0, .int .i64 0, .bool false, .int .u32 0, .int .u32 0, .int .i64 0, .int .i64 0, .int .i64 0, .string ⟨#[]⟩, .string ⟨#[]⟩] 48 (0, 0))) := (hb.block _ (Ca.lt_of_heap R0.out)).trans R0.out
  clear hb HI B0 P0 Q0 R0
  go_wp2_with fail
  have hbA := below1 W1 (.cells #[.int .i64 tos, .int .i64 id, .int .i64 fr, .int .i64 ttl, .int .i64 pr, .int .u32 src, .int .u32 dst, .string (strOfNums io)] 51)
  have B2 : Hid (Below w.heap.size w (W1.alloc (.cells #[.int .i64 tos, .int .i64 id, .int .i64 fr, .int .i64 ttl, .int .i64 pr, .int .u32 src, .int .u32 dst, .string (strOfNums io)] 51))) := B1.out.trans (hbA.mono B1.out.size)
  have P2 : Hid ((W1.alloc (.cells #[.int .i64 tos, .int .i64 id, .int .i64 fr, .int .i64 ttl, .int .i64 pr, .int .u32 src, .int .u32 dst, .string (strOfNums io)] 51)).heap[w.heap.size]? = some (.cells #[.int .u32 0, .int .u32 0, .int .i64 0, .int .i64 0, .bool false, .slice none 0 0, .string ⟨#[]⟩] 25 (0, 0))) := (hbA.block _ (Ca.lt_of_heap P1.out)).trans P1.out
  have Q2 : Hid ((W1.alloc (.cells #[.int .i64 tos, .int .i64 id, .int .i64 fr, .int .i64 ttl, .int .i64 pr, .int .u32 src, .int .u32 dst, .string (strOfNums io)] 51)).heap[w.heap.size + 1]? = some (.cells #[.int .u32 0, .int .u32 0, .int .i64 0, .int .i64 0, .bool false, .slice none 0 0, .string ⟨#[]⟩] 25 (0, 0))) := (hbA.block _ (Ca.lt_of_heap Q1.out)).trans Q1.out
  have R2 : Hid ((W1.alloc (.cells #[.int .i64 tos, .int .i64 id, .int .i64 fr, .int .i64 ttl, .int .i64 pr, .int .u32 src, .int .u32 dst, .string (strOfNums io)] 51)).heap[w.heap.size + 2]? = some (.cells #[.int .i64 0, .int .i64 0, .int .i64 0, .int .u32 0, .int .i64 0, .int .i64 0, .bool false, .int .u32 0, .int .u32 0, .int .i64 0, .int .i64 0, .int .i64 0, .string ⟨#[]⟩, .string ⟨#[]⟩] 48 (0, 0))) := (hbA.block _ (Ca.lt_of_heap R1.out)).trans R1.out
  have I2 : Hid ((W1.alloc (.cells #[.int .i64 tos, .int .i64 id, .int .i64 fr, .int .i64 ttl, .int .i64 pr, .int .u32 src, .int .u32 dst, .string (strOfNums io)] 51)).heap[W1.heap.size]? = some (.cells #[.int .i64 tos, .int .i64 id, .int .i64 fr, .int .i64 ttl, .int .i64 pr, .int .u32 src, .int .u32 dst, .string (strOfNums io)] 51 (0, 0))) := heap_alloc_new W1 _
  have N2 : Hid (w.heap.size + 2 < W1.heap.size) := Ca.lt_of_heap R1.out
  obtain ⟨W2, hW⟩ : ∃ V, W1.alloc (.cells #[.int .i64 tos, .int .i64 id, .int .i64 fr, .int .i64 ttl, .int .i64 pr, .int .u32 src, .int .u32 dst, .string (strOfNums io)] 51) = V := ⟨_, rfl⟩
  obtain ⟨g8, hg⟩ : ∃ V, W1.heap.size = V := ⟨_, rfl⟩
  rw [hW] at B2 P2 Q2 R2 I2 ⊢
  rw [hg] at I2 N2 ⊢
  clear hW hg hbA B1 P1 Q1 R1
  have KC : Hid (∀ W, Below W2.heap.size W2 W → W.cell? ⟨g8, 5, none⟩ = some (.int .u32 src) ∧ W.cell? ⟨g8, 6, none⟩ = some (.int .u32 dst) ∧ W.cell? ⟨g8, 4, none⟩ = some (.int .i64 pr)) := fun W hb => by
    have e := (hb.block _ (Ca.lt_of_heap I2.out)).trans I2.out
    exact ⟨cells14g e 5, cells14g e 6, cells14g e 4⟩
  refine wp_region_held_drew (S := (fun W => W.cell? ⟨g8, 5, none⟩ = some (.int .u32 src) ∧ W.cell? ⟨g8, 6, none⟩ = some (.int .u32 dst) ∧ W.cell? ⟨g8, 4, none⟩ = some (.int .i64 pr))) (by kernel_rfl) ?_ (fun hHeld => ?_)
  · exact KC.out _ (Below.refl _ _).drew
  refine wpAnyH_take (i := 0) (v := ?_) rfl (by kernel_rfl) (by kernel_rfl) (by kernel_rfl) (fun _ _ _ h => h) (Or.inl ⟨by rfl, ?_⟩) (by assumption) ?_
  rotate_left
  · (intro w hSw; (try dsimp only at hSw); go_simp; try with_reducible rfl)
  try simp only [List.getElem_toArray, List.getElem_cons_zero, List.getElem_cons_succ, Act.put, List.setIfInBounds_toArray, List.set_cons_zero, List.set_cons_succ]
  refine wpAnyH_take (i := 1) (v := ?_) rfl (by kernel_rfl) (by kernel_rfl) (by kernel_rfl) (fun _ _ _ h => h) (Or.inl ⟨by rfl, ?_⟩) (by assumption) ?_
  rotate_left
  · (intro w hSw; (try dsimp only at hSw); go_simp; try with_reducible rfl)
  try simp only [List.getElem_toArray, List.getElem_cons_zero, List.getElem_cons_succ, Act.put, List.setIfInBounds_toArray, List.set_cons_zero, List.set_cons_succ]
  refine wpAnyH_take (i := 2) (v := ?_) rfl (by kernel_rfl) (by kernel_rfl) (by kernel_rfl) (fun _ _ _ h => h) (Or.inl ⟨by rfl, ?_⟩) (by assumption) ?_
  rotate_left
  · (intro w hSw; (try dsimp only at hSw); go_simp; try with_reducible rfl)
  try simp only [List.getElem_toArray, List.getElem_cons_zero, List.getElem_cons_succ, Act.put, List.setIfInBounds_toArray, List.set_cons_zero, List.set_cons_succ]
  refine wpAnyH_take (i := 3) (v := ?_) rfl (by kernel_rfl) (by kernel_rfl) (by kernel_rfl) (fun _ _ _ h => h) (Or.inl ⟨by rfl, ?_⟩) (by assumption) ?_
  rotate_left
  · (intro w hSw; (try dsimp only at hSw); go_simp; try with_reducible rfl)
  try simp only [List.getElem_toArray, List.getElem_cons_zero, List.getElem_cons_succ, Act.put, List.setIfInBounds_toArray, List.set_cons_zero, List.set_cons_succ]
  refine wpAnyH_take (i := 4) (v := ?_) rfl (by kernel_rfl) (by kernel_rfl) (by kernel_rfl) (fun _ _ _ h => h) (Or.inl ⟨by rfl, ?_⟩) (by assumption) ?_
  rotate_left
  · (intro w hSw; (try dsimp only at hSw); go_simp; try with_reducible rfl)
  try simp only [List.getElem_toArray, List.getElem_cons_zero, List.getElem_cons_succ, Act.put, List.setIfInBounds_toArray, List.set_cons_zero, List.set_cons_succ]
  refine wpAnyH_take (i := 5) (v := ?_) rfl (by kernel_rfl) (by kernel_rfl) (by kernel_rfl) (fun _ _ _ h => h) (Or.inl ⟨by rfl, ?_⟩) (by assumption) ?_
  rotate_left
  · (intro w hSw; (try dsimp only at hSw); go_simp; try with_reducible rfl)
  try simp only [List.getElem_toArray, List.getElem_cons_zero, List.getElem_cons_succ, Act.put, List.setIfInBounds_toArray, List.set_cons_zero, List.set_cons_succ]
  refine wpAnyH_take (i := 6) (v := ?_) rfl (by kernel_rfl) (by kernel_rfl) (by kernel_rfl) (fun _ _ _ h => h) (Or.inl ⟨by rfl, ?_⟩) (by assumption) ?_
  rotate_left
  · (intro w hSw; (try dsimp only at hSw); go_simp; try with_reducible rfl)
  try simp only [List.getElem_toArray, List.getElem_cons_zero, List.getElem_cons_succ, Act.put, List.setIfInBounds_toArray, List.set_cons_zero, List.set_cons_succ]
  refine wpAnyH_take (i := 7) (v := ?_) rfl (by kernel_rfl) (by kernel_rfl) (by kernel_rfl) (fun _ _ _ h => h) (Or.inl ⟨by rfl, ?_⟩) (by assumption) ?_
  rotate_left
  · (intro w hSw; (try dsimp only at hSw); go_simp; try with_reducible rfl)
  try simp only [List.getElem_toArray, List.getElem_cons_zero, List.getElem_cons_succ, Act.put, List.setIfInBounds_toArray, List.set_cons_zero, List.set_cons_succ]
  refine wpAnyH_take (i := 8) (v := ?_) rfl (by kernel_rfl) (by kernel_rfl) (by kernel_rfl) (fun _ _ _ h => h) (Or.inl ⟨by rfl, ?_⟩) (by assumption) ?_
  rotate_left
  · (intro w hSw; (try dsimp only at hSw); go_simp; try with_reducible rfl)
  try simp only [List.getElem_toArray, List.getElem_cons_zero, List.getElem_cons_succ, Act.put, List.setIfInBounds_toArray, List.set_cons_zero, List.set_cons_succ]
  refine wpAnyH_take (i := 9) (v := ?_) rfl (by kernel_rfl) (by kernel_rfl) (by kernel_rfl) (fun _ _ _ h => h) (Or.inl ⟨by rfl, ?_⟩) (by assumption) ?_
  rotate_left
  · (intro w hSw; (try dsimp only at hSw); go_simp; try with_reducible rfl)
  try simp only [List.getElem_toArray, List.getElem_cons_zero, List.getElem_cons_succ, Act.put, List.setIfInBounds_toArray, List.set_cons_zero, List.set_cons_succ]
  refine wpAnyH_ready (rs := [10]) (by kernel_rfl) (by simp) ?_
  refine AllReadyH.cons (o := _) rfl (fun K hK => ?_) AllReadyH.nil
  go_simp
  refine (HL.out _ (H.out.below B2.out.drew)).mono ?_
  rintro e W3 ⟨rfl, hb⟩
  have hb' : Below W2.heap.size W2 W3 := (Below.refl _ _).drew.trans hb
  go_wp2_with fail
  refine hK.out _ _ (KC.out _ hb') (fun hHeld2 => ?_)
  clear hK K hHeld hb
  try simp only [List.getElem_toArray, List.getElem_cons_zero, List.getElem_cons_succ, Act.put, List.setIfInBounds_toArray, List.set_cons_zero, List.set_cons_succ]
  refine wpAnyH_take (i := 11) (v := ?_) rfl (by kernel_rfl) (by kernel_rfl) (by kernel_rfl) (fun _ _ _ h => h) (Or.inl ⟨by rfl, ?_⟩) (by assumption) ?_
  rotate_left
  · (intro w hSw; (try dsimp only at hSw); go_simp; try with_reducible rfl)
  try simp only [List.getElem_toArray, List.getElem_cons_zero, List.getElem_cons_succ, Act.put, List.setIfInBounds_toArray, List.set_cons_zero, List.set_cons_succ]
  refine wpAnyH_take (i := 12) (v := ?_) rfl (by kernel_rfl) (by kernel_rfl) (by kernel_rfl) (fun _ _ _ h => h) (Or.inl ⟨by rfl, ?_⟩) (by assumption) ?_
  rotate_left
  · (intro w hSw; (try dsimp only at hSw); go_simp; try with_reducible rfl)
  try simp only [List.getElem_toArray, List.getElem_cons_zero, List.getElem_cons_succ, Act.put, List.setIfInBounds_toArray, List.set_cons_zero, List.set_cons_succ]
  refine wpAnyH_take (i := 13) (v := ?_) rfl (by kernel_rfl) (by kernel_rfl) (by kernel_rfl) (fun _ _ _ h => h) (Or.inl ⟨by rfl, ?_⟩) (by assumption) ?_
  rotate_left
  · (intro w hSw; (try dsimp only at hSw); go_simp; try with_reducible rfl)
  try simp only [List.getElem_toArray, List.getElem_cons_zero, List.getElem_cons_succ, Act.put, List.setIfInBounds_toArray, List.set_cons_zero, List.set_cons_succ]
  refine wpAnyH_ready (rs := [14]) (by kernel_rfl) (by simp) ?_
  refine AllReadyH.cons (o := _) rfl (fun K hK => ?_) AllReadyH.nil
  have hr5 : W3.heap[w.heap.size + 2]? = some (.cells #[.int .i64 0, .int .i64 0, .int .i64 0, .int .u32 0, .int .i64 0, .int .i64 0, .bool false, .int .u32 0, .int .u32 0, .int .i64 0, .int .i64 0, .int .i64 0, .string ⟨#[]⟩, .string ⟨#[]⟩] 48 (0, 0)) := (hb'.block _ (Ca.lt_of_heap R2.out)).trans R2.out
  refine Ca.step_store_at rfl 48 _ _ rfl (w.heap.size + 2) 0 #[.int .i64 0, .int .i64 0, .int .i64 0, .int .u32 0, .int .i64 0, .int .i64 0, .bool false, .int .u32 0, .int .u32 0, .int .i64 0, .int .i64 0, .int .i64 0, .string ⟨#[]⟩, .string ⟨#[]⟩] #[.int .i64 k, .int .i64 ty, .int .i64 co, .int .u32 re, .int .i64 sp, .int .i64 dp, .bool ns, .int .u32 sq, .int .u32 ak, .int .i64 fl, .int .i64 wi, .int .i64 ur, .string (strOfNums lo), .string (strOfNums ds)] 48 rfl rfl hr5 (by kernel_rfl) (Nat.le_of_ble_eq_true (by kernel_rfl)) (by kernel_rfl) ?_
  intro W4 y1 y2 y3 y4
  have R4 : Hid (W4.heap[w.heap.size + 2]? = some (.cells #[.int .i64 k, .int .i64 ty, .int .i64 co, .int .u32 re, .int .i64 sp, .int .i64 dp, .bool ns, .int .u32 sq, .int .u32 ak, .int .i64 fl, .int .i64 wi, .int .i64 ur, .string (strOfNums lo), .string (strOfNums ds)] 48 (0, 0))) := by show _ = _; rw [← put_l4c k ty co re sp dp ns sq ak fl wi ur lo ds]; exact y1
  have P4 : Hid (W4.heap[w.heap.size]? = some (.cells #[.int .u32 0, .int .u32 0, .int .i64 0, .int .i64 0, .bool false, .slice none 0 0, .string ⟨#[]⟩] 25 (0, 0))) := (y2 _ (by omega)).trans ((hb'.block _ (Ca.lt_of_heap P2.out)).trans P2.out)
  have Q4 : Hid (W4.heap[w.heap.size + 1]? = some (.cells #[.int .u32 0, .int .u32 0, .int .i64 0, .int .i64 0, .bool false, .slice none 0 0, .string ⟨#[]⟩] 25 (0, 0))) := (y2 _ (by omega)).trans ((hb'.block _ (Ca.lt_of_heap Q2.out)).trans Q2.out)
  have I4 : Hid (W4.heap[g8]? = some (.cells #[.int .i64 tos, .int .i64 id, .int .i64 fr, .int .i64 ttl, .int .i64 pr, .int .u32 src, .int .u32 dst, .string (strOfNums io)] 51 (0, 0))) := (y2 _ (by have := N2.out; omega)).trans ((hb'.block _ (Ca.lt_of_heap I2.out)).trans I2.out)
  have B4 : Hid (Below w.heap.size w W4) := (B2.out.trans (hb'.mono B2.out.size)).trans (y4.mono (by omega))
  refine hK.out _ _ ⟨cells14g I4.out 5, cells14g I4.out 6, cells14g I4.out 4⟩ (fun hHeld3 => ?_)
  clear hK K hHeld2 hb' hr5 y1 y2 y3 y4 B2 P2 Q2 R2 I2 KC
  try simp only [List.getElem_toArray, List.getElem_cons_zero, List.getElem_cons_succ, Act.put, List.setIfInBounds_toArray, List.set_cons_zero, List.set_cons_succ]
  refine wpAnyH_take (i := 15) (v := ?_) rfl (by kernel_rfl) (by kernel_rfl) (by kernel_rfl) (fun _ _ _ h => h) (Or.inl ⟨by rfl, ?_⟩) (by assumption) ?_
  rotate_left
  · (intro w hSw; (try dsimp only at hSw); go_simp; try with_reducible rfl)
  try simp only [List.getElem_toArray, List.getElem_cons_zero, List.getElem_cons_succ, Act.put, List.setIfInBounds_toArray, List.set_cons_zero, List.set_cons_succ]
  clear hHeld3
  refine wpAnyH_done (by kernel_rfl) ?_ _
  have c13 := cells14g R4.out 13
  simp only [List.getElem?_toArray, List.getElem?_cons_succ, List.getElem?_cons_zero] at c13
  obtain ⟨cp, W5, hrun, hB5, hbel, hcp, hcpm⟩ := conv_text W4 ds hdf (by omega)
  have B5 : Hid (Below w.heap.size w W5) := B4.out.trans (hbel.mono B4.out.size)
  have R5 : Hid (W5.heap[w.heap.size + 2]? = some (.cells #[.int .i64 k, .int .i64 ty, .int .i64 co, .int .u32 re, .int .i64 sp, .int .i64 dp, .bool ns, .int .u32 sq, .int .u32 ak, .int .i64 fl, .int .i64 wi, .int .i64 ur, .string (strOfNums lo), .string (strOfNums ds)] 48 (0, 0))) := (hbel.block _ (Ca.lt_of_heap R4.out)).trans R4.out
  have P5 : Hid (W5.heap[w.heap.size]? = some (.cells #[.int .u32 0, .int .u32 0, .int .i64 0, .int .i64 0, .bool false, .slice none 0 0, .string ⟨#[]⟩] 25 (0, 0))) := (hbel.block _ (Ca.lt_of_heap P4.out)).trans P4.out
  have Q5 : Hid (W5.heap[w.heap.size + 1]? = some (.cells #[.int .u32 0, .int .u32 0, .int .i64 0, .int .i64 0, .bool false, .slice none 0 0, .string ⟨#[]⟩] 25 (0, 0))) := (hbel.block _ (Ca.lt_of_heap Q4.out)).trans Q4.out
  have I5 : Hid (W5.heap[g8]? = some (.cells #[.int .i64 tos, .int .i64 id, .int .i64 fr, .int .i64 ttl, .int .i64 pr, .int .u32 src, .int .u32 dst, .string (strOfNums io)] 51 (0, 0))) := (hbel.block _ (Ca.lt_of_heap I4.out)).trans I4.out
  have S5 : Hid _ := hB5
  have HCP : Hid _ := hcp
  have HCM : Hid _ := hcpm
  clear hB5 hbel hcp hcpm
  go_wp2_with fail
  refine (HR.out _ _ _ S5.out HCP.out HCM.out).mono ?_
  rintro e W6 ⟨oa, oc, rfl, hO6, hfar, hb⟩
  have O6 : Hid _ := hO6
  have HFR : Hid (∀ x, oa = some x → w.heap.size + 2 < x.block) := fun x e => by have h1 := hfar x e; have h2 := Ca.lt_of_heap R5.out; omega
  clear hO6 hfar
  have B6 : Hid (Below w.heap.size w W6) := B5.out.trans (hb.mono B5.out.size)
  have R6 : Hid (W6.heap[w.heap.size + 2]? = some (.cells #[.int .i64 k, .int .i64 ty, .int .i64 co, .int .u32 re, .int .i64 sp, .int .i64 dp, .bool ns, .int .u32 sq, .int .u32 ak, .int .i64 fl, .int .i64 wi, .int .i64 ur, .string (strOfNums lo), .string (strOfNums ds)] 48 (0, 0))) := (hb.block _ (Ca.lt_of_heap R5.out)).trans R5.out
  have P6 : Hid (W6.heap[w.heap.size]? = some (.cells #[.int .u32 0, .int .u32 0, .int .i64 0, .int .i64 0, .bool false, .slice none 0 0, .string ⟨#[]⟩] 25 (0, 0))) := (hb.block _ (Ca.lt_of_heap P5.out)).trans P5.out
  have Q6 : Hid (W6.heap[w.heap.size + 1]? = some (.cells #[.int .u32 0, .int .u32 0, .int .i64 0, .int .i64 0, .bool false, .slice none 0 0, .string ⟨#[]⟩] 25 (0, 0))) := (hb.block _ (Ca.lt_of_heap Q5.out)).trans Q5.out
  have I6 : Hid (W6.heap[g8]? = some (.cells #[.int .i64 tos, .int .i64 id, .int .i64 fr, .int .i64 ttl, .int .i64 pr, .int .u32 src, .int .u32 dst, .string (strOfNums io)] 51 (0, 0))) := (hb.block _ (Ca.lt_of_heap I5.out)).trans I5.out
  clear hb hrun c13 B4 R4 P4 Q4 I4 B5 R5 P5 Q5 I5 S5 HCP HR
  go_wp2_with (first
    | refine Ca.wpList_store_row rfl 25 _ _ rfl (w.heap.size + 1) #[.int .u32 0, .int .u32 0, .int .i64 0, .int .i64 0, .bool false, .slice none 0 0, .string ⟨#[]⟩] #[.int .u32 0, .int .u32 0, .int .i64 0, .int .i64 vni, .bool oam, .slice oa os.length oc, .string fs] 25 rfl rfl Q6.out (by kernel_rfl) rfl (by kernel_rfl) ?_
    | fail)
  intro W7 y1 y2 y3 y4
  have B7 : Hid (Below w.heap.size w W7) := B6.out.trans (y4.mono (by omega))
  have R7' : Hid (W7.heap[w.heap.size + 2]? = some (.cells #[.int .i64 k, .int .i64 ty, .int .i64 co, .int .u32 re, .int .i64 sp, .int .i64 dp, .bool ns, .int .u32 sq, .int .u32 ak, .int .i64 fl, .int .i64 wi, .int .i64 ur, .string (strOfNums lo), .string (strOfNums ds)] 48 (0, 0))) := (y2 _ (by omega)).trans R6.out
  have P7 : Hid (W7.heap[w.heap.size]? = some (.cells #[.int .u32 0, .int .u32 0, .int .i64 0, .int .i64 0, .bool false, .slice none 0 0, .string ⟨#[]⟩] 25 (0, 0))) := (y2 _ (by omega)).trans P6.out
  have Q7 : Hid (W7.heap[w.heap.size + 1]? = some (.cells #[.int .u32 0, .int .u32 0, .int .i64 0, .int .i64 vni, .bool oam, .slice oa os.length oc, .string fs] 25 (0, 0))) := y1
  have I7 : Hid (W7.heap[g8]? = some (.cells #[.int .i64 tos, .int .i64 id, .int .i64 fr, .int .i64 ttl, .int .i64 pr, .int .u32 src, .int .u32 dst, .string (strOfNums io)] 51 (0, 0))) := (y2 _ (by have := N2.out; omega)).trans I6.out
  have O7 : Hid _ := os_far2 O6.out y2 (fun x e => by have := HFR.out x e; omega)
  clear y1 y2 y3 y4 B6 R6 P6 Q6 I6 O6
  go_wp2_with fail
  have hA5 := cells14g I7.out 5
  have hA6 := cells14g I7.out 6
  have hA4 := cells14g R7'.out 4
  have hB0 := cells14g Q7.out 0
  have hB1 := cells14g Q7.out 1
  have hB2 := cells14g Q7.out 2
  simp only [List.getElem?_toArray, List.getElem?_cons_succ, List.getElem?_cons_zero] at hA5 hA6 hA4 hB0 hB1 hB2
  have hF0 := frozen_of_row W7 _ 0 _ _ Q7.out
  have hF1 := frozen_of_row W7 _ 1 _ _ Q7.out
  have hF2 := frozen_of_row W7 _ 2 _ _ Q7.out
  have hn1 : ¬ w.heap.size + 1 = g8 := by have := N2.out; omega
  have hn2 : ¬ g8 = w.heap.size + 1 := by have := N2.out; omega
  go_region
  clear hA5 hA6 hA4 hB0 hB1 hB2 hF0 hF1 hF2
  have Q8 : Hid ((((W7.setCell ⟨w.heap.size + 1, 0, none⟩ (.int .u32 src)).setCell ⟨w.heap.size + 1, 1, none⟩ (.int .u32 dst)).setCell ⟨w.heap.size + 1, 2, none⟩ (.int .i64 sp)).drew.heap[w.heap.size + 1]? = some (.cells #[.int .u32 src, .int .u32 dst, .int .i64 sp, .int .i64 vni, .bool oam, .slice oa os.length oc, .string fs] 25 (0, 0))) := Ca.row_setCell (Ca.row_setCell (Ca.row_setCell Q7.out 0 (.int .u32 src)) 1 (.int .u32 dst)) 2 (.int .i64 sp)
  have P8 : Hid ((((W7.setCell ⟨w.heap.size + 1, 0, none⟩ (.int .u32 src)).setCell ⟨w.heap.size + 1, 1, none⟩ (.int .u32 dst)).setCell ⟨w.heap.size + 1, 2, none⟩ (.int .i64 sp)).drew.heap[w.heap.size]? = some (.cells #[.int .u32 0, .int .u32 0, .int .i64 0, .int .i64 0, .bool false, .slice none 0 0, .string ⟨#[]⟩] 25 (0, 0))) := (Below.heap_setCell _ _ _ _ (show w.heap.size ≠ w.heap.size + 1 by omega)).trans ((Below.heap_setCell _ _ _ _ (show w.heap.size ≠ w.heap.size + 1 by omega)).trans ((Below.heap_setCell _ _ _ _ (show w.heap.size ≠ w.heap.size + 1 by omega)).trans P7.out))
  have B8 : Hid (Below w.heap.size w (((W7.setCell ⟨w.heap.size + 1, 0, none⟩ (.int .u32 src)).setCell ⟨w.heap.size + 1, 1, none⟩ (.int .u32 dst)).setCell ⟨w.heap.size + 1, 2, none⟩ (.int .i64 sp)).drew) := (((B7.out.setCell (show w.heap.size ≤ w.heap.size + 1 by omega) _).setCell (show w.heap.size ≤ w.heap.size + 1 by omega) _).setCell (show w.heap.size ≤ w.heap.size + 1 by omega) _).drew
  have O8 : Hid (OS (((W7.setCell ⟨w.heap.size + 1, 0, none⟩ (.int .u32 src)).setCell ⟨w.heap.size + 1, 1, none⟩ (.int .u32 dst)).setCell ⟨w.heap.size + 1, 2, none⟩ (.int .i64 sp)).drew oa os.length os) := os_far2 (os_far (os_far (os_far O7.out _ _ (fun x e => by have := HFR.out x e; show x.block ≠ w.heap.size + 1; omega)) _ _ (fun x e => by have := HFR.out x e; show x.block ≠ w.heap.size + 1; omega)) _ _ (fun x e => by have := HFR.out x e; show x.block ≠ w.heap.size + 1; omega)) (g := w.heap.size) (fun _ _ => rfl) (fun x e => by have := HFR.out x e; omega)
  obtain ⟨W8, hW⟩ : ∃ V, (((W7.setCell ⟨w.heap.size + 1, 0, none⟩ (.int .u32 src)).setCell ⟨w.heap.size + 1, 1, none⟩ (.int .u32 dst)).setCell ⟨w.heap.size + 1, 2, none⟩ (.int .i64 sp)).drew = V := ⟨_, rfl⟩
  rw [hW] at Q8 P8 B8 O8 ⊢
  clear hW B7 R7' P7 Q7 I7 O7
  obtain ⟨x0, x1, x2, x3, x4, x5, x6⟩ := seven Q8.out
  go_wp2_with fail
  refine (HE.out _ _ _ O8.out).mono ?_
  rintro e W9 ⟨a', cap', f, rfl, hB9, hb⟩
  have B9 : Hid (Below w.heap.size w W9) := B8.out.trans (hb.mono B8.out.size)
  have P9 : Hid (W9.heap[w.heap.size]? = some (.cells #[.int .u32 0, .int .u32 0, .int .i64 0, .int .i64 0, .bool false, .slice none 0 0, .string ⟨#[]⟩] 25 (0, 0))) := (hb.block _ (Ca.lt_of_heap P8.out)).trans P8.out
  have Q9 : Hid (W9.heap[w.heap.size + 1]? = some (.cells #[.int .u32 src, .int .u32 dst, .int .i64 sp, .int .i64 vni, .bool oam, .slice oa os.length oc, .string fs] 25 (0, 0))) := (hb.block _ (Ca.lt_of_heap Q8.out)).trans Q8.out
  have S9 : Hid _ := hB9
  have O9 : Hid _ := O8.out.below hb
  clear hb hB9 HE x0 x1 x2 x3 x4 x5 x6 B8 P8 Q8
  go_wp2_with fail
  refine (bequal_other _ _ S9.out (H.out.below B9.out) HNE.out).mono ?_
  rintro e W10 ⟨rfl, rfl⟩
  go_wp2_with fail
  go_step3
  show FromLabel _ _ _ _ _ _
  refine from_label rfl ?_
  go_wp2_with (first
    | refine Ca.wpList_store_row rfl 25 _ _ rfl w.heap.size #[.int .u32 0, .int .u32 0, .int .i64 0, .int .i64 0, .bool false, .slice none 0 0, .string ⟨#[]⟩] #[.int .u32 0, .int .u32 0, .int .i64 0, .int .i64 0, .bool false, .slice none 0 0, .string ⟨#[]⟩] 25 rfl rfl P9.out (by kernel_rfl) rfl (by kernel_rfl) ?_
    | fail)
  intro W11 y1 y2 y3 y4
  go_wp2
  simp only [Exit.jumpTo]
  exact bodyPost_ret (results_tb (p := 2) (u := 3) rfl _ _ w.heap.size _ rfl y1 rfl) rfl ⟨rfl, B9.out.trans (y4.mono (Nat.le_refl _))⟩
end Go.Proofs.Ytgonckbdkgiddaa
