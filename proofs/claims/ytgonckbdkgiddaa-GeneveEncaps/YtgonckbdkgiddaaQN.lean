/- Parts of the proof, in one text. -/
import Derived.Test.YtgonckbdkgiddaaQL
import Derived.Test.YtgonckbdkgiddaaQG
import Derived.Test.YtgonckbdkgiddaaL4q
namespace Go.Proofs.Ytgonckbdkgiddaa
open Go.RowKit
set_option maxRecDepth 20000
set_option linter.unusedSimpArgs false
set_option maxHeartbeats 8000000 in
theorem decap_opts (w : World) (b off n cap : Nat) (zs : List Int) (h : BS w (some ⟨b, off, none⟩) n zs) (hcap : n ≤ cap) (m T : Nat) (_hm : 0 < m) (hmT : m ≤ T) (hTn : T ≤ n) (hcm : ¬ cap = m)
    (tos id fr ttl pr src dst : Int) (io : List Int)
    (HI : Hid (∀ W, BS W (some ⟨b, off, none⟩) n zs → Calls Try.prog 24 #[.slice (some ⟨b, off, none⟩) n cap] W fun e w' => e = .returned (.tuple #[.agg #[.int .i64 tos, .int .i64 id, .int .i64 fr, .int .i64 ttl, .int .i64 pr, .int .u32 src, .int .u32 dst, .string (strOfNums io)], .int .i64 m, .int .i64 T, .int .i64 0]) ∧ Below W.heap.size W w'))
    (k ty co re sp dp : Int) (ns : Bool) (sq ak fl wi ur : Int) (lo ds : List Int) (hdf : Fit ds) (hdl : ds.length ≤ 100000)
    (HL : Hid (∀ W, BS W (some ⟨b, off, none⟩) n zs → Calls Try.prog 25 #[.int .u32 src, .int .u32 dst, .int .i64 pr, .slice (some ⟨b, off + m, none⟩) (T - m) (cap - m)] W fun e w' => e = .returned (.tuple #[.agg #[.int .i64 k, .int .i64 ty, .int .i64 co, .int .u32 re, .int .i64 sp, .int .i64 dp, .bool ns, .int .u32 sq, .int .u32 ak, .int .i64 fl, .int .i64 wi, .int .i64 ur, .string (strOfNums lo), .string (strOfNums ds)], .int .i64 0]) ∧ Below W.heap.size W w'))
    (vni : Int) (oam : Bool) (fs : ByteArray) (os : List Opt)
    (HR : Hid (∀ W g c, BS W (some ⟨g, 0, none⟩) ds.length ds → ds.length ≤ c → c ≤ 9223372036854775807 → Calls Try.prog 26 #[.slice (some ⟨g, 0, none⟩) ds.length c] W fun e w' => ∃ oa oc, e = .returned (.tuple #[.agg #[.int .u32 0, .int .u32 0, .int .i64 0, .int .i64 vni, .bool oam, .slice oa os.length oc, .string fs], .bool true]) ∧ OS w' oa os.length os ∧ (∀ x, oa = some x → W.heap.size ≤ x.block) ∧ Below W.heap.size W w'))
    (HE : Hid (∀ W oa oc, OS W oa os.length os → Calls Try.prog 7 #[.agg #[.int .u32 src, .int .u32 dst, .int .i64 sp, .int .i64 vni, .bool oam, .slice oa os.length oc, .string fs]] W fun e w' => ∃ a' cap', e = .returned (.tuple #[.slice a' n cap', .int .i64 0]) ∧ BS w' a' n zs ∧ Below W.heap.size W w')) :
    Calls Try.prog 10 #[.slice (some ⟨b, off, none⟩) n cap] w fun e w' => ∃ oa oc, e = .returned (.tuple #[.agg #[.int .u32 src, .int .u32 dst, .int .i64 sp, .int .i64 vni, .bool oam, .slice oa os.length oc, .string fs], .int .i64 0]) ∧ OS w' oa os.length os ∧ Below w.heap.size w w' := by
  have H : Hid (BS w (some ⟨b, off, none⟩) n zs) := h
  have i1 : (m : Int) ≤ (T : Int) := by omega
  have i2 : (T : Int) ≤ (n : Int) := by omega
  have i3 : (n : Int) ≤ (cap : Int) := by omega
  have i4 : (T : Int) ≤ (cap : Int) := by omega
  have i5 : (m : Int) ≤ (cap : Int) := by omega
  have B0 : Hid (Below w.heap.size w (((w.alloc (.cells #[.int .u32 0, .int .u32 0, .int .i64 0, .int .i64 0, .bool false, .slice none 0 0, .string ⟨#[]⟩] 25)).alloc (.cells #[.int .u32 0, .int .u32 0, .int .i64 0, .int .i64 0, .bool false, .slice none 0 0, .string ⟨#[]⟩] 25)).alloc (.cells #[.int .i64 0, .int .i64 0, .int .i64 0, .int .u32 0, .int .i64 0, .int .i64 0, .bool false, .int .u32 0, .int .u32 0, .int .i64 0, .int .i64 0, .int .i64 0, .string ⟨#[]⟩, .string ⟨#[]⟩] 48))) := Ca.below3 w _ _ _
  have P0 : Hid ((((w.alloc (.cells #[.int .u32 0, .int .u32 0, .int .i64 0, .int .i64 0, .bool false, .slice none 0 0, .string ⟨#[]⟩] 25)).alloc (.cells #[.int .u32 0, .int .u32 0, .int .i64 0, .int .i64 0, .bool false, .slice none 0 0, .string ⟨#[]⟩] 25)).alloc (.cells #[.int .i64 0, .int .i64 0, .int .i64 0, .int .u32 0, .int .i64 0, .int .i64 0, .bool false, .int .u32 0, .int .u32 0, .int .i64 0, .int .i64 0, .int .i64 0, .string ⟨#[]⟩, .string ⟨#[]⟩] 48)).heap[w.heap.size]? = some (.cells #[.int .u32 0, .int .u32 0, .int .i64 0, .int .i64 0, .bool false, .slice none 0 0, .string ⟨#[]⟩] 25 (0, 0))) := Ca.three_first w _ _ _
  have Q0 : Hid ((((w.alloc (.cells #[.int .u32 0, .int .u32 0, .int .i64 0, .int .i64 0, .bool false, .slice none 0 0, .string ⟨#[]⟩] 25)).alloc (.cells #[.int .u32 0, .int .u32 0, .int .i64 0, .int .i64 0, .bool false, .slice none 0 0, .string ⟨#[]⟩] 25)).alloc (.cells #[.int .i64 0, .int .i64 0, .int .i64 0, .int .u32 0, .int .i64 0, .int .i64 0, .bool false, .int .u32 0, .int .u32 0, .int .i64 0, .int .i64 0, .int .i64 0, .string ⟨#[]⟩, .string ⟨#[]⟩] 48)).heap[w.heap.size + 1]? = some (.cells #[.int .u32 0, .int .u32 0, .int .i64 0, .int .i64 0, .bool false, .slice none 0 0, .string ⟨#[]⟩] 25 (0, 0))) := three_mid w _ _ _
  have R0 : Hid ((((w.alloc (.cells #[.int .u32 0, .int .u32 0, .int .i64 0, .int .i64 0, .bool false, .slice none 0 0, .string ⟨#[]⟩] 25)).alloc (.cells #[.int .u32 0, .int .u32 0, .int .i64 0, .int .i64 0, .bool false, .slice none 0 0, .string ⟨#[]⟩] 25)).alloc (.cells #[.int .i64 0, .int .i64 0, .int .i64 0, .int .u32 0, .int .i64 0, .int .i64 0, .bool false, .int .u32 0, .int .u32 0, .int .i64 0, .int .i64 0, .int .i64 0, .string ⟨#[]⟩, .string ⟨#[]⟩] 48)).heap[w.heap.size + 2]? = some (.cells #[.int .i64 0, .int .i64 0, .int .i64 0, .int .u32 0, .int .i64 0, .int .i64 0, .bool false, .int .u32 0, .int .u32 0, .int .i64 0, .int .i64 0, .int .i64 0, .string ⟨#[]⟩, .string ⟨#[]⟩] 48 (0, 0))) := three_lastg w _ _ _
  clear h
  go_enter Try.func10, Try.ntmps10
  go_wp2_with fail
  refine scope_from ?_
  go_wp2_with fail
  refine (HI.out _ (H.out.below B0.out)).mono ?_
  rintro e W1 ⟨rfl, hb⟩
  have B1 : Hid (Below w.heap.size w W1) := B0.out.trans (hb.mono B0.out.size)
  have P1 : Hid (W1.heap[w.heap.size]? = some (.cells #[.int .u32 0, .int .u32 0, .int .i64 0, .int .i64 0, .bool false, .slice none 0 0, .string ⟨#[]⟩] 25 (0, 0))) := (hb.block _ (Ca.lt_of_heap P0.out)).trans P0.out
  have Q1 : Hid (W1.heap[w.heap.size + 1]? = some (.cells #[.int .u32 0, .int .u32 0, .int .i64 0, .int .i64 0, .bool false, .slice none 0 0, .string ⟨#[]⟩] 25 (0, 0))) := (hb.block _ (Ca.lt_of_heap Q0.out)).trans Q0.out
  have R1 : Hid (W1.heap[w.heap.size + 2]? = some (.cells #[.int .i64 0, .int .i64 0, .int .i64 0, .int .u32 0, .int .i64 0, .int .i64 0, .bool false, .int .u32 0, .int .u32 0, .int .i64 0, .int .i64 0, .int .i64 0, .string ⟨#[]⟩, .string ⟨#[]⟩] 48 (0, 0))) := (hb.block _ (Ca.lt_of_heap R0.out)).trans R0.out
  clear hb HI B0 P0 Q0 R0
  go_wp2_with fail
  have hbA := below1 W1 (.cells #[.int .i64 tos, .int .i64 id, .int .i64 fr, .int .i64 ttl, .int .i64 pr, .int .u32 src, .int .u32 dst, .string (strOfNums io)] 51)
  have B2 : Hid (Below w.heap.size w (W1.alloc (.cells #[.int .i64 tos, .int .i64 id, .int .i64 fr, .int .i64 ttl, .int .i64 pr, .int .u32 src, .int .u32 dst, .string (strOfNums io)] 51))) := B1.out.trans (hbA.mono B1.out.size)
  have P2 : Hid ((W1.alloc (.cells #[.int .i64 tos, .int .i64 id, .int .i64 fr, .int .i64 ttl, .int .i64 pr, .int .u32 src, .int .u32 dst, .string (strOfNums io)] 51)).heap[w.heap.size]? = some (.cells #[.int .u32 0, .int .u32 0, .int .i64 0, .int .i64 0, .bool false, .slice none 0 0, .string ⟨#[]⟩] 25 (0, 0))) := (hbA.block _ (Ca.lt_of_heap P1.out)).trans P1.out
  have Q2 : Hid ((W1.alloc (.cells #[.int .i64 tos, .int .i64 id, .int .i64 fr, .int .i64 ttl, .int .i64 pr, .int .u32 src, .int .u32 dst, .string (strOfNums io)] 51)).heap[w.heap.size + 1]? = some (.cells #[.int .u32 0, .int .u32 0, .int .i64 0, .int .i64 0, .bool false, .slice none 0 0, .string ⟨#[]⟩] 25 (0, 0))) := (hbA.block _ (Ca.lt_of_heap Q1.out)).trans Q1.out
  have R2 : Hid ((W1.alloc (.cells #[.int .i64 tos, .int .i64 id, .int .i64 fr, .int .i64 ttl, .int .i64 pr, .int .u32 src, .int .u32 dst, .string (strOfNums io)] 51)).heap[w.heap.size + 2]? = some (.cells #[.int .i64 0, .int .i64 0, .int .i64 0, .int .u32 0, .int .i64 0, .int .i64 0, .bool false, .int .u32 0, .int .u32 0, .int .i64 0, .int .i64 0, .int .i64 0, .string ⟨#[]⟩, .string ⟨#[]⟩] 48 (0, 0))) := (hbA.block _ (Ca.lt_of_heap R1.out)).trans R1.out
  have I2 : Hid ((W1.alloc (.cells #[.int .i64 tos, .int .i64 id, .int .i64 fr, .int .i64 ttl, .int .i64 pr, .int .u32 src, .int .u32 dst, .string (strOfNums io)] 51)).heap[W1.heap.size]? = some (.cells #[.int .i64 tos, .int .i64 id, .int .i64 fr, .int .i64 ttl, .int .i64 pr, .int .u32 src, .int .u32 dst, .string (strOfNums io)] 51 (0, 0))) := heap_alloc_new W1 _
  have N2 : Hid (w.heap.size + 2 < W1.heap.size) := Ca.lt_of_heap R1.out
  obtain ⟨W2, hW⟩ : ∃ V, W1.alloc (.cells #[.int .i64 tos, .int .i64 id, .int .i64 fr, .int .i64 ttl, .int .i64 pr, .int .u32 src, .int .u32 dst, .string (strOfNums io)] 51) = V := ⟨_, rfl⟩
  obtain ⟨g8, hg⟩ : ∃ V, W1.heap.size = V := ⟨_, rfl⟩
  rw [hW] at B2 P2 Q2 R2 I2 ⊢
  rw [hg] at I2 N2 ⊢
  clear hW hg hbA B1 P1 Q1 R1
  have KC : Hid (∀ W, Below W2.heap.size W2 W → W.cell? ⟨g8, 5, none⟩ = some (.int .u32 src) ∧ W.cell? ⟨g8, 6, none⟩ = some (.int .u32 dst) ∧ W.cell? ⟨g8, 4, none⟩ = some (.int .i64 pr)) := fun W hb => by
    have e := (hb.block _ (Ca.lt_of_heap I2.out)).trans I2.out
    exact ⟨cells14g e 5, cells14g e 6, cells14g e 4⟩
  refine wp_region_held_drew (S := (fun W => W.cell? ⟨g8, 5, none⟩ = some (.int .u32 src) ∧ W.cell? ⟨g8, 6, none⟩ = some (.int .u32 dst) ∧ W.cell? ⟨g8, 4, none⟩ = some (.int .i64 pr))) (by kernel_rfl) ?_ (fun hHeld => ?_)
  · exact KC.out _ (Below.refl _ _).drew
  refine wpAnyH_take (i := 0) (v := ?_) rfl (by kernel_rfl) (by kernel_rfl) (by kernel_rfl) (fun _ _ _ h => h) (Or.inl ⟨by rfl, ?_⟩) (by assumption) ?_
  rotate_left
  · (intro w hSw; (try dsimp only at hSw); go_simp; try with_reducible rfl)
  try simp only [List.getElem_toArray, List.getElem_cons_zero, List.getElem_cons_succ, Act.put, List.setIfInBounds_toArray, List.set_cons_zero, List.set_cons_succ]
  refine wpAnyH_take (i := 1) (v := ?_) rfl (by kernel_rfl) (by kernel_rfl) (by kernel_rfl) (fun _ _ _ h => h) (Or.inl ⟨by rfl, ?_⟩) (by assumption) ?_
  rotate_left
  · (intro w hSw; (try dsimp only at hSw); go_simp; try with_reducible rfl)
  try simp only [List.getElem_toArray, List.getElem_cons_zero, List.getElem_cons_succ, Act.put, List.setIfInBounds_toArray, List.set_cons_zero, List.set_cons_succ]
  refine wpAnyH_take (i := 2) (v := ?_) rfl (by kernel_rfl) (by kernel_rfl) (by kernel_rfl) (fun _ _ _ h => h) (Or.inl ⟨by rfl, ?_⟩) (by assumption) ?_
  rotate_left
  · (intro w hSw; (try dsimp only at hSw); go_simp; try with_reducible rfl)
  try simp only [List.getElem_toArray, List.getElem_cons_zero, List.getElem_cons_succ, Act.put, List.setIfInBounds_toArray, List.set_cons_zero, List.set_cons_succ]
  refine wpAnyH_take (i := 3) (v := ?_) rfl (by kernel_rfl) (by kernel_rfl) (by kernel_rfl) (fun _ _ _ h => h) (Or.inl ⟨by rfl, ?_⟩) (by assumption) ?_
  rotate_left
  · (intro w hSw; (try dsimp only at hSw); go_simp; try with_reducible rfl)
  try simp only [List.getElem_toArray, List.getElem_cons_zero, List.getElem_cons_succ, Act.put, List.setIfInBounds_toArray, List.set_cons_zero, List.set_cons_succ]
  refine wpAnyH_take (i := 4) (v := ?_) rfl (by kernel_rfl) (by kernel_rfl) (by kernel_rfl) (fun _ _ _ h => h) (Or.inl ⟨by rfl, ?_⟩) (by assumption) ?_
  rotate_left
  · (intro w hSw; (try dsimp only at hSw); go_simp; try with_reducible rfl)
  try simp only [List.getElem_toArray, List.getElem_cons_zero, List.getElem_cons_succ, Act.put, List.setIfInBounds_toArray, List.set_cons_zero, List.set_cons_succ]
  refine wpAnyH_take (i := 5) (v := ?_) rfl (by kernel_rfl) (by kernel_rfl) (by kernel_rfl) (fun _ _ _ h => h) (Or.inl ⟨by rfl, ?_⟩) (by assumption) ?_
  rotate_left
  · (intro w hSw; (try dsimp only at hSw); go_simp; try with_reducible rfl)
  try simp only [List.getElem_toArray, List.getElem_cons_zero, List.getElem_cons_succ, Act.put, List.setIfInBounds_toArray, List.set_cons_zero, List.set_cons_succ]
  refine wpAnyH_take (i := 6) (v := ?_) rfl (by kernel_rfl) (by kernel_rfl) (by kernel_rfl) (fun _ _ _ h => h) (Or.inl ⟨by rfl, ?_⟩) (by assumption) ?_
  rotate_left
  · (intro w hSw; (try dsimp only at hSw); go_simp; try with_reducible rfl)
  try simp only [List.getElem_toArray, List.getElem_cons_zero, List.getElem_cons_succ, Act.put, List.setIfInBounds_toArray, List.set_cons_zero, List.set_cons_succ]
  refine wpAnyH_take (i := 7) (v := ?_) rfl (by kernel_rfl) (by kernel_rfl) (by kernel_rfl) (fun _ _ _ h => h) (Or.inl ⟨by rfl, ?_⟩) (by assumption) ?_
  rotate_left
  · (intro w hSw; (try dsimp only at hSw); go_simp; try with_reducible rfl)
  try simp only [List.getElem_toArray, List.getElem_cons_zero, List.getElem_cons_succ, Act.put, List.setIfInBounds_toArray, List.set_cons_zero, List.set_cons_succ]
  refine wpAnyH_take (i := 8) (v := ?_) rfl (by kernel_rfl) (by kernel_rfl) (by kernel_rfl) (fun _ _ _ h => h) (Or.inl ⟨by rfl, ?_⟩) (by assumption) ?_
  rotate_left
  · (intro w hSw; (try dsimp only at hSw); go_simp; try with_reducible rfl)
  try simp only [List.getElem_toArray, List.getElem_cons_zero, List.getElem_cons_succ, Act.put, List.setIfInBounds_toArray, List.set_cons_zero, List.set_cons_succ]
  refine wpAnyH_take (i := 9) (v := ?_) rfl (by kernel_rfl) (by kernel_rfl) (by kernel_rfl) (fun _ _ _ h => h) (Or.inl ⟨by rfl, ?_⟩) (by assumption) ?_
  rotate_left
  · (intro w hSw; (try dsimp only at hSw); go_simp; try with_reducible rfl)
  try simp only [List.getElem_toArray, List.getElem_cons_zero, List.getElem_cons_succ, Act.put, List.setIfInBounds_toArray, List.set_cons_zero, List.set_cons_succ]
  refine wpAnyH_ready (rs := [10]) (by kernel_rfl) (by simp) ?_
  refine AllReadyH.cons (o := _) rfl (fun K hK => ?_) AllReadyH.nil
  go_simp
  refine (HL.out _ (H.out.below B2.out.drew)).mono ?_
  rintro e W3 ⟨rfl, hb⟩
  have hb' : Below W2.heap.size W2 W3 := (Below.refl _ _).drew.trans hb
  go_wp2_with fail
  refine hK.out _ _ (KC.out _ hb') (fun hHeld2 => ?_)
  clear hK K hHeld hb
  try simp only [List.getElem_toArray, List.getElem_cons_zero, List.getElem_cons_succ, Act.put, List.setIfInBounds_toArray, List.set_cons_zero, List.set_cons_succ]
  refine wpAnyH_take (i := 11) (v := ?_) rfl (by kernel_rfl) (by kernel_rfl) (by kernel_rfl) (fun _ _ _ h => h) (Or.inl ⟨by rfl, ?_⟩) (by assumption) ?_
  rotate_left
  · (intro w hSw; (try dsimp only at hSw); go_simp; try with_reducible rfl)
  try simp only [List.getElem_toArray, List.getElem_cons_zero, List.getElem_cons_succ, Act.put, List.setIfInBounds_toArray, List.set_cons_zero, List.set_cons_succ]
  refine wpAnyH_take (i := 12) (v := ?_) rfl (by kernel_rfl) (by kernel_rfl) (by kernel_rfl) (fun _ _ _ h => h) (Or.inl ⟨by rfl, ?_⟩) (by assumption) ?_
  rotate_left
  · (intro w hSw; (try dsimp only at hSw); go_simp; try with_reducible rfl)
  try simp only [List.getElem_toArray, List.getElem_cons_zero, List.getElem_cons_succ, Act.put, List.setIfInBounds_toArray, List.set_cons_zero, List.set_cons_succ]
  refine wpAnyH_take (i := 13) (v := ?_) rfl (by kernel_rfl) (by kernel_rfl) (by kernel_rfl) (fun _ _ _ h => h) (Or.inl ⟨by rfl, ?_⟩) (by assumption) ?_
  rotate_left
  · (intro w hSw; (try dsimp only at hSw); go_simp; try with_reducible rfl)
  try simp only [List.getElem_toArray, List.getElem_cons_zero, List.getElem_cons_succ, Act.put, List.setIfInBounds_toArray, List.set_cons_zero, List.set_cons_succ]
  refine wpAnyH_ready (rs := [14]) (by kernel_rfl) (by simp) ?_
  refine AllReadyH.cons (o := _) rfl (fun K hK => ?_) AllReadyH.nil
  have hr5 : W3.heap[w.heap.size + 2]? = some (.cells #[.int .i64 0, .int .i64 0, .int .i64 0, .int .u32 0, .int .i64 0, .int .i64 0, .bool false, .int .u32 0, .int .u32 0, .int .i64 0, .int .i64 0, .int .i64 0, .string ⟨#[]⟩, .string ⟨#[]⟩] 48 (0, 0)) := (hb'.block _ (Ca.lt_of_heap R2.out)).trans R2.out
  refine Ca.step_store_at rfl 48 _ _ rfl (w.heap.size + 2) 0 #[.int .i64 0, .int .i64 0, .int .i64 0, .int .u32 0, .int .i64 0, .int .i64 0, .bool false, .int .u32 0, .int .u32 0, .int .i64 0, .int .i64 0, .int .i64 0, .string ⟨#[]⟩, .string ⟨#[]⟩] #[.int .i64 k, .int .i64 ty, .int .i64 co, .int .u32 re, .int .i64 sp, .int .i64 dp, .bool ns, .int .u32 sq, .int .u32 ak, .int .i64 fl, .int .i64 wi, .int .i64 ur, .string (strOfNums lo), .string (strOfNums ds)] 48 rfl rfl hr5 (by kernel_rfl) (Nat.le_of_ble_eq_true (by kernel_rfl)) (by kernel_rfl) ?_
  intro W4 y1 y2 y3 y4
  have R4 : Hid (W4.heap[w.heap.size + 2]? = some (.cells #[.int .i64 k, .int .i64 ty, .int .i64 co, .int .u32 re, .int .i64 sp, .int .i64 dp, .bool ns, .int .u32 sq, .int .u32 ak, .int .i64 fl, .int .i64 wi, .int .i64 ur, .string (strOfNums lo), .string (strOfNums ds)] 48 (0, 0))) := by show _ = _; rw [← put_l4c k ty co re sp dp ns sq ak fl wi ur lo ds]; exact y1
  have P4 : Hid (W4.heap[w.heap.size]? = some (.cells #[.int .u32 0, .int .u32 0, .int .i64 0, .int .i64 0, .bool false, .slice none 0 0, .string ⟨#[]⟩] 25 (0, 0))) := (y2 _ (by omega)).trans ((hb'.block _ (Ca.lt_of_heap P2.out)).trans P2.out)
  have Q4 : Hid (W4.heap[w.heap.size + 1]? = some (.cells #[.int .u32 0, .int .u32 0, .int .i64 0, .int .i64 0, .bool false, .slice none 0 0, .string ⟨#[]⟩] 25 (0, 0))) := (y2 _ (by omega)).trans ((hb'.block _ (Ca.lt_of_heap Q2.out)).trans Q2.out)
  have I4 : Hid (W4.heap[g8]? = some (.cells #[.int .i64 tos, .int .i64 id, .int .i64 fr, .int .i64 ttl, .int .i64 pr, .int .u32 src, .int .u32 dst, .string (strOfNums io)] 51 (0, 0))) := (y2 _ (by have := N2.out; omega)).trans ((hb'.block _ (Ca.lt_of_heap I2.out)).trans I2.out)
  have B4 : Hid (Below w.heap.size w W4) := (B2.out.trans (hb'.mono B2.out.size)).trans (y4.mono (by omega))
  refine hK.out _ _ ⟨cells14g I4.out 5, cells14g I4.out 6, cells14g I4.out 4⟩ (fun hHeld3 => ?_)
  clear hK K hHeld2 hb' hr5 y1 y2 y3 y4 B2 P2 Q2 R2 I2 KC
  try simp only [List.getElem_toArray, List.getElem_cons_zero, List.getElem_cons_succ, Act.put, List.setIfInBounds_toArray, List.set_cons_zero, List.set_cons_succ]
  refine wpAnyH_take (i := 15) (v := ?_) rfl (by kernel_rfl) (by kernel_rfl) (by kernel_rfl) (fun _ _ _ h => h) (Or.inl ⟨by rfl, ?_⟩) (by assumption) ?_
  rotate_left
  · (intro w hSw; (try dsimp only at hSw); go_simp; try with_reducible rfl)
  try simp only [List.getElem_toArray, List.getElem_cons_zero, List.getElem_cons_succ, Act.put, List.setIfInBounds_toArray, List.set_cons_zero, List.set_cons_succ]
  clear hHeld3
  refine wpAnyH_done (by kernel_rfl) ?_ _
  have c13 := cells14g R4.out 13
  simp only [List.getElem?_toArray, List.getElem?_cons_succ, List.getElem?_cons_zero] at c13
  obtain ⟨cp, W5, hrun, hB5, hbel, hcp, hcpm⟩ := conv_text W4 ds hdf (by omega)
  have B5 : Hid (Below w.heap.size w W5) := B4.out.trans (hbel.mono B4.out.size)
  have R5 : Hid (W5.heap[w.heap.size + 2]? = some (.cells #[.int .i64 k, .int .i64 ty, .int .i64 co, .int .u32 re, .int .i64 sp, .int .i64 dp, .bool ns, .int .u32 sq, .int .u32 ak, .int .i64 fl, .int .i64 wi, .int .i64 ur, .string (strOfNums lo), .string (strOfNums ds)] 48 (0, 0))) := (hbel.block _ (Ca.lt_of_heap R4.out)).trans R4.out
  have P5 : Hid (W5.heap[w.heap.size]? = some (.cells #[.int .u32 0, .int .u32 0, .int .i64 0, .int .i64 0, .bool false, .slice none 0 0, .string ⟨#[]⟩] 25 (0, 0))) := (hbel.block _ (Ca.lt_of_heap P4.out)).trans P4.out
  have Q5 : Hid (W5.heap[w.heap.size + 1]? = some (.cells #[.int .u32 0, .int .u32 0, .int .i64 0, .int .i64 0, .bool false, .slice none 0 0, .string ⟨#[]⟩] 25 (0, 0))) := (hbel.block _ (Ca.lt_of_heap Q4.out)).trans Q4.out
  have I5 : Hid (W5.heap[g8]? = some (.cells #[.int .i64 tos, .int .i64 id, .int .i64 fr, .int .i64 ttl, .int .i64 pr, .int .u32 src, .int .u32 dst, .string (strOfNums io)] 51 (0, 0))) := (hbel.block _ (Ca.lt_of_heap I4.out)).trans I4.out
  have S5 : Hid _ := hB5
  have HCP : Hid _ := hcp
  have HCM : Hid _ := hcpm
  clear hB5 hbel hcp hcpm
  go_wp2_with fail
  refine (HR.out _ _ _ S5.out HCP.out HCM.out).mono ?_
  rintro e W6 ⟨oa, oc, rfl, hO6, hfar, hb⟩
  have O6 : Hid _ := hO6
  have HFR : Hid (∀ x, oa = some x → w.heap.size + 2 < x.block) := fun x e => by have h1 := hfar x e; have h2 := Ca.lt_of_heap R5.out; omega
  clear hO6 hfar
  have B6 : Hid (Below w.heap.size w W6) := B5.out.trans (hb.mono B5.out.size)
  have R6 : Hid (W6.heap[w.heap.size + 2]? = some (.cells #[.int .i64 k, .int .i64 ty, .int .i64 co, .int .u32 re, .int .i64 sp, .int .i64 dp, .bool ns, .int .u32 sq, .int .u32 ak, .int .i64 fl, .int .i64 wi, .int .i64 ur, .string (strOfNums lo), .string (strOfNums ds)] 48 (0, 0))) := (hb.block _ (Ca.lt_of_heap R5.out)).trans R5.out
  have P6 : Hid (W6.heap[w.heap.size]? = some (.cells #[.int .u32 0, .int .u32 0, .int .i64 0, .int .i64 0, .bool false, .slice none 0 0, .string ⟨#[]⟩] 25 (0, 0))) := (hb.block _ (Ca.lt_of_heap P5.out)).trans P5.out
  have Q6 : Hid (W6.heap[w.heap.size + 1]? = some (.cells #[.int .u32 0, .int .u32 0, .int .i64 0, .int .i64 0, .bool false, .slice none 0 0, .string ⟨#[]⟩] 25 (0, 0))) := (hb.block _ (Ca.lt_of_heap Q5.out)).trans Q5.out
  have I6 : Hid (W6.heap[g8]? = some (.cells #[.int .i64 tos, .int .i64 id, .int .i64 fr, .int .i64 ttl, .int .i64 pr, .int .u32 src, .int .u32 dst, .string (strOfNums io)] 51 (0, 0))) := (hb.block _ (Ca.lt_of_heap I5.out)).trans I5.out
  clear hb hrun c13 B4 R4 P4 Q4 I4 B5 R5 P5 Q5 I5 S5 HCP HR
  go_wp2_with (first
    | refine Ca.wpList_store_row rfl 25 _ _ rfl (w.heap.size + 1) #[.int .u32 0, .int .u32 0, .int .i64 0, .int .i64 0, .bool false, .slice none 0 0, .string ⟨#[]⟩] #[.int .u32 0, .int .u32 0, .int .i64 0, .int .i64 vni, .bool oam, .slice oa os.length oc, .string fs] 25 rfl rfl Q6.out (by kernel_rfl) rfl (by kernel_rfl) ?_
    | fail)
  intro W7 y1 y2 y3 y4
  have B7 : Hid (Below w.heap.size w W7) := B6.out.trans (y4.mono (by omega))
  have R7' : Hid (W7.heap[w.heap.size + 2]? = some (.cells #[.int .i64 k, .int .i64 ty, .int .i64 co, .int .u32 re, .int .i64 sp, .int .i64 dp, .bool ns, .int .u32 sq, .int .u32 ak, .int .i64 fl, .int .i64 wi, .int .i64 ur, .string (strOfNums lo), .string (strOfNums ds)] 48 (0, 0))) := (y2 _ (by omega)).trans R6.out
  have P7 : Hid (W7.heap[w.heap.size]? = some (.cells #[.int .u32 0, .int .u32 0, .int .i64 0, .int .i64 0, .bool false, .slice none 0 0, .string ⟨#[]⟩] 25 (0, 0))) := (y2 _ (by omega)).trans P6.out
  have Q7 : Hid (W7.heap[w.heap.size + 1]? = some (.cells #[.int .u32 0, .int .u32 0, .int .i64 0, .int .i64 vni, .bool oam, .slice oa os.length oc, .string fs] 25 (0, 0))) := y1
  have I7 : Hid (W7.heap[g8]? = some (.cells #[.int .i64 tos, .int .i64 id, .int .i64 fr, .int .i64 ttl, .int .i64 pr, .int .u32 src, .int .u32 dst, .string (strOfNums io)] 51 (0, 0))) := (y2 _ (by have := N2.out; omega)).trans I6.out
  have O7 : Hid _ := os_far2 O6.out y2 (fun x e => by have := HFR.out x e; omega)
  clear y1 y2 y3 y4 B6 R6 P6 Q6 I6 O6
  go_wp2_with fail
  have hA5 := cells14g I7.out 5
  have hA6 := cells14g I7.out 6
  have hA4 := cells14g R7'.out 4
  have hB0 := cells14g Q7.out 0
  have hB1 := cells14g Q7.out 1
  have hB2 := cells14g Q7.out 2
  simp only [List.getElem?_toArray, List.getElem?_cons_succ, List.getElem?_cons_zero] at hA5 hA6 hA4 hB0 hB1 hB2
  have hF0 := frozen_of_row W7 _ 0 _ _ Q7.out
  have hF1 := frozen_of_row W7 _ 1 _ _ Q7.out
  have hF2 := frozen_of_row W7 _ 2 _ _ Q7.out
  have hn1 : ¬ w.heap.size + 1 = g8 := by have := N2.out; omega
  have hn2 : ¬ g8 = w.heap.size + 1 := by have := N2.out; omega
  go_region
  clear hA5 hA6 hA4 hB0 hB1 hB2 hF0 hF1 hF2
  have Q8 : Hid ((((W7.setCell ⟨w.heap.size + 1, 0, none⟩ (.int .u32 src)).setCell ⟨w.heap.size + 1, 1, none⟩ (.int .u32 dst)).setCell ⟨w.heap.size + 1, 2, none⟩ (.int .i64 sp)).drew.heap[w.heap.size + 1]? = some (.cells #[.int .u32 src, .int .u32 dst, .int .i64 sp, .int .i64 vni, .bool oam, .slice oa os.length oc, .string fs] 25 (0, 0))) := Ca.row_setCell (Ca.row_setCell (Ca.row_setCell Q7.out 0 (.int .u32 src)) 1 (.int .u32 dst)) 2 (.int .i64 sp)
  have P8 : Hid ((((W7.setCell ⟨w.heap.size + 1, 0, none⟩ (.int .u32 src)).setCell ⟨w.heap.size + 1, 1, none⟩ (.int .u32 dst)).setCell ⟨w.heap.size + 1, 2, none⟩ (.int .i64 sp)).drew.heap[w.heap.size]? = some (.cells #[.int .u32 0, .int .u32 0, .int .i64 0, .int .i64 0, .bool false, .slice none 0 0, .string ⟨#[]⟩] 25 (0, 0))) := (Below.heap_setCell _ _ _ _ (show w.heap.size ≠ w.heap.size + 1 by omega)).trans ((Below.heap_setCell _ _ _ _ (show w.heap.size ≠ w.heap.size + 1 by omega)).trans ((Below.heap_setCell _ _ _ _ (show w.heap.size ≠ w.heap.size + 1 by omega)).trans P7.out))
  have B8 : Hid (Below w.heap.size w (((W7.setCell ⟨w.heap.size + 1, 0, none⟩ (.int .u32 src)).setCell ⟨w.heap.size + 1, 1, none⟩ (.int .u32 dst)).setCell ⟨w.heap.size + 1, 2, none⟩ (.int .i64 sp)).drew) := (((B7.out.setCell (show w.heap.size ≤ w.heap.size + 1 by omega) _).setCell (show w.heap.size ≤ w.heap.size + 1 by omega) _).setCell (show w.heap.size ≤ w.heap.size + 1 by omega) _).drew
  have O8 : Hid (OS (((W7.setCell ⟨w.heap.size + 1, 0, none⟩ (.int .u32 src)).setCell ⟨w.heap.size + 1, 1, none⟩ (.int .u32 dst)).setCell ⟨w.heap.size + 1, 2, none⟩ (.int .i64 sp)).drew oa os.length os) := os_far2 (os_far (os_far (os_far O7.out _ _ (fun x e => by have := HFR.out x e; show x.block ≠ w.heap.size + 1; omega)) _ _ (fun x e => by have := HFR.out x e; show x.block ≠ w.heap.size + 1; omega)) _ _ (fun x e => by have := HFR.out x e; show x.block ≠ w.heap.size + 1; omega)) (g := w.heap.size) (fun _ _ => rfl) (fun x e => by have := HFR.out x e; omega)
  obtain ⟨W8, hW⟩ : ∃ V, (((W7.setCell ⟨w.heap.size + 1, 0, none⟩ (.int .u32 src)).setCell ⟨w.heap.size + 1, 1, none⟩ (.int .u32 dst)).setCell ⟨w.heap.size + 1, 2, none⟩ (.int .i64 sp)).drew = V := ⟨_, rfl⟩
  rw [hW] at Q8 P8 B8 O8 ⊢
  clear hW B7 R7' P7 Q7 I7 O7
  obtain ⟨x0, x1, x2, x3, x4, x5, x6⟩ := seven Q8.out
  go_wp2_with fail
  refine (HE.out _ _ _ O8.out).mono ?_
  rintro e W9 ⟨a', cap', rfl, hB9, hb⟩
  have B9 : Hid (Below w.heap.size w W9) := B8.out.trans (hb.mono B8.out.size)
  have P9 : Hid (W9.heap[w.heap.size]? = some (.cells #[.int .u32 0, .int .u32 0, .int .i64 0, .int .i64 0, .bool false, .slice none 0 0, .string ⟨#[]⟩] 25 (0, 0))) := (hb.block _ (Ca.lt_of_heap P8.out)).trans P8.out
  have Q9 : Hid (W9.heap[w.heap.size + 1]? = some (.cells #[.int .u32 src, .int .u32 dst, .int .i64 sp, .int .i64 vni, .bool oam, .slice oa os.length oc, .string fs] 25 (0, 0))) := (hb.block _ (Ca.lt_of_heap Q8.out)).trans Q8.out
  have S9 : Hid _ := hB9
  have O9 : Hid _ := O8.out.below hb
  clear hb hB9 HE x0 x1 x2 x3 x4 x5 x6 B8 P8 Q8
  go_wp2_with fail
  refine (bequal_same _ _ S9.out (H.out.below B9.out)).mono ?_
  rintro e W10 ⟨rfl, rfl⟩
  obtain ⟨x0, x1, x2, x3, x4, x5, x6⟩ := seven Q9.out
  go_wp2_with (first
    | refine Ca.wpList_store_row rfl 25 _ _ rfl w.heap.size #[.int .u32 0, .int .u32 0, .int .i64 0, .int .i64 0, .bool false, .slice none 0 0, .string ⟨#[]⟩] #[.int .u32 src, .int .u32 dst, .int .i64 sp, .int .i64 vni, .bool oam, .slice oa os.length oc, .string fs] 25 rfl rfl P9.out (by kernel_rfl) rfl (by kernel_rfl) ?_
    | fail)
  intro W11 y1 y2 y3 y4
  have O11 : Hid _ := os_far2 O9.out y2 (fun x e => by have := HFR.out x e; omega)
  go_wp2
  simp only [Exit.jumpTo]
  exact bodyPost_ret (results_tb (p := 2) (u := 3) rfl _ _ w.heap.size _ rfl y1 rfl) rfl ⟨oa, oc, rfl, O11.out, B9.out.trans (y4.mono (Nat.le_refl _))⟩
end Go.Proofs.Ytgonckbdkgiddaa

namespace Go.Proofs.Ytgonckbdkgiddaa
open Go.RowKit
set_option maxRecDepth 20000
set_option linter.unusedSimpArgs false
theorem str_ne9 {xs zs : List Int} (hx : Fit xs) (hz : Fit zs) (h : xs ≠ zs) : ((strOfNums xs).toList == (strOfNums zs).toList) = false := by
  rw [Bool.eq_false_iff]
  intro he
  apply h
  rw [beq_iff_eq, ByteArray.toList_eq, ByteArray.toList_eq, strOfNums_data, strOfNums_data] at he
  have h1 : xs.length = zs.length := by simpa using congrArg List.length he
  refine List.ext_getElem h1 (fun i hi1 hi2 => ?_)
  have h2 := congrArg (fun l => l[i]?) he
  simp only [List.getElem?_map, List.getElem?_eq_getElem hi1, List.getElem?_eq_getElem hi2, Option.map_some, Option.some.injEq] at h2
  have a1 := hx i
  have a2 := hz i
  rw [List.getD_eq_getElem?_getD, List.getElem?_eq_getElem hi1, Option.getD_some] at a1
  rw [List.getD_eq_getElem?_getD, List.getElem?_eq_getElem hi2, Option.getD_some] at a2
  have h3 := congrArg UInt8.toNat h2
  simp only [UInt8.toNat_ofNat'] at h3
  omega
theorem bequal_other {W : World} {a a' : Option Addr} {n n' : Nat} {xs zs : List Int} (c c' : Nat) (h : BS W a n xs) (h' : BS W a' n' zs) (hne : xs ≠ zs) :
    Calls Try.prog 27 #[.slice a n c, .slice a' n' c'] W fun e w' => e = .returned (.bool false) ∧ w' = W := by
  have v1 := run_conv_bs (P := Try.prog) c h 26 9 5 Try.underlying26 Try.underlying5 Try.underlying9
  have v2 := run_conv_bs (P := Try.prog) c' h' 26 9 5 Try.underlying26 Try.underlying5 Try.underlying9
  have hq := str_ne9 h.fits h'.fits hne
  clear h h' hne
  generalize strOfNums xs = s at *
  generalize strOfNums zs = t at *
  go_enter Try.func27, Try.ntmps27
  go_wp2
  go_ret
  exact ⟨rfl, rfl⟩
set_option maxHeartbeats 4000000 in
theorem decap_ipbad (w : World) (a : Option Addr) (n cap : Nat) (zs : List Int) (h : BS w a n zs) (f : Int) (hf : (f != 0) = true) (sz tt : Int)
    (HI : Hid (∀ W, BS W a n zs → Calls Try.prog 24 #[.slice a n cap] W fun e w' => e = .returned (.tuple #[Ip.ip0, .int .i64 sz, .int .i64 tt, .int .i64 f]) ∧ Below W.heap.size W w')) :
    Calls Try.prog 10 #[.slice a n cap] w fun e w' => e = .returned (.tuple #[.agg #[.int .u32 0, .int .u32 0, .int .i64 0, .int .i64 0, .bool false, .slice none 0 0, .string ⟨#[]⟩], .int .i64 f]) ∧ Below w.heap.size w w' := by
  have H : Hid (BS w a n zs) := h
  have B0 : Hid (Below w.heap.size w (((w.alloc (.cells #[.int .u32 0, .int .u32 0, .int .i64 0, .int .i64 0, .bool false, .slice none 0 0, .string ⟨#[]⟩] 25)).alloc (.cells #[.int .u32 0, .int .u32 0, .int .i64 0, .int .i64 0, .bool false, .slice none 0 0, .string ⟨#[]⟩] 25)).alloc (.cells #[.int .i64 0, .int .i64 0, .int .i64 0, .int .u32 0, .int .i64 0, .int .i64 0, .bool false, .int .u32 0, .int .u32 0, .int .i64 0, .int .i64 0, .int .i64 0, .string ⟨#[]⟩, .string ⟨#[]⟩] 48))) := Ca.below3 w _ _ _
  have P0 : Hid ((((w.alloc (.cells #[.int .u32 0, .int .u32 0, .int .i64 0, .int .i64 0, .bool false, .slice none 0 0, .string ⟨#[]⟩] 25)).alloc (.cells #[.int .u32 0, .int .u32 0, .int .i64 0, .int .i64 0, .bool false, .slice none 0 0, .string ⟨#[]⟩] 25)).alloc (.cells #[.int .i64 0, .int .i64 0, .int .i64 0, .int .u32 0, .int .i64 0, .int .i64 0, .bool false, .int .u32 0, .int .u32 0, .int .i64 0, .int .i64 0, .int .i64 0, .string ⟨#[]⟩, .string ⟨#[]⟩] 48)).heap[w.heap.size]? = some (.cells #[.int .u32 0, .int .u32 0, .int .i64 0, .int .i64 0, .bool false, .slice none 0 0, .string ⟨#[]⟩] 25 (0, 0))) := Ca.three_first w _ _ _
  unfold Ip.ip0 at HI
  clear h
  go_enter Try.func10, Try.ntmps10
  go_wp2_with fail
  refine scope_from ?_
  go_wp2_with fail
  refine (HI.out _ (H.out.below B0.out)).mono ?_
  rintro e W1 ⟨rfl, hb⟩
  have B1 : Hid (Below w.heap.size w W1) := B0.out.trans (hb.mono B0.out.size)
  have P1 : Hid (W1.heap[w.heap.size]? = some (.cells #[.int .u32 0, .int .u32 0, .int .i64 0, .int .i64 0, .bool false, .slice none 0 0, .string ⟨#[]⟩] 25 (0, 0))) := (hb.block _ (Ca.lt_of_heap P0.out)).trans P0.out
  clear hb HI B0 P0
  have B2 : Hid (Below w.heap.size w (W1.alloc (.cells #[.int .i64 0, .int .i64 0, .int .i64 0, .int .i64 0, .int .i64 0, .int .u32 0, .int .u32 0, .string ⟨#[]⟩] 51))) := B1.out.alloc B1.out.size _
  have P2 : Hid ((W1.alloc (.cells #[.int .i64 0, .int .i64 0, .int .i64 0, .int .i64 0, .int .i64 0, .int .u32 0, .int .u32 0, .string ⟨#[]⟩] 51)).heap[w.heap.size]? = some (.cells #[.int .u32 0, .int .u32 0, .int .i64 0, .int .i64 0, .bool false, .slice none 0 0, .string ⟨#[]⟩] 25 (0, 0))) := ((below1 W1 _).block _ (Ca.lt_of_heap P1.out)).trans P1.out
  go_wp2_with fail
  go_step3
  show FromLabel _ _ _ _ _ _
  refine from_label rfl ?_
  go_wp2_with (first
    | refine Ca.wpList_store_row rfl 25 _ _ rfl w.heap.size #[.int .u32 0, .int .u32 0, .int .i64 0, .int .i64 0, .bool false, .slice none 0 0, .string ⟨#[]⟩] #[.int .u32 0, .int .u32 0, .int .i64 0, .int .i64 0, .bool false, .slice none 0 0, .string ⟨#[]⟩] 25 rfl rfl P2.out (by kernel_rfl) rfl (by kernel_rfl) ?_
    | fail)
  intro W11 y1 y2 y3 y4
  go_wp2
  simp only [Exit.jumpTo]
  exact bodyPost_ret (results_tb (p := 2) (u := 3) rfl _ _ w.heap.size _ rfl y1 rfl) rfl ⟨rfl, B2.out.trans (y4.mono (Nat.le_refl _))⟩
set_option maxHeartbeats 8000000 in
theorem decap_other (w : World) (b off n cap : Nat) (zs : List Int) (h : BS w (some ⟨b, off, none⟩) n zs) (hcap : n ≤ cap) (m T : Nat) (_hm : 0 < m) (hmT : m ≤ T) (hTn : T ≤ n) (hcm : ¬ cap = m)
    (tos id fr ttl pr src dst : Int) (io : List Int)
    (HI : Hid (∀ W, BS W (some ⟨b, off, none⟩) n zs → Calls Try.prog 24 #[.slice (some ⟨b, off, none⟩) n cap] W fun e w' => e = .returned (.tuple #[.agg #[.int .i64 tos, .int .i64 id, .int .i64 fr, .int .i64 ttl, .int .i64 pr, .int .u32 src, .int .u32 dst, .string (strOfNums io)], .int .i64 m, .int .i64 T, .int .i64 0]) ∧ Below W.heap.size W w'))
    (k ty co re sp dp : Int) (ns : Bool) (sq ak fl wi ur : Int) (lo ds : List Int) (hdf : Fit ds) (hdl : ds.length ≤ 100000)
    (HL : Hid (∀ W, BS W (some ⟨b, off, none⟩) n zs → Calls Try.prog 25 #[.int .u32 src, .int .u32 dst, .int .i64 pr, .slice (some ⟨b, off + m, none⟩) (T - m) (cap - m)] W fun e w' => e = .returned (.tuple #[.agg #[.int .i64 k, .int .i64 ty, .int .i64 co, .int .u32 re, .int .i64 sp, .int .i64 dp, .bool ns, .int .u32 sq, .int .u32 ak, .int .i64 fl, .int .i64 wi, .int .i64 ur, .string (strOfNums lo), .string (strOfNums ds)], .int .i64 0]) ∧ Below W.heap.size W w'))
    (vni : Int) (oam : Bool) (fs : ByteArray) (os : List Opt)
    (HR : Hid (∀ W g c, BS W (some ⟨g, 0, none⟩) ds.length ds → ds.length ≤ c → c ≤ 9223372036854775807 → Calls Try.prog 26 #[.slice (some ⟨g, 0, none⟩) ds.length c] W fun e w' => ∃ oa oc, e = .returned (.tuple #[.agg #[.int .u32 0, .int .u32 0, .int .i64 0, .int .i64 vni, .bool oam, .slice oa os.length oc, .string fs], .bool true]) ∧ OS w' oa os.length os ∧ (∀ x, oa = some x → W.heap.size ≤ x.block) ∧ Below W.heap.size W w'))
    (eB : List Int) (hne : eB ≠ zs) (HE : Hid (∀ W oa oc, OS W oa os.length os → Calls Try.prog 7 #[.agg #[.int .u32 src, .int .u32 dst, .int .i64 sp, .int .i64 vni, .bool oam, .slice oa os.length oc, .string fs]] W fun e w' => ∃ a' cap' f, e = .returned (.tuple #[.slice a' eB.length cap', .int .i64 f]) ∧ BS w' a' eB.length eB ∧ Below W.heap.size W w')) :
    Calls Try.prog 10 #[.slice (some ⟨b, off, none⟩) n cap] w fun e w' => e = .returned (.tuple #[.agg #[.int .u32 0, .int .u32 0, .int .i64 0, .int .i64 0, .bool false, .slice none 0 0, .string ⟨#[]⟩], .int .i64 70]) ∧ Below w.heap.size w w' := by
  have HNE : Hid _ := hne
  have H : Hid (BS w (some ⟨b, off, none⟩) n zs) := h
  have i1 : (m : Int) ≤ (T : Int) := by omega
  have i2 : (T : Int) ≤ (n : Int) := by omega
  have i3 : (n : Int) ≤ (cap : Int) := by omega
  have i4 : (T : Int) ≤ (cap : Int) := by omega
  have i5 : (m : Int) ≤ (cap : Int) := by omega
  have B0 : Hid (Below w.heap.size w (((w.alloc (.cells #[.int .u32 0, .int .u32 0, .int .i64 0, .int .i64 0, .bool false, .slice none 0 0, .string ⟨#[]⟩] 25)).alloc (.cells #[.int .u32 0, .int .u32 0, .int .i64 0, .int .i64 0, .bool false, .slice none 0 0, .string ⟨#[]⟩] 25)).alloc (.cells #[.int .i64 0, .int .i64 0, .int .i64 0, .int .u32 0, .int .i64 0, .int .i64 0, .bool false, .int .u32 0, .int .u32 0, .int .i64 0, .int .i64 0, .int .i64 0, .string ⟨#[]⟩, .string ⟨#[]⟩] 48))) := Ca.below3 w _ _ _
  have P0 : Hid ((((w.alloc (.cells #[.int .u32 0, .int .u32 0, .int .i64 0, .int .i64 0, .bool false, .slice none 0 0, .string ⟨#[]⟩] 25)).alloc (.cells #[.int .u32 0, .int .u32 0, .int .i64 0, .int .i64 0, .bool false, .slice none 0 0, .string ⟨#[]⟩] 25)).alloc (.cells #[.int .i64 0, .int .i64 0, .int .i64 0, .int .u32 0, .int .i64 0, .int .i64 0, .bool false, .int .u32 0, .int .u32 0, .int .i64 0, .int .i64 0, .int .i64 0, .string ⟨#[]⟩, .string ⟨#[]⟩] 48)).heap[w.heap.size]? = some (.cells #[.int .u32 0, .int .u32 0, .int .i64 0, .int .i64 0, .bool false, .slice none 0 0, .string ⟨#[]⟩] 25 (0, 0))) := Ca.three_first w _ _ _
  have Q0 : Hid ((((w.alloc (.cells #[.int .u32 0, .int .u32 0, .int .i64 0, .int .i64 0, .bool false, .slice none 0 0, .string ⟨#[]⟩] 25)).alloc (.cells #[.int .u32 0, .int .u32 0, .int .i64 0, .int .i64 0, .bool false, .slice none 0 0, .string ⟨#[]⟩] 25)).alloc (.cells #[.int .i64 0, .int .i64 0, .int .i64 0, .int .u32 0, .int .i64 0, .int .i64 0, .bool false, .int .u32 0, .int .u32 0, .int .i64 0, .int .i64 0, .int .i64 0, .string ⟨#[]⟩, .string ⟨#[]⟩] 48)).heap[w.heap.size + 1]? = some (.cells #[.int .u32 0, .int .u32 0, .int .i64 0, .int .i64 0, .bool false, .slice none 0 0, .string ⟨#[]⟩] 25 (0, 0))) := three_mid w _ _ _
  have R0 : Hid ((((w.alloc (.cells #[.int .u32 0, .int .u32 0, .int .i64 0, .int .i64 0, .bool false, .slice none 0 0, .string ⟨#[]⟩] 25)).alloc (.cells #[.int .u32 0, .int .u32 0, .int .i64 0, .int .i64 0, .bool false, .slice none 0 0, .string ⟨#[]⟩] 25)).alloc (.cells #[.int .i64 0, .int .i64 0, .int .i64 0, .int .u32 0, .int .i64 0, .int .i64 0, .bool false, .int .u32 0, .int .u32 0, .int .i64 0, .int .i64 0, .int .i64 0, .string ⟨#[]⟩, .string ⟨#[]⟩] 48)).heap[w.heap.size + 2]? = some (.cells #[.int .i64 0, .int .i64 0, .int .i64 0, .int .u32 0, .int .i64 0, .int .i64 0, .bool false, .int .u32 0, .int .u32 0, .int .i64 0, .int .i64 0, .int .i64 0, .string ⟨#[]⟩, .string ⟨#[]⟩] 48 (0, 0))) := three_lastg w _ _ _
  clear h
  go_enter Try.func10, Try.ntmps10
  go_wp2_with fail
  refine scope_from ?_
  go_wp2_with fail
  refine (HI.out _ (H.out.below B0.out)).mono ?_
  rintro e W1 ⟨rfl, hb⟩
  have B1 : Hid (Below w.heap.size w W1) := B0.out.trans (hb.mono B0.out.size)
  have P1 : Hid (W1.heap[w.heap.size]? = some (.cells #[.int .u32 0, .int .u32 0, .int .i64 0, .int .i64 0, .bool false, .slice none 0 0, .string ⟨#[]⟩] 25 (0, 0))) := (hb.block _ (Ca.lt_of_heap P0.out)).trans P0.out
  have Q1 : Hid (W1.heap[w.heap.size + 1]? = some (.cells #[.int .u32 0, .int .u32 0, .int .i64 0, .int .i64 0, .bool false, .slice none 0 0, .string ⟨#[]⟩] 25 (0, 0))) := (hb.block _ (Ca.lt_of_heap Q0.out)).trans Q0.out
  have R1 : Hid (W1.heap[w.heap.size + 2]? = some (.cells #[.int .i64 0, .int .i64 0, .int .i64 0, .int .u32 0, .int .i64 0, .int .i64 0, .bool false, .int .u32 0, .int .u32 0, .int .i64 0, .int .i64 0, .int .i64 0, .string ⟨#[]⟩, .string ⟨#[]⟩] 48 (0, 0))) := (hb.block _ (Ca.lt_of_heap R0.out)).trans R0.out
  clear hb HI B0 P0 Q0 R0
  go_wp2_with fail
  have hbA := below1 W1 (.cells #[.int .i64 tos, .int .i64 id, .int .i64 fr, .int .i64 ttl, .int .i64 pr, .int .u32 src, .int .u32 dst, .string (strOfNums io)] 51)
  have B2 : Hid (Below w.heap.size w (W1.alloc (.cells #[.int .i64 tos, .int .i64 id, .int .i64 fr, .int .i64 ttl, .int .i64 pr, .int .u32 src, .int .u32 dst, .string (strOfNums io)] 51))) := B1.out.trans (hbA.mono B1.out.size)
  have P2 : Hid ((W1.alloc (.cells #[.int .i64 tos, .int .i64 id, .int .i64 fr, .int .i64 ttl, .int .i64 pr, .int .u32 src, .int .u32 dst, .string (strOfNums io)] 51)).heap[w.heap.size]? = some (.cells #[.int .u32 0, .int .u32 0, .int .i64 0, .int .i64 0, .bool false, .slice none 0 0, .string ⟨#[]⟩] 25 (0, 0))) := (hbA.block _ (Ca.lt_of_heap P1.out)).trans P1.out
  have Q2 : Hid ((W1.alloc (.cells #[.int .i64 tos, .int .i64 id, .int .i64 fr, .int .i64 ttl, .int .i64 pr, .int .u32 src, .int .u32 dst, .string (strOfNums io)] 51)).heap[w.heap.size + 1]? = some (.cells #[.int .u32 0, .int .u32 0, .int .i64 0, .int .i64 0, .bool false, .slice none 0 0, .string ⟨#[]⟩] 25 (0, 0))) := (hbA.block _ (Ca.lt_of_heap Q1.out)).trans Q1.out
  have R2 : Hid ((W1.alloc (.cells #[.int .i64 tos, .int .i64 id, .int .i64 fr, .int .i64 ttl, .int .i64 pr, .int .u32 src, .int .u32 dst, .string (strOfNums io)] 51)).heap[w.heap.size + 2]? = some (.cells #[.int .i64 0, .int .i64 0, .int .i64 0, .int .u32 0, .int .i64 0, .int .i64 0, .bool false, .int .u32 0, .int .u32 0, .int .i64 0, .int .i64 0, .int .i64 0, .string ⟨#[]⟩, .string ⟨#[]⟩] 48 (0, 0))) := (hbA.block _ (Ca.lt_of_heap R1.out)).trans R1.out
  have I2 : Hid ((W1.alloc (.cells #[.int .i64 tos, .int .i64 id, .int .i64 fr, .int .i64 ttl, .int .i64 pr, .int .u32 src, .int .u32 dst, .string (strOfNums io)] 51)).heap[W1.heap.size]? = some (.cells #[.int .i64 tos, .int .i64 id, .int .i64 fr, .int .i64 ttl, .int .i64 pr, .int .u32 src, .int .u32 dst, .string (strOfNums io)] 51 (0, 0))) := heap_alloc_new W1 _
  have N2 : Hid (w.heap.size + 2 < W1.heap.size) := Ca.lt_of_heap R1.out
  obtain ⟨W2, hW⟩ : ∃ V, W1.alloc (.cells #[.int .i64 tos, .int .i64 id, .int .i64 fr, .int .i64 ttl, .int .i64 pr, .int .u32 src, .int .u32 dst, .string (strOfNums io)] 51) = V := ⟨_, rfl⟩
  obtain ⟨g8, hg⟩ : ∃ V, W1.heap.size = V := ⟨_, rfl⟩
  rw [hW] at B2 P2 Q2 R2 I2 ⊢
  rw [hg] at I2 N2 ⊢
  clear hW hg hbA B1 P1 Q1 R1
  have KC : Hid (∀ W, Below W2.heap.size W2 W → W.cell? ⟨g8, 5, none⟩ = some (.int .u32 src) ∧ W.cell? ⟨g8, 6, none⟩ = some (.int .u32 dst) ∧ W.cell? ⟨g8, 4, none⟩ = some (.int .i64 pr)) := fun W hb => by
    have e := (hb.block _ (Ca.lt_of_heap I2.out)).trans I2.out
    exact ⟨cells14g e 5, cells14g e 6, cells14g e 4⟩
  refine wp_region_held_drew (S := (fun W => W.cell? ⟨g8, 5, none⟩ = some (.int .u32 src) ∧ W.cell? ⟨g8, 6, none⟩ = some (.int .u32 dst) ∧ W.cell? ⟨g8, 4, none⟩ = some (.int .i64 pr))) (by kernel_rfl) ?_ (fun hHeld => ?_)
  · exact KC.out _ (Below.refl _ _).drew
  refine wpAnyH_take (i := 0) (v := ?_) rfl (by kernel_rfl) (by kernel_rfl) (by kernel_rfl) (fun _ _ _ h => h) (Or.inl ⟨by rfl, ?_⟩) (by assumption) ?_
  rotate_left
  · (intro w hSw; (try dsimp only at hSw); go_simp; try with_reducible rfl)
  try simp only [List.getElem_toArray, List.getElem_cons_zero, List.getElem_cons_succ, Act.put, List.setIfInBounds_toArray, List.set_cons_zero, List.set_cons_succ]
  refine wpAnyH_take (i := 1) (v := ?_) rfl (by kernel_rfl) (by kernel_rfl) (by kernel_rfl) (fun _ _ _ h => h) (Or.inl ⟨by rfl, ?_⟩) (by assumption) ?_
  rotate_left
  · (intro w hSw; (try dsimp only at hSw); go_simp; try with_reducible rfl)
  try simp only [List.getElem_toArray, List.getElem_cons_zero, List.getElem_cons_succ, Act.put, List.setIfInBounds_toArray, List.set_cons_zero, List.set_cons_succ]
  refine wpAnyH_take (i := 2) (v := ?_) rfl (by kernel_rfl) (by kernel_rfl) (by kernel_rfl) (fun _ _ _ h => h) (Or.inl ⟨by rfl, ?_⟩) (by assumption) ?_
  rotate_left
  · (intro w hSw; (try dsimp only at hSw); go_simp; try with_reducible rfl)
  try simp only [List.getElem_toArray, List.getElem_cons_zero, List.getElem_cons_succ, Act.put, List.setIfInBounds_toArray, List.set_cons_zero, List.set_cons_succ]
  refine wpAnyH_take (i := 3) (v := ?_) rfl (by kernel_rfl) (by kernel_rfl) (by kernel_rfl) (fun _ _ _ h => h) (Or.inl ⟨by rfl, ?_⟩) (by assumption) ?_
  rotate_left
  · (intro w hSw; (try dsimp only at hSw); go_simp; try with_reducible rfl)
  try simp only [List.getElem_toArray, List.getElem_cons_zero, List.getElem_cons_succ, Act.put, List.setIfInBounds_toArray, List.set_cons_zero, List.set_cons_succ]
  refine wpAnyH_take (i := 4) (v := ?_) rfl (by kernel_rfl) (by kernel_rfl) (by kernel_rfl) (fun _ _ _ h => h) (Or.inl ⟨by rfl, ?_⟩) (by assumption) ?_
  rotate_left
  · (intro w hSw; (try dsimp only at hSw); go_simp; try with_reducible rfl)
  try simp only [List.getElem_toArray, List.getElem_cons_zero, List.getElem_cons_succ, Act.put, List.setIfInBounds_toArray, List.set_cons_zero, List.set_cons_succ]
  refine wpAnyH_take (i := 5) (v := ?_) rfl (by kernel_rfl) (by kernel_rfl) (by kernel_rfl) (fun _ _ _ h => h) (Or.inl ⟨by rfl, ?_⟩) (by assumption) ?_
  rotate_left
  · (intro w hSw; (try dsimp only at hSw); go_simp; try with_reducible rfl)
  try simp only [List.getElem_toArray, List.getElem_cons_zero, List.getElem_cons_succ, Act.put, List.setIfInBounds_toArray, List.set_cons_zero, List.set_cons_succ]
  refine wpAnyH_take (i := 6) (v := ?_) rfl (by kernel_rfl) (by kernel_rfl) (by kernel_rfl) (fun _ _ _ h => h) (Or.inl ⟨by rfl, ?_⟩) (by assumption) ?_
  rotate_left
  · (intro w hSw; (try dsimp only at hSw); go_simp; try with_reducible rfl)
  try simp only [List.getElem_toArray, List.getElem_cons_zero, List.getElem_cons_succ, Act.put, List.setIfInBounds_toArray, List.set_cons_zero, List.set_cons_succ]
  refine wpAnyH_take (i := 7) (v := ?_) rfl (by kernel_rfl) (by kernel_rfl) (by kernel_rfl) (fun _ _ _ h => h) (Or.inl ⟨by rfl, ?_⟩) (by assumption) ?_
  rotate_left
  · (intro w hSw; (try dsimp only at hSw); go_simp; try with_reducible rfl)
  try simp only [List.getElem_toArray, List.getElem_cons_zero, List.getElem_cons_succ, Act.put, List.setIfInBounds_toArray, List.set_cons_zero, List.set_cons_succ]
  refine wpAnyH_take (i := 8) (v := ?_) rfl (by kernel_rfl) (by kernel_rfl) (by kernel_rfl) (fun _ _ _ h => h) (Or.inl ⟨by rfl, ?_⟩) (by assumption) ?_
  rotate_left
  · (intro w hSw; (try dsimp only at hSw); go_simp; try with_reducible rfl)
  try simp only [List.getElem_toArray, List.getElem_cons_zero, List.getElem_cons_succ, Act.put, List.setIfInBounds_toArray, List.set_cons_zero, List.set_cons_succ]
  refine wpAnyH_take (i := 9) (v := ?_) rfl (by kernel_rfl) (by kernel_rfl) (by kernel_rfl) (fun _ _ _ h => h) (Or.inl ⟨by rfl, ?_⟩) (by assumption) ?_
  rotate_left
  · (intro w hSw; (try dsimp only at hSw); go_simp; try with_reducible rfl)
  try simp only [List.getElem_toArray, List.getElem_cons_zero, List.getElem_cons_succ, Act.put, List.setIfInBounds_toArray, List.set_cons_zero, List.set_cons_succ]
  refine wpAnyH_ready (rs := [10]) (by kernel_rfl) (by simp) ?_
  refine AllReadyH.cons (o := _) rfl (fun K hK => ?_) AllReadyH.nil
  go_simp
  refine (HL.out _ (H.out.below B2.out.drew)).mono ?_
  rintro e W3 ⟨rfl, hb⟩
  have hb' : Below W2.heap.size W2 W3 := (Below.refl _ _).drew.trans hb
  go_wp2_with fail
  refine hK.out _ _ (KC.out _ hb') (fun hHeld2 => ?_)
  clear hK K hHeld hb
  try simp only [List.getElem_toArray, List.getElem_cons_zero, List.getElem_cons_succ, Act.put, List.setIfInBounds_toArray, List.set_cons_zero, List.set_cons_succ]
  refine wpAnyH_take (i := 11) (v := ?_) rfl (by kernel_rfl) (by kernel_rfl) (by kernel_rfl) (fun _ _ _ h => h) (Or.inl ⟨by rfl, ?_⟩) (by assumption) ?_
  rotate_left
  · (intro w hSw; (try dsimp only at hSw); go_simp; try with_reducible rfl)
  try simp only [List.getElem_toArray, List.getElem_cons_zero, List.getElem_cons_succ, Act.put, List.setIfInBounds_toArray, List.set_cons_zero, List.set_cons_succ]
  refine wpAnyH_take (i := 12) (v := ?_) rfl (by kernel_rfl) (by kernel_rfl) (by kernel_rfl) (fun _ _ _ h => h) (Or.inl ⟨by rfl, ?_⟩) (by assumption) ?_
  rotate_left
  · (intro w hSw; (try dsimp only at hSw); go_simp; try with_reducible rfl)
  try simp only [List.getElem_toArray, List.getElem_cons_zero, List.getElem_cons_succ, Act.put, List.setIfInBounds_toArray, List.set_cons_zero, List.set_cons_succ]
  refine wpAnyH_take (i := 13) (v := ?_) rfl (by kernel_rfl) (by kernel_rfl) (by kernel_rfl) (fun _ _ _ h => h) (Or.inl ⟨by rfl, ?_⟩) (by assumption) ?_
  rotate_left
  · (intro w hSw; (try dsimp only at hSw); go_simp; try with_reducible rfl)
  try simp only [List.getElem_toArray, List.getElem_cons_zero, List.getElem_cons_succ, Act.put, List.setIfInBounds_toArray, List.set_cons_zero, List.set_cons_succ]
  refine wpAnyH_ready (rs := [14]) (by kernel_rfl) (by simp) ?_
  refine AllReadyH.cons (o := _) rfl (fun K hK => ?_) AllReadyH.nil
  have hr5 : W3.heap[w.heap.size + 2]? = some (.cells #[.int .i64 0, .int .i64 0, .int .i64 0, .int .u32 0, .int .i64 0, .int .i64 0, .bool false, .int .u32 0, .int .u32 0, .int .i64 0, .int .i64 0, .int .i64 0, .string ⟨#[]⟩, .string ⟨#[]⟩] 48 (0, 0)) := (hb'.block _ (Ca.lt_of_heap R2.out)).trans R2.out
  refine Ca.step_store_at rfl 48 _ _ rfl (w.heap.size + 2) 0 #[.int .i64 0, .int .i64 0, .int .i64 0, .int .u32 0, .int .i64 0, .int .i64 0, .bool false, .int .u32 0, .int .u32 0, .int .i64 0, .int .i64 0, .int .i64 0, .string ⟨#[]⟩, .string ⟨#[]⟩] #[.int .i64 k, .int .i64 ty, .int .i64 co, .int .u32 re, .int .i64 sp, .int .i64 dp, .bool ns, .int .u32 sq, .int .u32 ak, .int .i64 fl, .int .i64 wi, .int .i64 ur, .string (strOfNums lo), .string (strOfNums ds)] 48 rfl rfl hr5 (by kernel_rfl) (Nat.le_of_ble_eq_true (by kernel_rfl)) (by kernel_rfl) ?_
  intro W4 y1 y2 y3 y4
  have R4 : Hid (W4.heap[w.heap.size + 2]? = some (.cells #[.int .i64 k, .int .i64 ty, .int .i64 co, .int .u32 re, .int .i64 sp, .int .i64 dp, .bool ns, .int .u32 sq, .int .u32 ak, .int .i64 fl, .int .i64 wi, .int .i64 ur, .string (strOfNums lo), .string (strOfNums ds)] 48 (0, 0))) := by show _ = _; rw [← put_l4c k ty co re sp dp ns sq ak fl wi ur lo ds]; exact y1
  have P4 : Hid (W4.heap[w.heap.size]? = some (.cells #[.int .u32 0, .int .u32 0, .int .i64 0, .int .i64 0, .bool false, .slice none 0 0, .string ⟨#[]⟩] 25 (0, 0))) := (y2 _ (by omega)).trans ((hb'.block _ (Ca.lt_of_heap P2.out)).trans P2.out)
  have Q4 : Hid (W4.heap[w.heap.size + 1]? = some (.cells #[.int .u32 0, .int .u32 0, .int .i64 0, .int .i64 0, .bool false, .slice none 0 0, .string ⟨#[]⟩] 25 (0, 0))) := (y2 _ (by omega)).trans ((hb'.block _ (Ca.lt_of_heap Q2.out)).trans Q2.out)
  have I4 : Hid (W4.heap[g8]? = some (.cells #[.int .i64 tos, .int .i64 id, .int .i64 fr, .int .i64 ttl, .int .i64 pr, .int .u32 src, .int .u32 dst, .string (strOfNums io)] 51 (0, 0))) := (y2 _ (by have := N2.out; omega)).trans ((hb'.block _ (Ca.lt_of_heap I2.out)).trans I2.out)
  have B4 : Hid (Below w.heap.size w W4) := (B2.out.trans (hb'.mono B2.out.size)).trans (y4.mono (by omega))
  refine hK.out _ _ ⟨cells14g I4.out 5, cells14g I4.out 6, cells14g I4.out 4⟩ (fun hHeld3 => ?_)
  clear hK K hHeld2 hb' hr5 y1 y2 y3 y4 B2 P2 Q2 R2 I2 KC
  try simp only [List.getElem_toArray, List.getElem_cons_zero, List.getElem_cons_succ, Act.put, List.setIfInBounds_toArray, List.set_cons_zero, List.set_cons_succ]
  refine wpAnyH_take (i := 15) (v := ?_) rfl (by kernel_rfl) (by kernel_rfl) (by kernel_rfl) (fun _ _ _ h => h) (Or.inl ⟨by rfl, ?_⟩) (by assumption) ?_
  rotate_left
  · (intro w hSw; (try dsimp only at hSw); go_simp; try with_reducible rfl)
  try simp only [List.getElem_toArray, List.getElem_cons_zero, List.getElem_cons_succ, Act.put, List.setIfInBounds_toArray, List.set_cons_zero, List.set_cons_succ]
  clear hHeld3
  refine wpAnyH_done (by kernel_rfl) ?_ _
  have c13 := cells14g R4.out 13
  simp only [List.getElem?_toArray, List.getElem?_cons_succ, List.getElem?_cons_zero] at c13
  obtain ⟨cp, W5, hrun, hB5, hbel, hcp, hcpm⟩ := conv_text W4 ds hdf (by omega)
  have B5 : Hid (Below w.heap.size w W5) := B4.out.trans (hbel.mono B4.out.size)
  have R5 : Hid (W5.heap[w.heap.size + 2]? = some (.cells #[.int .i64 k, .int .i64 ty, .int .i64 co, .int .u32 re, .int .i64 sp, .int .i64 dp, .bool ns, .int .u32 sq, .int .u32 ak, .int .i64 fl, .int .i64 wi, .int .i64 ur, .string (strOfNums lo), .string (strOfNums ds)] 48 (0, 0))) := (hbel.block _ (Ca.lt_of_heap R4.out)).trans R4.out
  have P5 : Hid (W5.heap[w.heap.size]? = some (.cells #[.int .u32 0, .int .u32 0, .int .i64 0, .int .i64 0, .bool false, .slice none 0 0, .string ⟨#[]⟩] 25 (0, 0))) := (hbel.block _ (Ca.lt_of_heap P4.out)).trans P4.out
  have Q5 : Hid (W5.heap[w.heap.size + 1]? = some (.cells #[.int .u32 0, .int .u32 0, .int .i64 0, .int .i64 0, .bool false, .slice none 0 0, .string ⟨#[]⟩] 25 (0, 0))) := (hbel.block _ (Ca.lt_of_heap Q4.out)).trans Q4.out
  have I5 : Hid (W5.heap[g8]? = some (.cells #[.int .i64 tos, .int .i64 id, .int .i64 fr, .int .i64 ttl, .int .i64 pr, .int .u32 src, .int .u32 dst, .string (strOfNums io)] 51 (0, 0))) := (hbel.block _ (Ca.lt_of_heap I4.out)).trans I4.out
  have S5 : Hid _ := hB5
  have HCP : Hid _ := hcp
  have HCM : Hid _ := hcpm
  clear hB5 hbel hcp hcpm
  go_wp2_with fail
  refine (HR.out _ _ _ S5.out HCP.out HCM.out).mono ?_
  rintro e W6 ⟨oa, oc, rfl, hO6, hfar, hb⟩
  have O6 : Hid _ := hO6
  have HFR : Hid (∀ x, oa = some x → w.heap.size + 2 < x.block) := fun x e => by have h1 := hfar x e; have h2 := Ca.lt_of_heap R5.out; omega
  clear hO6 hfar
  have B6 : Hid (Below w.heap.size w W6) := B5.out.trans (hb.mono B5.out.size)
  have R6 : Hid (W6.heap[w.heap.size + 2]? = some (.cells #[.int .i64 k, .int .i64 ty, .int .i64 co, .int .u32 re, .int .i64 sp, .int .i64 dp, .bool ns, .int .u32 sq, .int .u32 ak, .int .i64 fl, .int .i64 wi, .int .i64 ur, .string (strOfNums lo), .string (strOfNums ds)] 48 (0, 0))) := (hb.block _ (Ca.lt_of_heap R5.out)).trans R5.out
  have P6 : Hid (W6.heap[w.heap.size]? = some (.cells #[.int .u32 0, .int .u32 0, .int .i64 0, .int .i64 0, .bool false, .slice none 0 0, .string ⟨#[]⟩] 25 (0, 0))) := (hb.block _ (Ca.lt_of_heap P5.out)).trans P5.out
  have Q6 : Hid (W6.heap[w.heap.size + 1]? = some (.cells #[.int .u32 0, .int .u32 0, .int .i64 0, .int .i64 0, .bool false, .slice none 0 0, .string ⟨#[]⟩] 25 (0, 0))) := (hb.block _ (Ca.lt_of_heap Q5.out)).trans Q5.out
  have I6 : Hid (W6.heap[g8]? = some (.cells #[.int .i64 tos, .int .i64 id, .int .i64 fr, .int .i64 ttl, .int .i64 pr, .int .u32 src, .int .u32 dst, .string (strOfNums io)] 51 (0, 0))) := (hb.block _ (Ca.lt_of_heap I5.out)).trans I5.out
  clear hb hrun c13 B4 R4 P4 Q4 I4 B5 R5 P5 Q5 I5 S5 HCP HR
  go_wp2_with (first
    | refine Ca.wpList_store_row rfl 25 _ _ rfl (w.heap.size + 1) #[.int .u32 0, .int .u32 0, .int .i64 0, .int .i64 0, .bool false, .slice none 0 0, .string ⟨#[]⟩] #[.int .u32 0, .int .u32 0, .int .i64 0, .int .i64 vni, .bool oam, .slice oa os.length oc, .string fs] 25 rfl rfl Q6.out (by kernel_rfl) rfl (by kernel_rfl) ?_
    | fail)
  intro W7 y1 y2 y3 y4
  have B7 : Hid (Below w.heap.size w W7) := B6.out.trans (y4.mono (by omega))
  have R7' : Hid (W7.heap[w.heap.size + 2]? = some (.cells #[.int .i64 k, .int .i64 ty, .int .i64 co, .int .u32 re, .int .i64 sp, .int .i64 dp, .bool ns, .int .u32 sq, .int .u32 ak, .int .i64 fl, .int .i64 wi, .int .i64 ur, .string (strOfNums lo), .string (strOfNums ds)] 48 (0, 0))) := (y2 _ (by omega)).trans R6.out
  have P7 : Hid (W7.heap[w.heap.size]? = some (.cells #[.int .u32 0, .int .u32 0, .int .i64 0, .int .i64 0, .bool false, .slice none 0 0, .string ⟨#[]⟩] 25 (0, 0))) := (y2 _ (by omega)).trans P6.out
  have Q7 : Hid (W7.heap[w.heap.size + 1]? = some (.cells #[.int .u32 0, .int .u32 0, .int .i64 0, .int .i64 vni, .bool oam, .slice oa os.length oc, .string fs] 25 (0, 0))) := y1
  have I7 : Hid (W7.heap[g8]? = some (.cells #[.int .i64 tos, .int .i64 id, .int .i64 fr, .int .i64 ttl, .int .i64 pr, .int .u32 src, .int .u32 dst, .string (strOfNums io)] 51 (0, 0))) := (y2 _ (by have := N2.out; omega)).trans I6.out
  have O7 : Hid _ := os_far2 O6.out y2 (fun x e => by have := HFR.out x e; omega)
  clear y1 y2 y3 y4 B6 R6 P6 Q6 I6 O6
  go_wp2_with fail
  have hA5 := cells14g I7.out 5
  have hA6 := cells14g I7.out 6
  have hA4 := cells14g R7'.out 4
  have hB0 := cells14g Q7.out 0
  have hB1 := cells14g Q7.out 1
  have hB2 := cells14g Q7.out 2
  simp only [List.getElem?_toArray, List.getElem?_cons_succ, List.getElem?_cons_zero] at hA5 hA6 hA4 hB0 hB1 hB2
  have hF0 := frozen_of_row W7 _ 0 _ _ Q7.out
  have hF1 := frozen_of_row W7 _ 1 _ _ Q7.out
  have hF2 := frozen_of_row W7 _ 2 _ _ Q7.out
  have hn1 : ¬ w.heap.size + 1 = g8 := by have := N2.out; omega
  have hn2 : ¬ g8 = w.heap.size + 1 := by have := N2.out; omega
  go_region
  clear hA5 hA6 hA4 hB0 hB1 hB2 hF0 hF1 hF2
  have Q8 : Hid ((((W7.setCell ⟨w.heap.size + 1, 0, none⟩ (.int .u32 src)).setCell ⟨w.heap.size + 1, 1, none⟩ (.int .u32 dst)).setCell ⟨w.heap.size + 1, 2, none⟩ (.int .i64 sp)).drew.heap[w.heap.size + 1]? = some (.cells #[.int .u32 src, .int .u32 dst, .int .i64 sp, .int .i64 vni, .bool oam, .slice oa os.length oc, .string fs] 25 (0, 0))) := Ca.row_setCell (Ca.row_setCell (Ca.row_setCell Q7.out 0 (.int .u32 src)) 1 (.int .u32 dst)) 2 (.int .i64 sp)
  have P8 : Hid ((((W7.setCell ⟨w.heap.size + 1, 0, none⟩ (.int .u32 src)).setCell ⟨w.heap.size + 1, 1, none⟩ (.int .u32 dst)).setCell ⟨w.heap.size + 1, 2, none⟩ (.int .i64 sp)).drew.heap[w.heap.size]? = some (.cells #[.int .u32 0, .int .u32 0, .int .i64 0, .int .i64 0, .bool false, .slice none 0 0, .string ⟨#[]⟩] 25 (0, 0))) := (Below.heap_setCell _ _ _ _ (show w.heap.size ≠ w.heap.size + 1 by omega)).trans ((Below.heap_setCell _ _ _ _ (show w.heap.size ≠ w.heap.size + 1 by omega)).trans ((Below.heap_setCell _ _ _ _ (show w.heap.size ≠ w.heap.size + 1 by omega)).trans P7.out))
  have B8 : Hid (Below w.heap.size w (((W7.setCell ⟨w.heap.size + 1, 0, none⟩ (.int .u32 src)).setCell ⟨w.heap.size + 1, 1, none⟩ (.int .u32 dst)).setCell ⟨w.heap.size + 1, 2, none⟩ (.int .i64 sp)).drew) := (((B7.out.setCell (show w.heap.size ≤ w.heap.size + 1 by omega) _).setCell (show w.heap.size ≤ w.heap.size + 1 by omega) _).setCell (show w.heap.size ≤ w.heap.size + 1 by omega) _).drew
  have O8 : Hid (OS (((W7.setCell ⟨w.heap.size + 1, 0, none⟩ (.int .u32 src)).setCell ⟨w.heap.size + 1, 1, none⟩ (.int .u32 dst)).setCell ⟨w.heap.size + 1, 2, none⟩ (.int .i64 sp)).drew oa os.length os) := os_far2 (os_far (os_far (os_far O7.out _ _ (fun x e => by have := HFR.out x e; show x.block ≠ w.heap.size + 1; omega)) _ _ (fun x e => by have := HFR.out x e; show x.block ≠ w.heap.size + 1; omega)) _ _ (fun x e => by have := HFR.out x e; show x.block ≠ w.heap.size + 1; omega)) (g := w.heap.size) (fun _ _ => rfl) (fun x e => by have := HFR.out x e; omega)
  obtain ⟨W8, hW⟩ : ∃ V, (((W7.setCell ⟨w.heap.size + 1, 0, none⟩ (.int .u32 src)).setCell ⟨w.heap.size + 1, 1, none⟩ (.int .u32 dst)).setCell ⟨w.heap.size + 1, 2, none⟩ (.int .i64 sp)).drew = V := ⟨_, rfl⟩
  rw [hW] at Q8 P8 B8 O8 ⊢
  clear hW B7 R7' P7 Q7 I7 O7
  obtain ⟨x0, x1, x2, x3, x4, x5, x6⟩ := seven Q8.out
  go_wp2_with fail
  refine (HE.out _ _ _ O8.out).mono ?_
  rintro e W9 ⟨a', cap', f, rfl, hB9, hb⟩
  have B9 : Hid (Below w.heap.size w W9) := B8.out.trans (hb.mono B8.out.size)
  have P9 : Hid (W9.heap[w.heap.size]? = some (.cells #[.int .u32 0, .int .u32 0, .int .i64 0, .int .i64 0, .bool false, .slice none 0 0, .string ⟨#[]⟩] 25 (0, 0))) := (hb.block _ (Ca.lt_of_heap P8.out)).trans P8.out
  have Q9 : Hid (W9.heap[w.heap.size + 1]? = some (.cells #[.int .u32 src, .int .u32 dst, .int .i64 sp, .int .i64 vni, .bool oam, .slice oa os.length oc, .string fs] 25 (0, 0))) := (hb.block _ (Ca.lt_of_heap Q8.out)).trans Q8.out
  have S9 : Hid _ := hB9
  have O9 : Hid _ := O8.out.below hb
  clear hb hB9 HE x0 x1 x2 x3 x4 x5 x6 B8 P8 Q8
  go_wp2_with fail
  refine (bequal_other _ _ S9.out (H.out.below B9.out) HNE.out).mono ?_
  rintro e W10 ⟨rfl, rfl⟩
  go_wp2_with fail
  go_step3
  show FromLabel _ _ _ _ _ _
  refine from_label rfl ?_
  go_wp2_with (first
    | refine Ca.wpList_store_row rfl 25 _ _ rfl w.heap.size #[.int .u32 0, .int .u32 0, .int .i64 0, .int .i64 0, .bool false, .slice none 0 0, .string ⟨#[]⟩] #[.int .u32 0, .int .u32 0, .int .i64 0, .int .i64 0, .bool false, .slice none 0 0, .string ⟨#[]⟩] 25 rfl rfl P9.out (by kernel_rfl) rfl (by kernel_rfl) ?_
    | fail)
  intro W11 y1 y2 y3 y4
  go_wp2
  simp only [Exit.jumpTo]
  exact bodyPost_ret (results_tb (p := 2) (u := 3) rfl _ _ w.heap.size _ rfl y1 rfl) rfl ⟨rfl, B9.out.trans (y4.mono (Nat.le_refl _))⟩
end Go.Proofs.Ytgonckbdkgiddaa

namespace Go.Proofs.Ytgonckbdkgiddaa
open Go.RowKit

/-- The bytes of a packet with a check sum: its head's zeros there, its reading. -/
structure L4R.Shape (x : L4R) (src dst : Int) : Prop where
  at0 : x.body.getD (chkAt x.k) 0 = 0
  at1 : x.body.getD (chkAt x.k + 1) 0 = 0
  len : chkAt x.k + 1 < x.body.length
  msr : msrV x.k (x.enc src dst) = 0
  back : readR x.k (x.enc src dst) = x

theorem L4R.shape {x : L4R} (hf : x.Fine) (hok : x.ok = true) (hk : x.k ≠ 0) (src dst : Int) (hs : 0 ≤ src) (ht : 0 ≤ dst) : x.Shape src dst := by
  have o := L4R.okOf hok
  have hB := L4R.body_fits hf
  obtain ⟨k, ty, co, re, sp, dp, ns, sq, ak, fl, wi, ur, os, ds⟩ := x
  have hall : fixV k + (os.length : Int) + ds.length ≤ 65515 := o.all
  rcases o.kind with h | h | h | h
  · exact absurd h.1 hk
  · obtain ⟨h1, h2, h3, h4, h5, h6, h7, h8, h9, h10⟩ := h
    simp only at h1 h2 h3 h4 h5 h6 h7 h8 h9 h10
    subst h1 h2 h3 h4 h5 h6 h7 h8 h9 h10
    have hb := body_icmp ty co re 0 0 false 0 0 0 0 0 ds
    have he : (L4R.mk 1 ty co re 0 0 false 0 0 0 0 0 [] ds).enc src dst = icmpL ty co re (chkC src dst 1 (icmpL ty co re 0 ds)) ds := by
      unfold L4R.enc
      rw [if_neg (by simp), hb]
      exact setC_icmp _ _ _ _ _ _
    refine ⟨by rw [hb]; rfl, by rw [hb]; rfl, by rw [hb]; simp [icmpL, chkAt], ?_, ?_⟩
    · rw [he]; exact msr_icmpL _ _ _ _ _
    · rw [he]; exact read_icmpL ty co re _ ds o.ty o.co hf.re
  · obtain ⟨h1, h2, h3, h4, h5, h6, h7, h8, h9, h10⟩ := h
    simp only at h1 h2 h3 h4 h5 h6 h7 h8 h9 h10
    subst h1 h2 h3 h4 h5 h6 h7 h8 h9 h10
    have hb := body_udp 0 0 0 sp dp ns 0 0 0 0 0 ds
    have hd : ds.length ≤ 65507 := by
      rw [show fixV 2 = 8 from rfl] at hall
      simp at hall; omega
    have hc := chkC_udp src dst _ hs ht hB
    refine ⟨by rw [hb]; rfl, by rw [hb]; rfl, by rw [hb]; simp [udpL, chkAt], ?_, ?_⟩
    · unfold L4R.enc
      split
      · rw [hb]; exact msr_udpL sp dp 0 ds hd
      · rw [hb, setC_udp]; exact msr_udpL sp dp _ ds hd
    · unfold L4R.enc
      cases ns
      · rw [hb] at hc
        rw [if_neg (by simp), hb, setC_udp, read_udpL sp dp _ _ ds o.sp o.dp]
        have : (chkC src dst 2 (udpL sp dp (8 + (ds.length : Int)) 0 ds) == 0) = false := by simp; omega
        rw [this]
      · rw [if_pos (.inr rfl), hb, read_udpL sp dp _ _ ds o.sp o.dp]
        rfl
  · obtain ⟨h1, h2, h3, h4, h5⟩ := h
    simp only at h1 h2 h3 h4 h5
    subst h1 h2 h3 h4 h5
    have hb := body_tcp 0 0 0 sp dp false sq ak fl wi ur os ds
    have he : (L4R.mk 3 0 0 0 sp dp false sq ak fl wi ur os ds).enc src dst = tcpL sp dp sq ak ((20 + (os.length : Int)) / 4 * 4096 + fl) wi ur (chkC src dst 3 (tcpL sp dp sq ak ((20 + (os.length : Int)) / 4 * 4096 + fl) wi ur 0 os ds)) os ds := by
      unfold L4R.enc
      rw [if_neg (by simp), hb]
      exact setC_tcp _ _ _ _ _ _ _ _ _ _ _
    refine ⟨by rw [hb]; rfl, by rw [hb]; rfl, by rw [hb]; simp [tcpL, chkAt], ?_, ?_⟩
    · rw [he]; exact msr_tcpL sp dp sq ak fl wi ur _ os ds o.fl o.opts o.four
    · rw [he]; exact read_tcpL sp dp sq ak fl wi ur _ os ds o.sp o.dp hf.sq hf.ak o.fl o.wi o.ur o.opts o.four

theorem extra_pos (o dst n : Int) (ho : 0 ≤ o) (hd : 0 ≤ dst) (_h1 : 0 ≤ n) (_h2 : n ≤ 65535) : 0 < extra o dst 3 n := by
  unfold extra
  rw [if_neg (by decide)]
  unfold psd
  refine fld_pos _ ?_
  rw [show protoN 3 = 6 from rfl]
  omega

/-- A packet whose check sum is asked is right of these addresses, and of others where they add up to the same. -/
theorem L4R.right {x : L4R} (hf : x.Fine) (hok : x.ok = true) (hk : x.k ≠ 0) (hn : x.ns = false) (src dst o : Int) (hs : 0 ≤ src) (ht : 0 ≤ dst) (ho : 0 ≤ o) :
    rightV o dst x.k (x.enc src dst) = true ↔ extra o dst x.k x.body.length % 65535 = extra src dst x.k x.body.length % 65535 := by
  have hB := L4R.body_fits hf
  have s := L4R.shape hf hok hk src dst hs ht
  have q := L4R.okOf hok
  have he : x.enc src dst = setC src dst x.k x.body := by
    unfold L4R.enc; rw [if_neg (by rw [hn]; simp [hk])]
  have hp : 0 < wsum x.body ∨ 0 < chkC src dst x.k x.body ∨ 0 < extra o dst x.k x.body.length := by
    rcases q.kind with h | h | h | h
    · exact absurd h.1 hk
    · have hw := wsum_bd hB
      rcases (by omega : 0 < wsum x.body ∨ wsum x.body = 0) with h0 | h0
      · exact .inl h0
      · right; left
        unfold chkC
        rw [h.1, if_neg (by omega)]
        unfold sumV
        rw [if_pos rfl, h0]
        decide
    · right; left
      have := chkC_udp src dst x.body hs ht hB
      rw [h.1]; exact this
    · right; right
      have hl := x.body_len
      have ha := q.all
      rw [h.1]
      exact extra_pos o dst _ ho ht (by omega) (by omega)
  have hm := sum_setC src dst x.k o x.body hs ht ho hB s.len s.at0 s.at1 hp
  have hz : x.k = 2 → ¬ ((x.enc src dst).getD 6 0 * 256 + (x.enc src dst).getD 7 0 = 0) := by
    intro h2
    have hc := chkC_udp src dst x.body hs ht hB
    have hl := s.len
    rw [he, h2]
    rw [h2] at hl
    unfold setC
    rw [show chkAt 2 = 6 from rfl] at hl ⊢
    have g7 : ((x.body.set 6 (chkC src dst 2 x.body / 256)).set (6 + 1) (chkC src dst 2 x.body % 256)).getD 7 0 = chkC src dst 2 x.body % 256 := by
      simp [List.getD_eq_getElem?_getD, hl]
    have g6 : ((x.body.set 6 (chkC src dst 2 x.body / 256)).set (6 + 1) (chkC src dst 2 x.body % 256)).getD 6 0 = chkC src dst 2 x.body / 256 := by
      simp [List.getD_eq_getElem?_getD, (by omega : 6 < x.body.length)]
    rw [g6, g7]
    omega
  unfold rightV
  rw [if_neg hk, if_neg (by rintro ⟨h2, h3⟩; exact hz h2 h3), he]
  rw [beq_iff_eq]
  exact hm

theorem dec_own {x : L4R} (hf : x.Fine) (hok : x.ok = true) (src dst : Int) (hs : 0 ≤ src) (ht : 0 ≤ dst) : decE src dst x.k (x.enc src dst) = 0 ∧ decR src dst x.k (x.enc src dst) = x := by
  by_cases hk : x.k = 0
  · obtain ⟨k, ty, co, re, sp, dp, ns, sq, ak, fl, wi, ur, os, ds⟩ := x
    rcases (L4R.okOf hok).kind with h | h | h | h
    · obtain ⟨h1, h2, h3, h4, h5, h6, h7, h8, h9, h10, h11, h12, h13⟩ := h
      simp only at h1 h2 h3 h4 h5 h6 h7 h8 h9 h10 h11 h12 h13
      subst h1 h2 h3 h4 h5 h6 h7 h8 h9 h10 h11 h12 h13
      have he : (L4R.mk 0 0 0 0 0 0 false 0 0 0 0 0 [] ds).enc src dst = ds := by
        unfold L4R.enc; rw [if_pos (.inl rfl)]; rfl
      have hm : msrV 0 ds = 0 := by
        unfold msrV
        rw [show fixV 0 = 0 from rfl, if_neg (by omega), if_neg (by decide), if_neg (by decide)]
      have hr : rightV src dst 0 ds = true := by unfold rightV; rw [if_pos rfl]
      rw [he]
      unfold decE decR
      rw [if_pos hm, hr, if_pos rfl, if_pos ⟨hm, rfl⟩]
      exact ⟨rfl, rfl⟩
    · exact absurd (hk.symm.trans h.1) (by decide)
    · exact absurd (hk.symm.trans h.1) (by decide)
    · exact absurd (hk.symm.trans h.1) (by decide)
  · have s := L4R.shape hf hok hk src dst hs ht
    have hr : rightV src dst x.k (x.enc src dst) = true := by
      cases hn : x.ns
      · exact (L4R.right hf hok hk hn src dst src hs ht hs).2 rfl
      · rcases (L4R.okOf hok).kind with h | h | h | h
        · exact absurd h.1 hk
        · rw [hn] at h; exact absurd h.2.2.2.1 (by decide)
        · unfold rightV
          rw [if_neg hk, if_pos]
          refine ⟨h.1, ?_⟩
          have he : x.enc src dst = x.body := by unfold L4R.enc; rw [if_pos (.inr hn)]
          have a0 := s.at0
          have a1 := s.at1
          rw [h.1, show chkAt 2 = 6 from rfl] at a0 a1
          rw [he, a0]
          have a1' : x.body.getD 7 0 = 0 := a1
          rw [a1']; rfl
        · rw [hn] at h; exact absurd h.2.2.2.2 (by decide)
    unfold decE decR
    rw [if_pos s.msr, hr, if_pos rfl, if_pos ⟨s.msr, rfl⟩]
    exact ⟨rfl, s.back⟩

theorem dec_other {x : L4R} (hf : x.Fine) (hok : x.ok = true) (hk : x.k = 2 ∨ x.k = 3) (src dst o : Int) (hs : 0 ≤ src) (ht : 0 ≤ dst) (ho : 0 ≤ o) :
    if x.ns = true ∨ psd src dst 0 0 % 65535 = psd o dst 0 0 % 65535 then decE o dst x.k (x.enc src dst) = 0 ∧ decR o dst x.k (x.enc src dst) = x else decE o dst x.k (x.enc src dst) = 30 ∧ decR o dst x.k (x.enc src dst) = zeroR := by
  have hk0 : x.k ≠ 0 := by omega
  have s := L4R.shape hf hok hk0 src dst hs ht
  cases hn : x.ns
  · have hr := L4R.right hf hok hk0 hn src dst o hs ht ho
    rw [extra_same src dst o x.k _ hk hs ht ho] at hr
    by_cases hp : psd src dst 0 0 % 65535 = psd o dst 0 0 % 65535
    · rw [if_pos (.inr hp)]
      have hr2 := hr.2 hp
      unfold decE decR
      rw [if_pos s.msr, hr2, if_pos rfl, if_pos ⟨s.msr, rfl⟩]
      exact ⟨rfl, s.back⟩
    · rw [if_neg (by simp [hp])]
      have hr2 : rightV o dst x.k (x.enc src dst) = false := by
        cases e : rightV o dst x.k (x.enc src dst)
        · rfl
        · exact absurd (hr.1 e) hp
      unfold decE decR
      rw [if_pos s.msr, hr2, if_neg (by simp), if_neg (by simp)]
      exact ⟨rfl, rfl⟩
  · rw [if_pos (.inl rfl)]
    rcases (L4R.okOf hok).kind with h | h | h | h
    · exact absurd h.1 hk0
    · rw [hn] at h; exact absurd h.2.2.2.1 (by decide)
    · have hr : rightV o dst x.k (x.enc src dst) = true := by
        unfold rightV
        rw [if_neg hk0, if_pos]
        refine ⟨h.1, ?_⟩
        have he : x.enc src dst = x.body := by unfold L4R.enc; rw [if_pos (.inr hn)]
        have a0 := s.at0
        have a1 := s.at1
        rw [h.1, show chkAt 2 = 6 from rfl] at a0 a1
        rw [he, a0]
        have a1' : x.body.getD 7 0 = 0 := a1
        rw [a1']; rfl
      unfold decE decR
      rw [if_pos s.msr, hr, if_pos rfl, if_pos ⟨s.msr, rfl⟩]
      exact ⟨rfl, s.back⟩
    · rw [hn] at h; exact absurd h.2.2.2.2 (by decide)
end Go.Proofs.Ytgonckbdkgiddaa

namespace Go.Proofs.Ytgonckbdkgiddaa
open Go.RowKit
set_option maxRecDepth 20000
theorem be1x (v : Int) (h0 : 0 ≤ v) (h1 : v ≤ 255) : be v 1 = [v] := by
  have h := be1 v
  rw [Int.emod_eq_of_lt h0 (by omega)] at h
  exact h
theorem be2x (v : Int) (h0 : 0 ≤ v) (h1 : v ≤ 65535) : be v 2 = [v / 256, v % 256] := by
  have h := be2 v
  rw [Int.emod_eq_of_lt (a := v / 256) (by omega) (by omega)] at h
  exact h
theorem opB_cons (o : Opt) (h1 : fit16 o.cls = true) (h2 : fit8 o.code = true) (h3 : o.data.length ≤ 124) : opB o = (o.cls / 256) :: (o.cls % 256) :: o.code :: ((o.data.length : Int) / 4) :: o.data := by
  have b1 := fit16_bd h1
  have b2 := fit8_bd h2
  unfold opB
  rw [be2x _ b1.1 b1.2, be1x _ b2.1 b2.2, be1x _ (by omega) (by omega)]
  rfl
theorem rd_back (os : List Opt) (hg : os.all optG = true) : rdO (opsB os) = some os := by
  induction os with
  | nil => rw [rdO_nil rfl]
  | cons o r ih =>
    rw [List.all_cons, Bool.and_eq_true] at hg
    have hgo : fit16 o.cls = true ∧ fit8 o.code = true ∧ o.data.length ≤ 124 ∧ o.data.length % 4 = 0 := by
      have := hg.1
      unfold optG at this
      simpa only [Bool.and_eq_true, decide_eq_true_eq] using this
    have hc := opB_cons o hgo.1 hgo.2.1 hgo.2.2.1
    have e : opsB (o :: r) = (o.cls / 256) :: (o.cls % 256) :: o.code :: ((o.data.length : Int) / 4) :: (o.data ++ opsB r) := by
      simp only [opsB, List.map_cons, List.flatten_cons]
      rw [hc]
      rfl
    have hs : sizO (opsB (o :: r)) = 4 + o.data.length := by
      unfold sizO
      rw [e]
      show (4 + (o.data.length : Int) / 4 % 32 * 4).toNat = _
      omega
    have hl : (opsB (o :: r)).length = 4 + o.data.length + (opsB r).length := by rw [e]; simp; omega
    rw [rdO_cons (by omega) (by omega), hs]
    have hd : (opsB (o :: r)).drop (4 + o.data.length) = opsB r := by
      rw [e, show 4 + o.data.length = o.data.length + 1 + 1 + 1 + 1 by omega]
      simp only [List.drop_succ_cons]
      exact List.drop_left
    have ho : optO (opsB (o :: r)) = o := by
      have b1 := fit16_bd hgo.1
      unfold optO
      rw [hs, e, show 4 + o.data.length - 4 = o.data.length by omega]
      have q1 : num [o.cls / 256, o.cls % 256] = o.cls := by
        have := Eth.num_be2 o.cls b1.1 b1.2
        rw [be2x _ b1.1 b1.2] at this
        exact this
      have q2 : (o.data ++ opsB r).take o.data.length = o.data := List.take_left
      simp only [List.take_succ_cons, List.take_zero, List.drop_succ_cons, List.drop_zero]
      rw [q1, q2]
      rfl
    rw [hd, ih hg.2, ho]
    rfl
end Go.Proofs.Ytgonckbdkgiddaa

namespace Go.Proofs.Ytgonckbdkgiddaa
open Go.RowKit
set_option maxRecDepth 20000
theorem szO_four (os : List Opt) (hg : os.all optG = true) : szO os % 4 = 0 := by
  induction os with
  | nil => rfl
  | cons o r ih =>
    rw [List.all_cons, Bool.and_eq_true] at hg
    have h1 := ih hg.2
    have h2 : o.data.length % 4 = 0 := by
      have := hg.1
      unfold optG at this
      simp only [Bool.and_eq_true, decide_eq_true_eq] at this
      exact this.2.2.2
    simp only [szO, List.map_cons, List.sum_cons] at h1 ⊢
    omega
theorem be_three (v : Int) : ∃ a b c, be v 3 = [a, b, c] := by
  have h := be_len v 3
  match be v 3, h with
  | [a, b, c], _ => exact ⟨a, b, c, rfl⟩
/-- The data, byte by byte. -/
theorem payB_cons (vni : Int) (oam : Bool) (os : List Opt) (fr : List Int) (hz : szO os ≤ 252) : payB vni oam os fr = (szO os / 4) :: flV oam (os.any critB) :: 101 :: 88 :: (be vni 3 ++ (0 :: (opsB os ++ fr))) := by
  have hf := flV_bd oam (os.any critB)
  have hn := szO_nn os
  unfold payB hdB
  rw [be1x _ (by omega) (by omega), be1x _ hf.1 (by omega), be2x 25944 (by decide) (by decide), be1x 0 (by decide) (by decide)]
  simp only [List.append_assoc, List.cons_append, List.nil_append]
  rfl
structure PayF (vni : Int) (oam : Bool) (os : List Opt) (fr : List Int) : Prop where
  beh : ((behD (payB vni oam os fr) : Nat) : Int) = 8 + szO os
  opts : rdO (optsD (payB vni oam os fr)) = some os
  qvni : num (((payB vni oam os fr).drop 4).take 3) = vni
  qoam : (bits .and .u8 ((payB vni oam os fr).getD 1 0) 128 != 0) = oam
  qfr : (payB vni oam os fr).drop (behD (payB vni oam os fr)) = fr
theorem pay_facts (vni : Int) (oam : Bool) (os : List Opt) (fr : List Int) (hv : 0 ≤ vni ∧ vni ≤ 16777215) (hg : os.all optG = true) (hz : szO os ≤ 252) : PayF vni oam os fr := by
  have e := payB_cons vni oam os fr hz
  have hn := szO_nn os
  have h4 := szO_four os hg
  obtain ⟨a, b, c, h3⟩ := be_three vni
  have hb : ((behD (payB vni oam os fr) : Nat) : Int) = 8 + szO os := by
    unfold behD
    rw [e]
    show (((8 + szO os / 4 % 64 * 4).toNat : Nat) : Int) = _
    omega
  have ho := opsB_len os
  have hB : behD (payB vni oam os fr) = (opsB os).length + 8 := by omega
  refine ⟨hb, ?_, ?_, ?_, ?_⟩
  · unfold optsD
    rw [hB, e, h3, show (opsB os).length + 8 - 8 = (opsB os).length by omega]
    show rdO ((opsB os ++ fr).take (opsB os).length) = _
    rw [List.take_left]
    exact rd_back os hg
  · rw [e, h3]
    show num [a, b, c] = vni
    rw [← h3]
    exact Eth.num_be 3 vni hv.1 (by rw [show (256 : Int) ^ 3 = 16777216 from by decide]; omega)
  · rw [e]
    show (bits .and .u8 (flV oam (os.any critB)) 128 != 0) = oam
    cases oam <;> cases os.any critB <;> decide +kernel
  · rw [hB, e, h3]
    show (opsB os ++ fr).drop (opsB os).length = fr
    exact List.drop_left
end Go.Proofs.Ytgonckbdkgiddaa

namespace Go.Proofs.Ytgonckbdkgiddaa
open Go.RowKit
set_option maxRecDepth 20000
set_option linter.unusedSimpArgs false
theorem udpB_len (sp vni : Int) (oam : Bool) (os : List Opt) (fr : List Int) : (udpB sp vni oam os fr).length = 8 + (payB vni oam os fr).length := udp_body_len sp _
theorem encB_len (src dst sp vni : Int) (oam : Bool) (os : List Opt) (fr : List Int) : (encB src dst sp vni oam os fr).length = 28 + (payB vni oam os fr).length := by
  unfold encB
  rw [List.length_append, udpB_len]
  show 20 + _ = _
  omega
theorem enc_split (src dst sp vni : Int) (oam : Bool) (os : List Opt) (fr more : List Int) : encB src dst sp vni oam os fr ++ more = Ip.ipB 0 0 16384 64 17 src dst [] ((udpB sp vni oam os fr).length : Int) ++ (udpB sp vni oam os fr ++ more) := by
  unfold encB; rw [List.append_assoc]
structure EncF (src dst sp vni : Int) (oam : Bool) (os : List Opt) (fr more : List Int) : Prop where
  len : (encB src dst sp vni oam os fr).length ≤ 10000
  mok : Ip.MOk (encB src dst sp vni oam os fr ++ more) ((encB src dst sp vni oam os fr ++ more).length : Int) 20
  tot : (encB src dst sp vni oam os fr ++ more).getD 2 0 * 256 + (encB src dst sp vni oam os fr ++ more).getD 3 0 = ((encB src dst sp vni oam os fr).length : Int)
  ipf : Ip.ipF (encB src dst sp vni oam os fr ++ more) 20 = .agg #[.int .i64 0, .int .i64 0, .int .i64 16384, .int .i64 64, .int .i64 17, .int .u32 src, .int .u32 dst, .string (strOfNums [])]
  cut : ((encB src dst sp vni oam os fr ++ more).drop 20).take ((encB src dst sp vni oam os fr).length - 20) = udpB sp vni oam os fr
  dec : decE src dst 2 (udpB sp vni oam os fr) = 0 ∧ decR src dst 2 (udpB sp vni oam os fr) = udpR sp (payB vni oam os fr)
theorem enc_facts (src dst sp vni : Int) (oam : Bool) (os : List Opt) (fr more : List Int) (hs : 0 ≤ src ∧ src ≤ 4294967295) (hd : 0 ≤ dst ∧ dst ≤ 4294967295) (hE : chkE sp vni os fr.length = 0) (hfo : ∀ o ∈ os, Fit o.data) (hff : Fit fr) : EncF src dst sp vni oam os fr more := by
  obtain ⟨p1, p2, p3, p4, p5⟩ := chk_parts hE
  have hpl := payB_len vni oam os fr
  have hsn := szO_nn os
  have hul := udpB_len sp vni oam os fr
  have hel := encB_len src dst sp vni oam os fr
  have hpf := payB_fit vni oam os fr hfo hff
  have hok : Ip.encOk 0 0 16384 64 17 ([] : List Int).length ((udpB sp vni oam os fr).length : Int) = true := by
    unfold Ip.encOk
    rw [show Ip.headOk 0 0 16384 64 17 ([] : List Int).length = true from by decide +kernel]
    simp; omega
  have hHF := Ip.encOk_yes hok
  have hil : (Ip.ipB 0 0 16384 64 17 src dst [] ((udpB sp vni oam os fr).length : Int)).length = 20 := rfl
  have hsp := enc_split src dst sp vni oam os fr more
  refine ⟨by omega, ?_, ?_, ?_, ?_, ?_⟩
  · rw [hsp]
    exact Ip.hb_msr _ _ hHF hs hd (fun i => by simp) (by rw [List.length_append, hil, List.length_append]; simp; omega)
  · rw [hsp, Ip.ipB_total]
    simp; omega
  · rw [hsp]
    exact Ip.hb_read ..
  · rw [hsp, show (20 : Nat) = (Ip.ipB 0 0 16384 64 17 src dst [] ((udpB sp vni oam os fr).length : Int)).length from rfl, List.drop_left, show (encB src dst sp vni oam os fr).length - (Ip.ipB 0 0 16384 64 17 src dst [] ((udpB sp vni oam os fr).length : Int)).length = (udpB sp vni oam os fr).length by rw [hil]; omega]
    exact List.take_left
  · exact dec_own (udp_fine sp _ hpf (by omega)) (udp_ok p1 _ (by omega)) src dst hs.1 hd.1
end Go.Proofs.Ytgonckbdkgiddaa

namespace Go.Proofs.Ytgonckbdkgiddaa
open Go.RowKit
set_option maxRecDepth 20000
set_option linter.unusedSimpArgs false
theorem decap_enc (w : World) (b off n cap : Nat) (src dst sp vni : Int) (oam : Bool) (os : List Opt) (fr more : List Int) (hs : 0 ≤ src ∧ src ≤ 4294967295) (hd : 0 ≤ dst ∧ dst ≤ 4294967295) (hE : chkE sp vni os fr.length = 0) (hfo : ∀ o ∈ os, Fit o.data) (hff : Fit fr) (h : BS w (some ⟨b, off, none⟩) n (encB src dst sp vni oam os fr ++ more)) (hcap : n ≤ cap) (hmo : more = []) :
    Calls Try.prog 10 #[.slice (some ⟨b, off, none⟩) n cap] w fun e w' => ∃ oa oc, e = .returned (.tuple #[.agg #[.int .u32 src, .int .u32 dst, .int .i64 sp, .int .i64 vni, .bool oam, .slice oa os.length oc, .string (strOfNums fr)], .int .i64 0]) ∧ OS w' oa os.length os ∧ Below w.heap.size w w' := by
  have F := enc_facts src dst sp vni oam os fr more hs hd hE hfo hff
  obtain ⟨p1, p2, p3, p4, p5⟩ := chk_parts hE
  have Y := pay_facts vni oam os fr p2 p3 p4
  have hpl := payB_len vni oam os fr
  have hsn := szO_nn os
  have hel := encB_len src dst sp vni oam os fr
  have hpf := payB_fit vni oam os fr hfo hff
  have hl : (encB src dst sp vni oam os fr).length + more.length = n := by have := h.len; rw [List.length_append] at this; exact this
  have hM := F.mok
  rw [show (encB src dst sp vni oam os fr ++ more).length = n from h.len] at hM
  obtain ⟨T, hT⟩ : ∃ T, (encB src dst sp vni oam os fr).length = T := ⟨_, rfl⟩
  have hcut := F.cut
  have htot := F.tot
  have hFl := F.len
  rw [hT] at hcut htot hFl hl hel
  have hn : T = n := by rw [hmo] at hl; simpa using hl
  refine decap_opts w b off n cap _ h hcap 20 T (by omega) (by omega) (by omega) (by omega) 0 0 16384 64 17 src dst [] (fun W hB => ?_) 2 0 0 0 sp 6081 true 0 0 0 0 0 [] (payB vni oam os fr) hpf (by omega) (fun W hB => ?_) vni oam (strOfNums fr) os (fun W g c hB hc hc2 => ?_) (fun W oa oc hO => ?_)
  · have := (Ip.decode_any W (some ⟨b, off, none⟩) n cap _ hB hcap).2 20 hM
    rw [htot, F.ipf] at this
    exact this
  · have hU : BS W (some ⟨b, off + 20, none⟩) (T - 20) (udpB sp vni oam os fr) := by
      rw [← hcut]
      exact (hB.drop (by omega) 20 (by omega)).take (T - 20) (by omega)
    have := decode_any src dst 17 hs hd (some ⟨b, off + 20, none⟩) (T - 20) (cap - 20) (udpB sp vni oam os fr) (by omega) (fun x e => ⟨b, off + 20, by cases e; rfl⟩) (fun e => by cases e) W hU
    rw [show kindV 17 = 2 from rfl, F.dec.1, F.dec.2] at this
    exact this
  · have := read_all g 0 (payB vni oam os fr).length c (payB vni oam os fr) W hB hc hc2 (by omega) (by have := Y.beh; omega) os Y.opts
    rw [Y.qvni, Y.qoam, Y.qfr] at this
    exact this
  · refine (encap_yes src dst sp vni oam oa os.length oc os fr W hO hE hs hd hff).mono ?_
    rintro e w' ⟨a', cap', rfl, ho, hb⟩
    rw [hT, hn] at ho ⊢
    refine ⟨a', cap', rfl, ?_, hb⟩
    rw [hmo, List.append_nil]
    refine own_bs ho ?_ h.room
    have := h.fits
    rw [hmo, List.append_nil] at this
    exact this
theorem decap_more (w : World) (b off n cap : Nat) (src dst sp vni : Int) (oam : Bool) (os : List Opt) (fr more : List Int) (hs : 0 ≤ src ∧ src ≤ 4294967295) (hd : 0 ≤ dst ∧ dst ≤ 4294967295) (hE : chkE sp vni os fr.length = 0) (hfo : ∀ o ∈ os, Fit o.data) (hff : Fit fr) (h : BS w (some ⟨b, off, none⟩) n (encB src dst sp vni oam os fr ++ more)) (hcap : n ≤ cap) (hmo : more ≠ []) :
    Calls Try.prog 10 #[.slice (some ⟨b, off, none⟩) n cap] w fun e w' => e = .returned (.tuple #[.agg #[.int .u32 0, .int .u32 0, .int .i64 0, .int .i64 0, .bool false, .slice none 0 0, .string ⟨#[]⟩], .int .i64 70]) ∧ Below w.heap.size w w' := by
  have F := enc_facts src dst sp vni oam os fr more hs hd hE hfo hff
  obtain ⟨p1, p2, p3, p4, p5⟩ := chk_parts hE
  have Y := pay_facts vni oam os fr p2 p3 p4
  have hpl := payB_len vni oam os fr
  have hsn := szO_nn os
  have hel := encB_len src dst sp vni oam os fr
  have hpf := payB_fit vni oam os fr hfo hff
  have hl : (encB src dst sp vni oam os fr).length + more.length = n := by have := h.len; rw [List.length_append] at this; exact this
  have hM := F.mok
  rw [show (encB src dst sp vni oam os fr ++ more).length = n from h.len] at hM
  obtain ⟨T, hT⟩ : ∃ T, (encB src dst sp vni oam os fr).length = T := ⟨_, rfl⟩
  have hcut := F.cut
  have htot := F.tot
  have hFl := F.len
  rw [hT] at hcut htot hFl hl hel
  refine decap_other w b off n cap _ h hcap 20 T (by omega) (by omega) (by omega) (by omega) 0 0 16384 64 17 src dst [] (fun W hB => ?_) 2 0 0 0 sp 6081 true 0 0 0 0 0 [] (payB vni oam os fr) hpf (by omega) (fun W hB => ?_) vni oam (strOfNums fr) os (fun W g c hB hc hc2 => ?_) (encB src dst sp vni oam os fr) (fun e => ?_) (fun W oa oc hO => ?_)
  · have := (Ip.decode_any W (some ⟨b, off, none⟩) n cap _ hB hcap).2 20 hM
    rw [htot, F.ipf] at this
    exact this
  · have hU : BS W (some ⟨b, off + 20, none⟩) (T - 20) (udpB sp vni oam os fr) := by
      rw [← hcut]
      exact (hB.drop (by omega) 20 (by omega)).take (T - 20) (by omega)
    have := decode_any src dst 17 hs hd (some ⟨b, off + 20, none⟩) (T - 20) (cap - 20) (udpB sp vni oam os fr) (by omega) (fun x e => ⟨b, off + 20, by cases e; rfl⟩) (fun e => by cases e) W hU
    rw [show kindV 17 = 2 from rfl, F.dec.1, F.dec.2] at this
    exact this
  · have := read_all g 0 (payB vni oam os fr).length c (payB vni oam os fr) W hB hc hc2 (by omega) (by have := Y.beh; omega) os Y.opts
    rw [Y.qvni, Y.qoam, Y.qfr] at this
    exact this
  · have := congrArg List.length e
    rw [List.length_append] at this
    have : more.length = 0 := by omega
    exact hmo (List.length_eq_zero_iff.1 this)
  · refine (encap_yes src dst sp vni oam oa os.length oc os fr W hO hE hs hd hff).mono ?_
    rintro e w' ⟨a', cap', rfl, ho, hb⟩
    refine ⟨a', cap', 0, rfl, own_bs ho ?_ (by omega), hb⟩
    have hq := h.fits
    intro i
    rcases Nat.lt_or_ge i (encB src dst sp vni oam os fr).length with h1 | h1
    · have := hq i
      rw [List.getD_eq_getElem?_getD, List.getElem?_append_left h1, ← List.getD_eq_getElem?_getD] at this
      exact this
    · rw [List.getD_eq_getElem?_getD, List.getElem?_eq_none h1]
      exact ⟨Int.le_refl _, by decide⟩
end Go.Proofs.Ytgonckbdkgiddaa
