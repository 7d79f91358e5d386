/- The document's Decap. Conditions: as said. -/
import Derived.Test.YtgonckbdkgiddaaQJC
import Derived.Test.YtgonckbdkgiddaaDN
namespace Go.Proofs.Ytgonckbdkgiddaa
open Go.RowKit
set_option maxRecDepth 20000
set_option linter.unusedSimpArgs false
theorem os_drew {W : World} {a : Option Addr} {n : Nat} {os : List Opt} (h : OS W a n os) : OS W.drew a n os := ⟨h.len, h.room, h.fits, h.cells⟩
theorem os_far0 {W : World} {g : Nat} {a : Option Addr} {os : List Opt} (h : OS W a os.length os) (hap : ∀ x, a = some x → x.block < g ∨ os.length = 0) (k : Nat) (v : Value) : OS (W.setCell ⟨g, k, none⟩ v) a os.length os := by
  rcases Nat.eq_zero_or_pos os.length with h0 | h0
  · have : os = [] := List.eq_nil_of_length_eq_zero h0
    subst this
    exact OS.empty _
  · exact os_far h _ _ (fun x e => by have := hap x e; show x.block ≠ g; omega)
/-- What the document's Decap answers, by what it meets. -/
def RAns (f : Int) (okb : Bool) (src dst sp vni : Int) (oam : Bool) (os : List Opt) (fr zs : List Int) (w : World) (e : Ending) (w' : World) : Prop :=
  Below w.heap.size w w' ∧ ((f ≠ 0 ∧ e = .returned (.tuple #[.agg #[.int .u32 0, .int .u32 0, .int .i64 0, .int .i64 0, .bool false, .slice none 0 0, .string ⟨#[]⟩], .int .i64 f])) ∨
    (f = 0 ∧ (okb = false ∨ chkE sp vni os fr.length ≠ 0 ∨ encB src dst sp vni oam os fr ≠ zs) ∧ e = .returned (.tuple #[.agg #[.int .u32 0, .int .u32 0, .int .i64 0, .int .i64 0, .bool false, .slice none 0 0, .string ⟨#[]⟩], .int .i64 70])) ∨
    (f = 0 ∧ okb = true ∧ chkE sp vni os fr.length = 0 ∧ encB src dst sp vni oam os fr = zs ∧ ∃ oa oc, e = .returned (.tuple #[.agg #[.int .u32 src, .int .u32 dst, .int .i64 sp, .int .i64 vni, .bool oam, .slice oa os.length oc, .string (strOfNums fr)], .int .i64 0]) ∧ OS w' oa os.length os))
set_option maxHeartbeats 4000000 in
theorem rdecap_ipbad (w : World) (a : Option Addr) (n cap : Nat) (zs : List Int) (h : BS w a n zs) (f : Int) (hf : (f != 0) = true) (sz tt : Int)
    (HI : Hid (∀ W, BS W a n zs → Calls Try.prog 28 #[.slice a n cap] W fun e w' => e = .returned (.tuple #[Ip.ip0, .int .i64 sz, .int .i64 tt, .int .i64 f]) ∧ Below W.heap.size W w')) :
    Calls Try.prog 12 #[.slice a n cap] w fun e w' => e = .returned (.tuple #[.agg #[.int .u32 0, .int .u32 0, .int .i64 0, .int .i64 0, .bool false, .slice none 0 0, .string ⟨#[]⟩], .int .i64 f]) ∧ Below w.heap.size w w' := by
  have H : Hid (BS w a n zs) := h
  unfold Ip.ip0 at HI
  clear h
  go_enter Try.func12, Try.ntmps12
  go_wp2_with fail
  refine (HI.out _ (H.out.below (below1 w _))).mono ?_
  rintro e W1 ⟨rfl, hb⟩
  have B1 : Hid (Below w.heap.size w W1) := (below1 w _).trans (hb.mono (by simp))
  have P1 : Hid (W1.heap[w.heap.size]? = some (.cells #[.int .u32 0, .int .u32 0, .int .i64 0, .int .i64 0, .bool false, .slice none 0 0, .string ⟨#[]⟩] 25 (0, 0))) := (hb.block _ (Ca.lt_of_heap (heap_alloc_new w _))).trans (heap_alloc_new w _)
  have B2 : Hid (Below w.heap.size w (W1.alloc (.cells #[.int .i64 0, .int .i64 0, .int .i64 0, .int .i64 0, .int .i64 0, .int .u32 0, .int .u32 0, .string ⟨#[]⟩] 51))) := B1.out.alloc B1.out.size _
  have P2 : Hid ((W1.alloc (.cells #[.int .i64 0, .int .i64 0, .int .i64 0, .int .i64 0, .int .i64 0, .int .u32 0, .int .u32 0, .string ⟨#[]⟩] 51)).heap[w.heap.size]? = some (.cells #[.int .u32 0, .int .u32 0, .int .i64 0, .int .i64 0, .bool false, .slice none 0 0, .string ⟨#[]⟩] 25 (0, 0))) := ((below1 W1 _).block _ (Ca.lt_of_heap P1.out)).trans P1.out
  clear hb HI
  go_wp2_with (first
    | refine Ca.wpList_store_row rfl 25 _ _ rfl w.heap.size #[.int .u32 0, .int .u32 0, .int .i64 0, .int .i64 0, .bool false, .slice none 0 0, .string ⟨#[]⟩] #[.int .u32 0, .int .u32 0, .int .i64 0, .int .i64 0, .bool false, .slice none 0 0, .string ⟨#[]⟩] 25 rfl rfl P2.out (by kernel_rfl) rfl (by kernel_rfl) ?_
    | fail)
  intro W11 y1 y2 y3 y4
  go_wp2
  exact bodyPost_ret (results_tb (p := 2) (u := 3) rfl _ _ w.heap.size _ rfl y1 rfl) rfl ⟨rfl, (B2.out).trans (y4.mono (Nat.le_refl _))⟩
set_option maxHeartbeats 8000000 in
theorem rdecap_t (w : World) (b off m : Nat) (zs : List Int) (h : BS w (some ⟨b, off, none⟩) m zs) (_hm : 0 < m)
    (tos id fr0 ttl pr src dst : Int) (io : List Int)
    (HI : Hid (∀ W, BS W (some ⟨b, off, none⟩) m zs → Calls Try.prog 28 #[.slice (some ⟨b, off, none⟩) m m] W fun e w' => e = .returned (.tuple #[.agg #[.int .i64 tos, .int .i64 id, .int .i64 fr0, .int .i64 ttl, .int .i64 pr, .int .u32 src, .int .u32 dst, .string (strOfNums io)], .int .i64 m, .int .i64 m, .int .i64 0]) ∧ Below W.heap.size W w'))
    (k ty co re sp dp : Int) (ns : Bool) (sq ak fl wi ur : Int) (lo ds : List Int) (f : Int)
    (HL : Hid (∀ W, BS W (some ⟨b, off, none⟩) m zs → Calls Try.prog 29 #[.int .u32 src, .int .u32 dst, .int .i64 pr, .slice (some ⟨b, off, none⟩) 0 0] W fun e w' => e = .returned (.tuple #[.agg #[.int .i64 k, .int .i64 ty, .int .i64 co, .int .u32 re, .int .i64 sp, .int .i64 dp, .bool ns, .int .u32 sq, .int .u32 ak, .int .i64 fl, .int .i64 wi, .int .i64 ur, .string (strOfNums lo), .string (strOfNums ds)], .int .i64 f]) ∧ Below W.heap.size W w'))
    (vni : Int) (oam : Bool) (os : List Opt) (fr : List Int)
    (HR : Hid (f = 0 → ∀ W, Calls Try.prog 30 #[.string (strOfNums ds)] W fun e w' => ∃ oa oc, e = .returned (.tuple #[.agg #[.int .u32 0, .int .u32 0, .int .i64 0, .int .i64 vni, .bool oam, .slice oa os.length oc, .string (strOfNums fr)], .bool false]) ∧ OS w' oa os.length os ∧ (∀ x, oa = some x → W.heap.size ≤ x.block) ∧ Below W.heap.size W w'))
    (HE : Hid (∀ W oa oc, OS W oa os.length os → Calls Try.prog 8 #[.agg #[.int .u32 src, .int .u32 dst, .int .i64 sp, .int .i64 vni, .bool oam, .slice oa os.length oc, .string (strOfNums fr)]] W fun e w' => REnc src dst sp vni oam os fr W e w')) :
    Calls Try.prog 12 #[.slice (some ⟨b, off, none⟩) m m] w fun e w' => RAns f false src dst sp vni oam os fr zs w e w' := by
  have H : Hid (BS w (some ⟨b, off, none⟩) m zs) := h
  have i1 : (m : Int) ≤ (m : Int) := by omega
  have i2 : (0 : Int) ≤ (m : Int) := by omega
  clear h
  go_enter Try.func12, Try.ntmps12
  go_wp2_with fail
  refine (HI.out _ (H.out.below (below1 w _))).mono ?_
  rintro e W1 ⟨rfl, hb⟩
  have B1 : Hid (Below w.heap.size w W1) := (below1 w _).trans (hb.mono (by simp))
  have P1 : Hid (W1.heap[w.heap.size]? = some (.cells #[.int .u32 0, .int .u32 0, .int .i64 0, .int .i64 0, .bool false, .slice none 0 0, .string ⟨#[]⟩] 25 (0, 0))) := (hb.block _ (Ca.lt_of_heap (heap_alloc_new w _))).trans (heap_alloc_new w _)
  clear hb HI
  go_wp2_with fail
  have hbA := below1 W1 (.cells #[.int .i64 tos, .int .i64 id, .int .i64 fr0, .int .i64 ttl, .int .i64 pr, .int .u32 src, .int .u32 dst, .string (strOfNums io)] 51)
  have B2 : Hid (Below w.heap.size w (W1.alloc (.cells #[.int .i64 tos, .int .i64 id, .int .i64 fr0, .int .i64 ttl, .int .i64 pr, .int .u32 src, .int .u32 dst, .string (strOfNums io)] 51))) := B1.out.trans (hbA.mono B1.out.size)
  have P2 : Hid ((W1.alloc (.cells #[.int .i64 tos, .int .i64 id, .int .i64 fr0, .int .i64 ttl, .int .i64 pr, .int .u32 src, .int .u32 dst, .string (strOfNums io)] 51)).heap[w.heap.size]? = some (.cells #[.int .u32 0, .int .u32 0, .int .i64 0, .int .i64 0, .bool false, .slice none 0 0, .string ⟨#[]⟩] 25 (0, 0))) := (hbA.block _ (Ca.lt_of_heap P1.out)).trans P1.out
  have I2 : Hid ((W1.alloc (.cells #[.int .i64 tos, .int .i64 id, .int .i64 fr0, .int .i64 ttl, .int .i64 pr, .int .u32 src, .int .u32 dst, .string (strOfNums io)] 51)).heap[W1.heap.size]? = some (.cells #[.int .i64 tos, .int .i64 id, .int .i64 fr0, .int .i64 ttl, .int .i64 pr, .int .u32 src, .int .u32 dst, .string (strOfNums io)] 51 (0, 0))) := heap_alloc_new W1 _
  have N2 : Hid (w.heap.size < W1.heap.size) := Ca.lt_of_heap P1.out
  obtain ⟨W2, hW⟩ : ∃ V, W1.alloc (.cells #[.int .i64 tos, .int .i64 id, .int .i64 fr0, .int .i64 ttl, .int .i64 pr, .int .u32 src, .int .u32 dst, .string (strOfNums io)] 51) = V := ⟨_, rfl⟩
  obtain ⟨g8, hg⟩ : ∃ V, W1.heap.size = V := ⟨_, rfl⟩
  rw [hW] at B2 P2 I2 ⊢
  rw [hg] at I2 N2 ⊢
  clear hW hg hbA B1 P1
  have KC : Hid (∀ W, Below W2.heap.size W2 W → W.cell? ⟨g8, 5, none⟩ = some (.int .u32 src) ∧ W.cell? ⟨g8, 6, none⟩ = some (.int .u32 dst) ∧ W.cell? ⟨g8, 4, none⟩ = some (.int .i64 pr)) := fun W hb => by
    have e := (hb.block _ (Ca.lt_of_heap I2.out)).trans I2.out
    exact ⟨cells14g e 5, cells14g e 6, cells14g e 4⟩
  refine wp_region_held_drew (S := (fun W => W.cell? ⟨g8, 5, none⟩ = some (.int .u32 src) ∧ W.cell? ⟨g8, 6, none⟩ = some (.int .u32 dst) ∧ W.cell? ⟨g8, 4, none⟩ = some (.int .i64 pr))) (by kernel_rfl) ?_ (fun hHeld => ?_)
  · exact KC.out _ (Below.refl _ _).drew
  have BD : Hid (Below W2.heap.size W2 W2.drew) := (Below.refl _ _).drew
  obtain ⟨WD, hWD⟩ : ∃ V, W2.drew = V := ⟨_, rfl⟩
  rw [hWD] at BD hHeld ⊢
  clear hWD
  refine wpAnyH_take (i := 0) (v := ?_) rfl (by kernel_rfl) (by kernel_rfl) (by kernel_rfl) (fun _ _ _ h => h) (Or.inl ⟨by rfl, ?_⟩) (by assumption) ?_
  rotate_left
  · (intro w hSw; (try dsimp only at hSw); go_simp; try with_reducible rfl)
  try simp only [List.getElem_toArray, List.getElem_cons_zero, List.getElem_cons_succ, Act.put, List.setIfInBounds_toArray, List.set_cons_zero, List.set_cons_succ]
  refine wpAnyH_take (i := 1) (v := ?_) rfl (by kernel_rfl) (by kernel_rfl) (by kernel_rfl) (fun _ _ _ h => h) (Or.inl ⟨by rfl, ?_⟩) (by assumption) ?_
  rotate_left
  · (intro w hSw; (try dsimp only at hSw); go_simp; try with_reducible rfl)
  try simp only [List.getElem_toArray, List.getElem_cons_zero, List.getElem_cons_succ, Act.put, List.setIfInBounds_toArray, List.set_cons_zero, List.set_cons_succ]
  refine wpAnyH_take (i := 2) (v := ?_) rfl (by kernel_rfl) (by kernel_rfl) (by kernel_rfl) (fun _ _ _ h => h) (Or.inl ⟨by rfl, ?_⟩) (by assumption) ?_
  rotate_left
  · (intro w hSw; (try dsimp only at hSw); go_simp; try with_reducible rfl)
  try simp only [List.getElem_toArray, List.getElem_cons_zero, List.getElem_cons_succ, Act.put, List.setIfInBounds_toArray, List.set_cons_zero, List.set_cons_succ]
  refine wpAnyH_take (i := 3) (v := ?_) rfl (by kernel_rfl) (by kernel_rfl) (by kernel_rfl) (fun _ _ _ h => h) (Or.inl ⟨by rfl, ?_⟩) (by assumption) ?_
  rotate_left
  · (intro w hSw; (try dsimp only at hSw); go_simp; try with_reducible rfl)
  try simp only [List.getElem_toArray, List.getElem_cons_zero, List.getElem_cons_succ, Act.put, List.setIfInBounds_toArray, List.set_cons_zero, List.set_cons_succ]
  refine wpAnyH_take (i := 4) (v := ?_) rfl (by kernel_rfl) (by kernel_rfl) (by kernel_rfl) (fun _ _ _ h => h) (Or.inl ⟨by rfl, ?_⟩) (by assumption) ?_
  rotate_left
  · (intro w hSw; (try dsimp only at hSw); go_simp; try with_reducible rfl)
  try simp only [List.getElem_toArray, List.getElem_cons_zero, List.getElem_cons_succ, Act.put, List.setIfInBounds_toArray, List.set_cons_zero, List.set_cons_succ]
  refine wpAnyH_take (i := 5) (v := ?_) rfl (by kernel_rfl) (by kernel_rfl) (by kernel_rfl) (fun _ _ _ h => h) (Or.inl ⟨by rfl, ?_⟩) (by assumption) ?_
  rotate_left
  · (intro w hSw; (try dsimp only at hSw); go_simp; try with_reducible rfl)
  try simp only [List.getElem_toArray, List.getElem_cons_zero, List.getElem_cons_succ, Act.put, List.setIfInBounds_toArray, List.set_cons_zero, List.set_cons_succ]
  refine wpAnyH_take (i := 6) (v := ?_) rfl (by kernel_rfl) (by kernel_rfl) (by kernel_rfl) (fun _ _ _ h => h) (Or.inl ⟨by rfl, ?_⟩) (by assumption) ?_
  rotate_left
  · (intro w hSw; (try dsimp only at hSw); go_simp; try with_reducible rfl)
  try simp only [List.getElem_toArray, List.getElem_cons_zero, List.getElem_cons_succ, Act.put, List.setIfInBounds_toArray, List.set_cons_zero, List.set_cons_succ]
  refine wpAnyH_take (i := 7) (v := ?_) rfl (by kernel_rfl) (by kernel_rfl) (by kernel_rfl) (fun _ _ _ h => h) (Or.inl ⟨by rfl, ?_⟩) (by assumption) ?_
  rotate_left
  · (intro w hSw; (try dsimp only at hSw); go_simp; try with_reducible rfl)
  try simp only [List.getElem_toArray, List.getElem_cons_zero, List.getElem_cons_succ, Act.put, List.setIfInBounds_toArray, List.set_cons_zero, List.set_cons_succ]
  refine wpAnyH_take (i := 8) (v := ?_) rfl (by kernel_rfl) (by kernel_rfl) (by kernel_rfl) (fun _ _ _ h => h) (Or.inl ⟨by rfl, ?_⟩) (by assumption) ?_
  rotate_left
  · (intro w hSw; (try dsimp only at hSw); go_simp; try with_reducible rfl)
  try simp only [List.getElem_toArray, List.getElem_cons_zero, List.getElem_cons_succ, Act.put, List.setIfInBounds_toArray, List.set_cons_zero, List.set_cons_succ]
  refine wpAnyH_take (i := 9) (v := ?_) rfl (by kernel_rfl) (by kernel_rfl) (by kernel_rfl) (fun _ _ _ h => h) (Or.inl ⟨by rfl, ?_⟩) (by assumption) ?_
  rotate_left
  · (intro w hSw; (try dsimp only at hSw); go_simp; try with_reducible rfl)
  try simp only [List.getElem_toArray, List.getElem_cons_zero, List.getElem_cons_succ, Act.put, List.setIfInBounds_toArray, List.set_cons_zero, List.set_cons_succ]
  refine wpAnyH_ready (rs := [10, 14]) (by kernel_rfl) (by simp) ?_
  refine AllReadyH.cons (o := _) rfl (fun K hK => ?_) (AllReadyH.cons (o := _) rfl (fun K hK => ?_) AllReadyH.nil)
  · go_simp
    refine (HL.out _ (H.out.below (B2.out.trans (BD.out.mono B2.out.size)))).mono ?_
    rintro e W3 ⟨rfl, hb⟩
    have hb' : Below W2.heap.size W2 W3 := BD.out.trans (hb.mono BD.out.size)
    go_wp2_with fail
    refine hK.out _ _ (KC.out _ hb') (fun hHeld2 => ?_)
    clear hK K hHeld hb
    try simp only [List.getElem_toArray, List.getElem_cons_zero, List.getElem_cons_succ, Act.put, List.setIfInBounds_toArray, List.set_cons_zero, List.set_cons_succ]
    refine wpAnyH_take (i := 11) (v := ?_) rfl (by kernel_rfl) (by kernel_rfl) (by kernel_rfl) (fun _ _ _ h => h) (Or.inl ⟨by rfl, ?_⟩) (by assumption) ?_
    rotate_left
    · (intro w hSw; (try dsimp only at hSw); go_simp; try with_reducible rfl)
    try simp only [List.getElem_toArray, List.getElem_cons_zero, List.getElem_cons_succ, Act.put, List.setIfInBounds_toArray, List.set_cons_zero, List.set_cons_succ]
    refine wpAnyH_take (i := 12) (v := ?_) rfl (by kernel_rfl) (by kernel_rfl) (by kernel_rfl) (fun _ _ _ h => h) (Or.inl ⟨by rfl, ?_⟩) (by assumption) ?_
    rotate_left
    · (intro w hSw; (try dsimp only at hSw); go_simp; try with_reducible rfl)
    try simp only [List.getElem_toArray, List.getElem_cons_zero, List.getElem_cons_succ, Act.put, List.setIfInBounds_toArray, List.set_cons_zero, List.set_cons_succ]
    refine wpAnyH_take (i := 13) (v := ?_) rfl (by kernel_rfl) (by kernel_rfl) (by kernel_rfl) (fun _ _ _ h => h) (Or.inl ⟨by rfl, ?_⟩) (by assumption) ?_
    rotate_left
    · (intro w hSw; (try dsimp only at hSw); go_simp; try with_reducible rfl)
    try simp only [List.getElem_toArray, List.getElem_cons_zero, List.getElem_cons_succ, Act.put, List.setIfInBounds_toArray, List.set_cons_zero, List.set_cons_succ]
    refine wpAnyH_ready (rs := [14]) (by kernel_rfl) (by simp) ?_
    refine AllReadyH.cons (o := _) rfl (fun K hK => ?_) AllReadyH.nil
    go_simp
    have hb3 : Below W2.heap.size W2 (W3.alloc (.cells #[.int .i64 0, .int .i64 0, .int .i64 0, .int .u32 0, .int .i64 0, .int .i64 0, .bool false, .int .u32 0, .int .u32 0, .int .i64 0, .int .i64 0, .int .i64 0, .string ⟨#[]⟩, .string ⟨#[]⟩] 48)) := hb'.alloc hb'.size _
    have hr5 : (W3.alloc (.cells #[.int .i64 0, .int .i64 0, .int .i64 0, .int .u32 0, .int .i64 0, .int .i64 0, .bool false, .int .u32 0, .int .u32 0, .int .i64 0, .int .i64 0, .int .i64 0, .string ⟨#[]⟩, .string ⟨#[]⟩] 48)).heap[W3.heap.size]? = some (.cells #[.int .i64 0, .int .i64 0, .int .i64 0, .int .u32 0, .int .i64 0, .int .i64 0, .bool false, .int .u32 0, .int .u32 0, .int .i64 0, .int .i64 0, .int .i64 0, .string ⟨#[]⟩, .string ⟨#[]⟩] 48 (0, 0)) := heap_alloc_new W3 _
    have hgw : W2.heap.size ≤ W3.heap.size := hb'.size
    refine hK.out _ _ (KC.out _ hb3) (fun hHeld3 => ?_)
    clear hK K hHeld2 hb'
    try simp only [List.getElem_toArray, List.getElem_cons_zero, List.getElem_cons_succ, Act.put, List.setIfInBounds_toArray, List.set_cons_zero, List.set_cons_succ]
    obtain ⟨V3, hV⟩ : ∃ V, W3.alloc (.cells #[.int .i64 0, .int .i64 0, .int .i64 0, .int .u32 0, .int .i64 0, .int .i64 0, .bool false, .int .u32 0, .int .u32 0, .int .i64 0, .int .i64 0, .int .i64 0, .string ⟨#[]⟩, .string ⟨#[]⟩] 48) = V := ⟨_, rfl⟩
    obtain ⟨gl, hgl⟩ : ∃ g, W3.heap.size = g := ⟨_, rfl⟩
    rw [hV] at hb3 hr5 hHeld3 ⊢
    rw [hgl] at hr5 hgw ⊢
    clear hV hgl
    refine wpAnyH_ready (rs := [15]) (by kernel_rfl) (by simp) ?_
    refine AllReadyH.cons (o := _) rfl (fun K hK => ?_) AllReadyH.nil
    refine Ca.step_store_at rfl 48 _ _ rfl gl 0 #[.int .i64 0, .int .i64 0, .int .i64 0, .int .u32 0, .int .i64 0, .int .i64 0, .bool false, .int .u32 0, .int .u32 0, .int .i64 0, .int .i64 0, .int .i64 0, .string ⟨#[]⟩, .string ⟨#[]⟩] #[.int .i64 k, .int .i64 ty, .int .i64 co, .int .u32 re, .int .i64 sp, .int .i64 dp, .bool ns, .int .u32 sq, .int .u32 ak, .int .i64 fl, .int .i64 wi, .int .i64 ur, .string (strOfNums lo), .string (strOfNums ds)] 48 rfl rfl hr5 (by kernel_rfl) (Nat.le_of_ble_eq_true (by kernel_rfl)) (by kernel_rfl) ?_
    intro W4 y1 y2 y3 y4
    have hg8 : g8 < gl := by have := Ca.lt_of_heap I2.out; omega
    have hg0 : w.heap.size < g8 := N2.out
    have R4 : Hid (W4.heap[gl]? = some (.cells #[.int .i64 k, .int .i64 ty, .int .i64 co, .int .u32 re, .int .i64 sp, .int .i64 dp, .bool ns, .int .u32 sq, .int .u32 ak, .int .i64 fl, .int .i64 wi, .int .i64 ur, .string (strOfNums lo), .string (strOfNums ds)] 48 (0, 0))) := by show _ = _; rw [← put_l4c k ty co re sp dp ns sq ak fl wi ur lo ds]; exact y1
    have P4 : Hid (W4.heap[w.heap.size]? = some (.cells #[.int .u32 0, .int .u32 0, .int .i64 0, .int .i64 0, .bool false, .slice none 0 0, .string ⟨#[]⟩] 25 (0, 0))) := (y2 _ (by omega)).trans ((hb3.block _ (Ca.lt_of_heap P2.out)).trans P2.out)
    have I4 : Hid (W4.heap[g8]? = some (.cells #[.int .i64 tos, .int .i64 id, .int .i64 fr0, .int .i64 ttl, .int .i64 pr, .int .u32 src, .int .u32 dst, .string (strOfNums io)] 51 (0, 0))) := (y2 _ (by omega)).trans ((hb3.block _ (Ca.lt_of_heap I2.out)).trans I2.out)
    have B4 : Hid (Below w.heap.size w W4) := (B2.out.trans (hb3.mono B2.out.size)).trans (y4.mono (by omega))
    have N4 : Hid (w.heap.size < g8 ∧ g8 < gl) := ⟨hg0, hg8⟩
    refine hK.out _ _ ⟨cells14g I4.out 5, cells14g I4.out 6, cells14g I4.out 4⟩ (fun hHeld4 => ?_)
    clear hK K hHeld3 hb3 hr5 y1 y2 y3 y4 B2 P2 I2 KC hg8 hg0 hgw N2 BD
    try simp only [List.getElem_toArray, List.getElem_cons_zero, List.getElem_cons_succ, Act.put, List.setIfInBounds_toArray, List.set_cons_zero, List.set_cons_succ]
    refine wpAnyH_take (i := 16) (v := ?_) rfl (by kernel_rfl) (by kernel_rfl) (by kernel_rfl) (fun _ _ _ h => h) (Or.inl ⟨by rfl, ?_⟩) (by assumption) ?_
    rotate_left
    · (intro w hSw; (try dsimp only at hSw); go_simp; try with_reducible rfl)
    try simp only [List.getElem_toArray, List.getElem_cons_zero, List.getElem_cons_succ, Act.put, List.setIfInBounds_toArray, List.set_cons_zero, List.set_cons_succ]
    clear hHeld4
    refine wpAnyH_done (by kernel_rfl) ?_ _
    try simp only [List.getElem_toArray, List.getElem_cons_zero, List.getElem_cons_succ, Act.put, List.setIfInBounds_toArray, List.set_cons_zero, List.set_cons_succ]
    by_cases hf0 : f = 0
    · subst hf0
      have c13 := cells14g R4.out 13
      simp only [List.getElem?_toArray, List.getElem?_cons_succ, List.getElem?_cons_zero] at c13
      go_wp2_with fail
      refine (HR.out (by first | rfl | trivial) _).mono ?_
      rintro e W6 ⟨oa, oc, rfl, hO6, hfar, hb⟩
      have hbw := below1 W6 (.cells #[.int .u32 0, .int .u32 0, .int .i64 0, .int .i64 vni, .bool oam, .slice oa os.length oc, .string (strOfNums fr)] 25)
      have hb7 : Below W4.heap.size W4 (W6.alloc (.cells #[.int .u32 0, .int .u32 0, .int .i64 0, .int .i64 vni, .bool oam, .slice oa os.length oc, .string (strOfNums fr)] 25)) := hb.trans (hbw.mono hb.size)
      have B7 : Hid (Below w.heap.size w (W6.alloc (.cells #[.int .u32 0, .int .u32 0, .int .i64 0, .int .i64 vni, .bool oam, .slice oa os.length oc, .string (strOfNums fr)] 25))) := B4.out.trans (hb7.mono B4.out.size)
      have R7' : Hid ((W6.alloc (.cells #[.int .u32 0, .int .u32 0, .int .i64 0, .int .i64 vni, .bool oam, .slice oa os.length oc, .string (strOfNums fr)] 25)).heap[gl]? = some (.cells #[.int .i64 k, .int .i64 ty, .int .i64 co, .int .u32 re, .int .i64 sp, .int .i64 dp, .bool ns, .int .u32 sq, .int .u32 ak, .int .i64 fl, .int .i64 wi, .int .i64 ur, .string (strOfNums lo), .string (strOfNums ds)] 48 (0, 0))) := (hb7.block _ (Ca.lt_of_heap R4.out)).trans R4.out
      have P7 : Hid ((W6.alloc (.cells #[.int .u32 0, .int .u32 0, .int .i64 0, .int .i64 vni, .bool oam, .slice oa os.length oc, .string (strOfNums fr)] 25)).heap[w.heap.size]? = some (.cells #[.int .u32 0, .int .u32 0, .int .i64 0, .int .i64 0, .bool false, .slice none 0 0, .string ⟨#[]⟩] 25 (0, 0))) := (hb7.block _ (Ca.lt_of_heap P4.out)).trans P4.out
      have I7 : Hid ((W6.alloc (.cells #[.int .u32 0, .int .u32 0, .int .i64 0, .int .i64 vni, .bool oam, .slice oa os.length oc, .string (strOfNums fr)] 25)).heap[g8]? = some (.cells #[.int .i64 tos, .int .i64 id, .int .i64 fr0, .int .i64 ttl, .int .i64 pr, .int .u32 src, .int .u32 dst, .string (strOfNums io)] 51 (0, 0))) := (hb7.block _ (Ca.lt_of_heap I4.out)).trans I4.out
      have Q7 : Hid ((W6.alloc (.cells #[.int .u32 0, .int .u32 0, .int .i64 0, .int .i64 vni, .bool oam, .slice oa os.length oc, .string (strOfNums fr)] 25)).heap[W6.heap.size]? = some (.cells #[.int .u32 0, .int .u32 0, .int .i64 0, .int .i64 vni, .bool oam, .slice oa os.length oc, .string (strOfNums fr)] 25 (0, 0))) := heap_alloc_new W6 _
      have O7 : Hid (OS (W6.alloc (.cells #[.int .u32 0, .int .u32 0, .int .i64 0, .int .i64 vni, .bool oam, .slice oa os.length oc, .string (strOfNums fr)] 25)) oa os.length os) := hO6.below hbw
      have N7 : Hid (gl < W6.heap.size) := by have h1 := Ca.lt_of_heap R4.out; have h2 := hb.size; show _ < _; omega
      have HFR0 : Hid (∀ x, oa = some x → w.heap.size < x.block) := fun x e => by have h1 := hfar x e; have h2 := Ca.lt_of_heap P4.out; omega
      have HFR : Hid (∀ x, oa = some x → x.block < W6.heap.size ∨ os.length = 0) := fun x e => by
        rcases hO6.cells with h0 | ⟨b', off', e', hc⟩
        · exact .inr h0
        · rcases Nat.eq_zero_or_pos os.length with h0 | h0
          · exact .inr h0
          · rw [e'] at e
            cases e
            exact .inl (cell_lt (hc 0 os[0] (List.getElem?_eq_getElem h0)).1)
      go_wp2_with fail
      obtain ⟨W7, hW⟩ : ∃ V, W6.alloc (.cells #[.int .u32 0, .int .u32 0, .int .i64 0, .int .i64 vni, .bool oam, .slice oa os.length oc, .string (strOfNums fr)] 25) = V := ⟨_, rfl⟩
      obtain ⟨g9, hg9⟩ : ∃ g, W6.heap.size = g := ⟨_, rfl⟩
      rw [hW] at B7 R7' P7 I7 Q7 O7 ⊢
      rw [hg9] at Q7 N7 HFR ⊢
      clear hW hg9 hb hbw hb7 hO6 hfar c13 B4 R4 P4 I4 HR
      have hA5 := cells14g I7.out 5
      have hA6 := cells14g I7.out 6
      have hA4 := cells14g R7'.out 4
      have hB0 := cells14g Q7.out 0
      have hB1 := cells14g Q7.out 1
      have hB2 := cells14g Q7.out 2
      simp only [List.getElem?_toArray, List.getElem?_cons_succ, List.getElem?_cons_zero] at hA5 hA6 hA4 hB0 hB1 hB2
      have hF0 := frozen_of_row W7 _ 0 _ _ Q7.out
      have hF1 := frozen_of_row W7 _ 1 _ _ Q7.out
      have hF2 := frozen_of_row W7 _ 2 _ _ Q7.out
      have hn1 : ¬ g9 = g8 := by have := N7.out; have := N4.out; omega
      have hn2 : ¬ g8 = g9 := by have := N7.out; have := N4.out; omega
      have hn3 : ¬ g9 = gl := by have := N7.out; omega
      have hn4 : ¬ gl = g9 := by have := N7.out; omega
      have hn5 : w.heap.size < g9 := by have := N7.out; have := N4.out; omega
      go_region
      clear hA5 hA6 hA4 hB0 hB1 hB2 hF0 hF1 hF2
      have Q8 : Hid ((((W7.setCell ⟨g9, 0, none⟩ (.int .u32 src)).setCell ⟨g9, 1, none⟩ (.int .u32 dst)).setCell ⟨g9, 2, none⟩ (.int .i64 sp)).drew.heap[g9]? = some (.cells #[.int .u32 src, .int .u32 dst, .int .i64 sp, .int .i64 vni, .bool oam, .slice oa os.length oc, .string (strOfNums fr)] 25 (0, 0))) := Ca.row_setCell (Ca.row_setCell (Ca.row_setCell Q7.out 0 (.int .u32 src)) 1 (.int .u32 dst)) 2 (.int .i64 sp)
      have P8 : Hid ((((W7.setCell ⟨g9, 0, none⟩ (.int .u32 src)).setCell ⟨g9, 1, none⟩ (.int .u32 dst)).setCell ⟨g9, 2, none⟩ (.int .i64 sp)).drew.heap[w.heap.size]? = some (.cells #[.int .u32 0, .int .u32 0, .int .i64 0, .int .i64 0, .bool false, .slice none 0 0, .string ⟨#[]⟩] 25 (0, 0))) := (Below.heap_setCell _ _ _ _ (show w.heap.size ≠ g9 by omega)).trans ((Below.heap_setCell _ _ _ _ (show w.heap.size ≠ g9 by omega)).trans ((Below.heap_setCell _ _ _ _ (show w.heap.size ≠ g9 by omega)).trans P7.out))
      have B8 : Hid (Below w.heap.size w (((W7.setCell ⟨g9, 0, none⟩ (.int .u32 src)).setCell ⟨g9, 1, none⟩ (.int .u32 dst)).setCell ⟨g9, 2, none⟩ (.int .i64 sp)).drew) := (((B7.out.setCell (show w.heap.size ≤ g9 by omega) _).setCell (show w.heap.size ≤ g9 by omega) _).setCell (show w.heap.size ≤ g9 by omega) _).drew
      have O8 : Hid (OS (((W7.setCell ⟨g9, 0, none⟩ (.int .u32 src)).setCell ⟨g9, 1, none⟩ (.int .u32 dst)).setCell ⟨g9, 2, none⟩ (.int .i64 sp)).drew oa os.length os) := os_drew (os_far0 (os_far0 (os_far0 O7.out HFR.out 0 _) HFR.out 1 _) HFR.out 2 _)
      obtain ⟨W8, hW⟩ : ∃ V, (((W7.setCell ⟨g9, 0, none⟩ (.int .u32 src)).setCell ⟨g9, 1, none⟩ (.int .u32 dst)).setCell ⟨g9, 2, none⟩ (.int .i64 sp)).drew = V := ⟨_, rfl⟩
      rw [hW] at Q8 P8 B8 O8 ⊢
      clear hW B7 R7' P7 Q7 I7 O7 hn1 hn2 hn3 hn4
      obtain ⟨x0, x1, x2, x3, x4, x5, x6⟩ := seven Q8.out
      go_wp2_with fail
      refine (HE.out _ _ _ O8.out).mono ?_
      rintro e W9 ⟨hb, hr⟩
      have B9 : Hid (Below w.heap.size w W9) := B8.out.trans (hb.mono B8.out.size)
      have P9 : Hid (W9.heap[w.heap.size]? = some (.cells #[.int .u32 0, .int .u32 0, .int .i64 0, .int .i64 0, .bool false, .slice none 0 0, .string ⟨#[]⟩] 25 (0, 0))) := (hb.block _ (Ca.lt_of_heap P8.out)).trans P8.out
      have Q9 : Hid (W9.heap[g9]? = some (.cells #[.int .u32 src, .int .u32 dst, .int .i64 sp, .int .i64 vni, .bool oam, .slice oa os.length oc, .string (strOfNums fr)] 25 (0, 0))) := (hb.block _ (Ca.lt_of_heap Q8.out)).trans Q8.out
      have O9 : Hid _ := O8.out.below hb
      clear hb HE x0 x1 x2 x3 x4 x5 x6 B8 P8 Q8 O8
      rcases hr with ⟨_, rfl⟩ | ⟨_, a2, c2, rfl, _⟩
      · go_wp2_with (first
          | refine Ca.wpList_store_row rfl 25 _ _ rfl w.heap.size #[.int .u32 0, .int .u32 0, .int .i64 0, .int .i64 0, .bool false, .slice none 0 0, .string ⟨#[]⟩] #[.int .u32 0, .int .u32 0, .int .i64 0, .int .i64 0, .bool false, .slice none 0 0, .string ⟨#[]⟩] 25 rfl rfl P9.out (by kernel_rfl) rfl (by kernel_rfl) ?_
          | fail)
        intro W11 y1 y2 y3 y4
        go_wp2
        exact bodyPost_ret (results_tb (p := 2) (u := 3) rfl _ _ w.heap.size _ rfl y1 rfl) rfl ⟨B9.out.trans (y4.mono (Nat.le_refl _)), .inr (.inl ⟨rfl, .inl rfl, rfl⟩)⟩
      · go_wp2_with (first
          | refine Ca.wpList_store_row rfl 25 _ _ rfl w.heap.size #[.int .u32 0, .int .u32 0, .int .i64 0, .int .i64 0, .bool false, .slice none 0 0, .string ⟨#[]⟩] #[.int .u32 0, .int .u32 0, .int .i64 0, .int .i64 0, .bool false, .slice none 0 0, .string ⟨#[]⟩] 25 rfl rfl P9.out (by kernel_rfl) rfl (by kernel_rfl) ?_
          | fail)
        intro W11 y1 y2 y3 y4
        go_wp2
        exact bodyPost_ret (results_tb (p := 2) (u := 3) rfl _ _ w.heap.size _ rfl y1 rfl) rfl ⟨B9.out.trans (y4.mono (Nat.le_refl _)), .inr (.inl ⟨rfl, .inl rfl, rfl⟩)⟩
    · have hf1 : (f != 0) = true := by simpa using hf0
      have HF0 : Hid _ := hf0
      clear hf0
      go_wp2_with (first
        | refine Ca.wpList_store_row rfl 25 _ _ rfl w.heap.size #[.int .u32 0, .int .u32 0, .int .i64 0, .int .i64 0, .bool false, .slice none 0 0, .string ⟨#[]⟩] #[.int .u32 0, .int .u32 0, .int .i64 0, .int .i64 0, .bool false, .slice none 0 0, .string ⟨#[]⟩] 25 rfl rfl P4.out (by kernel_rfl) rfl (by kernel_rfl) ?_
        | fail)
      intro W11 y1 y2 y3 y4
      go_wp2
      exact bodyPost_ret (results_tb (p := 2) (u := 3) rfl _ _ w.heap.size _ rfl y1 rfl) rfl ⟨B4.out.trans (y4.mono (Nat.le_refl _)), .inl ⟨HF0.out, rfl⟩⟩
  · go_simp
    have hb2 : Below W2.heap.size W2 (WD.alloc (.cells #[.int .i64 0, .int .i64 0, .int .i64 0, .int .u32 0, .int .i64 0, .int .i64 0, .bool false, .int .u32 0, .int .u32 0, .int .i64 0, .int .i64 0, .int .i64 0, .string ⟨#[]⟩, .string ⟨#[]⟩] 48)) := BD.out.alloc BD.out.size _
    have hr2 : (WD.alloc (.cells #[.int .i64 0, .int .i64 0, .int .i64 0, .int .u32 0, .int .i64 0, .int .i64 0, .bool false, .int .u32 0, .int .u32 0, .int .i64 0, .int .i64 0, .int .i64 0, .string ⟨#[]⟩, .string ⟨#[]⟩] 48)).heap[WD.heap.size]? = some (.cells #[.int .i64 0, .int .i64 0, .int .i64 0, .int .u32 0, .int .i64 0, .int .i64 0, .bool false, .int .u32 0, .int .u32 0, .int .i64 0, .int .i64 0, .int .i64 0, .string ⟨#[]⟩, .string ⟨#[]⟩] 48 (0, 0)) := heap_alloc_new WD _
    have hgw : W2.heap.size ≤ WD.heap.size := BD.out.size
    refine hK.out _ _ (KC.out _ hb2) (fun hHeld2 => ?_)
    clear hK K hHeld
    try simp only [List.getElem_toArray, List.getElem_cons_zero, List.getElem_cons_succ, Act.put, List.setIfInBounds_toArray, List.set_cons_zero, List.set_cons_succ]
    obtain ⟨V2, hV⟩ : ∃ V, WD.alloc (.cells #[.int .i64 0, .int .i64 0, .int .i64 0, .int .u32 0, .int .i64 0, .int .i64 0, .bool false, .int .u32 0, .int .u32 0, .int .i64 0, .int .i64 0, .int .i64 0, .string ⟨#[]⟩, .string ⟨#[]⟩] 48) = V := ⟨_, rfl⟩
    obtain ⟨gl, hgl⟩ : ∃ g, WD.heap.size = g := ⟨_, rfl⟩
    rw [hV] at hb2 hr2 hHeld2 ⊢
    rw [hgl] at hr2 hgw ⊢
    clear hV hgl
    refine wpAnyH_ready (rs := [10]) (by kernel_rfl) (by simp) ?_
    refine AllReadyH.cons (o := _) rfl (fun K hK => ?_) AllReadyH.nil
    go_simp
    refine (HL.out _ (H.out.below (B2.out.trans (hb2.mono B2.out.size)))).mono ?_
    rintro e V3 ⟨rfl, hb⟩
    have hb3 : Below W2.heap.size W2 V3 := hb2.trans (hb.mono hb2.size)
    have hr5 : V3.heap[gl]? = some (.cells #[.int .i64 0, .int .i64 0, .int .i64 0, .int .u32 0, .int .i64 0, .int .i64 0, .bool false, .int .u32 0, .int .u32 0, .int .i64 0, .int .i64 0, .int .i64 0, .string ⟨#[]⟩, .string ⟨#[]⟩] 48 (0, 0)) := (hb.block _ (Ca.lt_of_heap hr2)).trans hr2
    go_wp2_with fail
    refine hK.out _ _ (KC.out _ hb3) (fun hHeld3 => ?_)
    clear hK K hHeld2 hb hb2 hr2
    try simp only [List.getElem_toArray, List.getElem_cons_zero, List.getElem_cons_succ, Act.put, List.setIfInBounds_toArray, List.set_cons_zero, List.set_cons_succ]
    refine wpAnyH_take (i := 11) (v := ?_) rfl (by kernel_rfl) (by kernel_rfl) (by kernel_rfl) (fun _ _ _ h => h) (Or.inl ⟨by rfl, ?_⟩) (by assumption) ?_
    rotate_left
    · (intro w hSw; (try dsimp only at hSw); go_simp; try with_reducible rfl)
    try simp only [List.getElem_toArray, List.getElem_cons_zero, List.getElem_cons_succ, Act.put, List.setIfInBounds_toArray, List.set_cons_zero, List.set_cons_succ]
    refine wpAnyH_take (i := 12) (v := ?_) rfl (by kernel_rfl) (by kernel_rfl) (by kernel_rfl) (fun _ _ _ h => h) (Or.inl ⟨by rfl, ?_⟩) (by assumption) ?_
    rotate_left
    · (intro w hSw; (try dsimp only at hSw); go_simp; try with_reducible rfl)
    try simp only [List.getElem_toArray, List.getElem_cons_zero, List.getElem_cons_succ, Act.put, List.setIfInBounds_toArray, List.set_cons_zero, List.set_cons_succ]
    refine wpAnyH_take (i := 13) (v := ?_) rfl (by kernel_rfl) (by kernel_rfl) (by kernel_rfl) (fun _ _ _ h => h) (Or.inl ⟨by rfl, ?_⟩) (by assumption) ?_
    rotate_left
    · (intro w hSw; (try dsimp only at hSw); go_simp; try with_reducible rfl)
    try simp only [List.getElem_toArray, List.getElem_cons_zero, List.getElem_cons_succ, Act.put, List.setIfInBounds_toArray, List.set_cons_zero, List.set_cons_succ]
    refine wpAnyH_ready (rs := [15]) (by kernel_rfl) (by simp) ?_
    refine AllReadyH.cons (o := _) rfl (fun K hK => ?_) AllReadyH.nil
    refine Ca.step_store_at rfl 48 _ _ rfl gl 0 #[.int .i64 0, .int .i64 0, .int .i64 0, .int .u32 0, .int .i64 0, .int .i64 0, .bool false, .int .u32 0, .int .u32 0, .int .i64 0, .int .i64 0, .int .i64 0, .string ⟨#[]⟩, .string ⟨#[]⟩] #[.int .i64 k, .int .i64 ty, .int .i64 co, .int .u32 re, .int .i64 sp, .int .i64 dp, .bool ns, .int .u32 sq, .int .u32 ak, .int .i64 fl, .int .i64 wi, .int .i64 ur, .string (strOfNums lo), .string (strOfNums ds)] 48 rfl rfl hr5 (by kernel_rfl) (Nat.le_of_ble_eq_true (by kernel_rfl)) (by kernel_rfl) ?_
    intro W4 y1 y2 y3 y4
    have hg8 : g8 < gl := by have := Ca.lt_of_heap I2.out; omega
    have hg0 : w.heap.size < g8 := N2.out
    have R4 : Hid (W4.heap[gl]? = some (.cells #[.int .i64 k, .int .i64 ty, .int .i64 co, .int .u32 re, .int .i64 sp, .int .i64 dp, .bool ns, .int .u32 sq, .int .u32 ak, .int .i64 fl, .int .i64 wi, .int .i64 ur, .string (strOfNums lo), .string (strOfNums ds)] 48 (0, 0))) := by show _ = _; rw [← put_l4c k ty co re sp dp ns sq ak fl wi ur lo ds]; exact y1
    have P4 : Hid (W4.heap[w.heap.size]? = some (.cells #[.int .u32 0, .int .u32 0, .int .i64 0, .int .i64 0, .bool false, .slice none 0 0, .string ⟨#[]⟩] 25 (0, 0))) := (y2 _ (by omega)).trans ((hb3.block _ (Ca.lt_of_heap P2.out)).trans P2.out)
    have I4 : Hid (W4.heap[g8]? = some (.cells #[.int .i64 tos, .int .i64 id, .int .i64 fr0, .int .i64 ttl, .int .i64 pr, .int .u32 src, .int .u32 dst, .string (strOfNums io)] 51 (0, 0))) := (y2 _ (by omega)).trans ((hb3.block _ (Ca.lt_of_heap I2.out)).trans I2.out)
    have B4 : Hid (Below w.heap.size w W4) := (B2.out.trans (hb3.mono B2.out.size)).trans (y4.mono (by omega))
    have N4 : Hid (w.heap.size < g8 ∧ g8 < gl) := ⟨hg0, hg8⟩
    refine hK.out _ _ ⟨cells14g I4.out 5, cells14g I4.out 6, cells14g I4.out 4⟩ (fun hHeld4 => ?_)
    clear hK K hHeld3 hb3 hr5 y1 y2 y3 y4 B2 P2 I2 KC hg8 hg0 hgw N2 BD
    try simp only [List.getElem_toArray, List.getElem_cons_zero, List.getElem_cons_succ, Act.put, List.setIfInBounds_toArray, List.set_cons_zero, List.set_cons_succ]
    refine wpAnyH_take (i := 16) (v := ?_) rfl (by kernel_rfl) (by kernel_rfl) (by kernel_rfl) (fun _ _ _ h => h) (Or.inl ⟨by rfl, ?_⟩) (by assumption) ?_
    rotate_left
    · (intro w hSw; (try dsimp only at hSw); go_simp; try with_reducible rfl)
    try simp only [List.getElem_toArray, List.getElem_cons_zero, List.getElem_cons_succ, Act.put, List.setIfInBounds_toArray, List.set_cons_zero, List.set_cons_succ]
    clear hHeld4
    refine wpAnyH_done (by kernel_rfl) ?_ _
    try simp only [List.getElem_toArray, List.getElem_cons_zero, List.getElem_cons_succ, Act.put, List.setIfInBounds_toArray, List.set_cons_zero, List.set_cons_succ]
    by_cases hf0 : f = 0
    · subst hf0
      have c13 := cells14g R4.out 13
      simp only [List.getElem?_toArray, List.getElem?_cons_succ, List.getElem?_cons_zero] at c13
      go_wp2_with fail
      refine (HR.out (by first | rfl | trivial) _).mono ?_
      rintro e W6 ⟨oa, oc, rfl, hO6, hfar, hb⟩
      have hbw := below1 W6 (.cells #[.int .u32 0, .int .u32 0, .int .i64 0, .int .i64 vni, .bool oam, .slice oa os.length oc, .string (strOfNums fr)] 25)
      have hb7 : Below W4.heap.size W4 (W6.alloc (.cells #[.int .u32 0, .int .u32 0, .int .i64 0, .int .i64 vni, .bool oam, .slice oa os.length oc, .string (strOfNums fr)] 25)) := hb.trans (hbw.mono hb.size)
      have B7 : Hid (Below w.heap.size w (W6.alloc (.cells #[.int .u32 0, .int .u32 0, .int .i64 0, .int .i64 vni, .bool oam, .slice oa os.length oc, .string (strOfNums fr)] 25))) := B4.out.trans (hb7.mono B4.out.size)
      have R7' : Hid ((W6.alloc (.cells #[.int .u32 0, .int .u32 0, .int .i64 0, .int .i64 vni, .bool oam, .slice oa os.length oc, .string (strOfNums fr)] 25)).heap[gl]? = some (.cells #[.int .i64 k, .int .i64 ty, .int .i64 co, .int .u32 re, .int .i64 sp, .int .i64 dp, .bool ns, .int .u32 sq, .int .u32 ak, .int .i64 fl, .int .i64 wi, .int .i64 ur, .string (strOfNums lo), .string (strOfNums ds)] 48 (0, 0))) := (hb7.block _ (Ca.lt_of_heap R4.out)).trans R4.out
      have P7 : Hid ((W6.alloc (.cells #[.int .u32 0, .int .u32 0, .int .i64 0, .int .i64 vni, .bool oam, .slice oa os.length oc, .string (strOfNums fr)] 25)).heap[w.heap.size]? = some (.cells #[.int .u32 0, .int .u32 0, .int .i64 0, .int .i64 0, .bool false, .slice none 0 0, .string ⟨#[]⟩] 25 (0, 0))) := (hb7.block _ (Ca.lt_of_heap P4.out)).trans P4.out
      have I7 : Hid ((W6.alloc (.cells #[.int .u32 0, .int .u32 0, .int .i64 0, .int .i64 vni, .bool oam, .slice oa os.length oc, .string (strOfNums fr)] 25)).heap[g8]? = some (.cells #[.int .i64 tos, .int .i64 id, .int .i64 fr0, .int .i64 ttl, .int .i64 pr, .int .u32 src, .int .u32 dst, .string (strOfNums io)] 51 (0, 0))) := (hb7.block _ (Ca.lt_of_heap I4.out)).trans I4.out
      have Q7 : Hid ((W6.alloc (.cells #[.int .u32 0, .int .u32 0, .int .i64 0, .int .i64 vni, .bool oam, .slice oa os.length oc, .string (strOfNums fr)] 25)).heap[W6.heap.size]? = some (.cells #[.int .u32 0, .int .u32 0, .int .i64 0, .int .i64 vni, .bool oam, .slice oa os.length oc, .string (strOfNums fr)] 25 (0, 0))) := heap_alloc_new W6 _
      have O7 : Hid (OS (W6.alloc (.cells #[.int .u32 0, .int .u32 0, .int .i64 0, .int .i64 vni, .bool oam, .slice oa os.length oc, .string (strOfNums fr)] 25)) oa os.length os) := hO6.below hbw
      have N7 : Hid (gl < W6.heap.size) := by have h1 := Ca.lt_of_heap R4.out; have h2 := hb.size; show _ < _; omega
      have HFR0 : Hid (∀ x, oa = some x → w.heap.size < x.block) := fun x e => by have h1 := hfar x e; have h2 := Ca.lt_of_heap P4.out; omega
      have HFR : Hid (∀ x, oa = some x → x.block < W6.heap.size ∨ os.length = 0) := fun x e => by
        rcases hO6.cells with h0 | ⟨b', off', e', hc⟩
        · exact .inr h0
        · rcases Nat.eq_zero_or_pos os.length with h0 | h0
          · exact .inr h0
          · rw [e'] at e
            cases e
            exact .inl (cell_lt (hc 0 os[0] (List.getElem?_eq_getElem h0)).1)
      go_wp2_with fail
      obtain ⟨W7, hW⟩ : ∃ V, W6.alloc (.cells #[.int .u32 0, .int .u32 0, .int .i64 0, .int .i64 vni, .bool oam, .slice oa os.length oc, .string (strOfNums fr)] 25) = V := ⟨_, rfl⟩
      obtain ⟨g9, hg9⟩ : ∃ g, W6.heap.size = g := ⟨_, rfl⟩
      rw [hW] at B7 R7' P7 I7 Q7 O7 ⊢
      rw [hg9] at Q7 N7 HFR ⊢
      clear hW hg9 hb hbw hb7 hO6 hfar c13 B4 R4 P4 I4 HR
      have hA5 := cells14g I7.out 5
      have hA6 := cells14g I7.out 6
      have hA4 := cells14g R7'.out 4
      have hB0 := cells14g Q7.out 0
      have hB1 := cells14g Q7.out 1
      have hB2 := cells14g Q7.out 2
      simp only [List.getElem?_toArray, List.getElem?_cons_succ, List.getElem?_cons_zero] at hA5 hA6 hA4 hB0 hB1 hB2
      have hF0 := frozen_of_row W7 _ 0 _ _ Q7.out
      have hF1 := frozen_of_row W7 _ 1 _ _ Q7.out
      have hF2 := frozen_of_row W7 _ 2 _ _ Q7.out
      have hn1 : ¬ g9 = g8 := by have := N7.out; have := N4.out; omega
      have hn2 : ¬ g8 = g9 := by have := N7.out; have := N4.out; omega
      have hn3 : ¬ g9 = gl := by have := N7.out; omega
      have hn4 : ¬ gl = g9 := by have := N7.out; omega
      have hn5 : w.heap.size < g9 := by have := N7.out; have := N4.out; omega
      go_region
      clear hA5 hA6 hA4 hB0 hB1 hB2 hF0 hF1 hF2
      have Q8 : Hid ((((W7.setCell ⟨g9, 0, none⟩ (.int .u32 src)).setCell ⟨g9, 1, none⟩ (.int .u32 dst)).setCell ⟨g9, 2, none⟩ (.int .i64 sp)).drew.heap[g9]? = some (.cells #[.int .u32 src, .int .u32 dst, .int .i64 sp, .int .i64 vni, .bool oam, .slice oa os.length oc, .string (strOfNums fr)] 25 (0, 0))) := Ca.row_setCell (Ca.row_setCell (Ca.row_setCell Q7.out 0 (.int .u32 src)) 1 (.int .u32 dst)) 2 (.int .i64 sp)
      have P8 : Hid ((((W7.setCell ⟨g9, 0, none⟩ (.int .u32 src)).setCell ⟨g9, 1, none⟩ (.int .u32 dst)).setCell ⟨g9, 2, none⟩ (.int .i64 sp)).drew.heap[w.heap.size]? = some (.cells #[.int .u32 0, .int .u32 0, .int .i64 0, .int .i64 0, .bool false, .slice none 0 0, .string ⟨#[]⟩] 25 (0, 0))) := (Below.heap_setCell _ _ _ _ (show w.heap.size ≠ g9 by omega)).trans ((Below.heap_setCell _ _ _ _ (show w.heap.size ≠ g9 by omega)).trans ((Below.heap_setCell _ _ _ _ (show w.heap.size ≠ g9 by omega)).trans P7.out))
      have B8 : Hid (Below w.heap.size w (((W7.setCell ⟨g9, 0, none⟩ (.int .u32 src)).setCell ⟨g9, 1, none⟩ (.int .u32 dst)).setCell ⟨g9, 2, none⟩ (.int .i64 sp)).drew) := (((B7.out.setCell (show w.heap.size ≤ g9 by omega) _).setCell (show w.heap.size ≤ g9 by omega) _).setCell (show w.heap.size ≤ g9 by omega) _).drew
      have O8 : Hid (OS (((W7.setCell ⟨g9, 0, none⟩ (.int .u32 src)).setCell ⟨g9, 1, none⟩ (.int .u32 dst)).setCell ⟨g9, 2, none⟩ (.int .i64 sp)).drew oa os.length os) := os_drew (os_far0 (os_far0 (os_far0 O7.out HFR.out 0 _) HFR.out 1 _) HFR.out 2 _)
      obtain ⟨W8, hW⟩ : ∃ V, (((W7.setCell ⟨g9, 0, none⟩ (.int .u32 src)).setCell ⟨g9, 1, none⟩ (.int .u32 dst)).setCell ⟨g9, 2, none⟩ (.int .i64 sp)).drew = V := ⟨_, rfl⟩
      rw [hW] at Q8 P8 B8 O8 ⊢
      clear hW B7 R7' P7 Q7 I7 O7 hn1 hn2 hn3 hn4
      obtain ⟨x0, x1, x2, x3, x4, x5, x6⟩ := seven Q8.out
      go_wp2_with fail
      refine (HE.out _ _ _ O8.out).mono ?_
      rintro e W9 ⟨hb, hr⟩
      have B9 : Hid (Below w.heap.size w W9) := B8.out.trans (hb.mono B8.out.size)
      have P9 : Hid (W9.heap[w.heap.size]? = some (.cells #[.int .u32 0, .int .u32 0, .int .i64 0, .int .i64 0, .bool false, .slice none 0 0, .string ⟨#[]⟩] 25 (0, 0))) := (hb.block _ (Ca.lt_of_heap P8.out)).trans P8.out
      have Q9 : Hid (W9.heap[g9]? = some (.cells #[.int .u32 src, .int .u32 dst, .int .i64 sp, .int .i64 vni, .bool oam, .slice oa os.length oc, .string (strOfNums fr)] 25 (0, 0))) := (hb.block _ (Ca.lt_of_heap Q8.out)).trans Q8.out
      have O9 : Hid _ := O8.out.below hb
      clear hb HE x0 x1 x2 x3 x4 x5 x6 B8 P8 Q8 O8
      rcases hr with ⟨_, rfl⟩ | ⟨_, a2, c2, rfl, _⟩
      · go_wp2_with (first
          | refine Ca.wpList_store_row rfl 25 _ _ rfl w.heap.size #[.int .u32 0, .int .u32 0, .int .i64 0, .int .i64 0, .bool false, .slice none 0 0, .string ⟨#[]⟩] #[.int .u32 0, .int .u32 0, .int .i64 0, .int .i64 0, .bool false, .slice none 0 0, .string ⟨#[]⟩] 25 rfl rfl P9.out (by kernel_rfl) rfl (by kernel_rfl) ?_
          | fail)
        intro W11 y1 y2 y3 y4
        go_wp2
        exact bodyPost_ret (results_tb (p := 2) (u := 3) rfl _ _ w.heap.size _ rfl y1 rfl) rfl ⟨B9.out.trans (y4.mono (Nat.le_refl _)), .inr (.inl ⟨rfl, .inl rfl, rfl⟩)⟩
      · go_wp2_with (first
          | refine Ca.wpList_store_row rfl 25 _ _ rfl w.heap.size #[.int .u32 0, .int .u32 0, .int .i64 0, .int .i64 0, .bool false, .slice none 0 0, .string ⟨#[]⟩] #[.int .u32 0, .int .u32 0, .int .i64 0, .int .i64 0, .bool false, .slice none 0 0, .string ⟨#[]⟩] 25 rfl rfl P9.out (by kernel_rfl) rfl (by kernel_rfl) ?_
          | fail)
        intro W11 y1 y2 y3 y4
        go_wp2
        exact bodyPost_ret (results_tb (p := 2) (u := 3) rfl _ _ w.heap.size _ rfl y1 rfl) rfl ⟨B9.out.trans (y4.mono (Nat.le_refl _)), .inr (.inl ⟨rfl, .inl rfl, rfl⟩)⟩
    · have hf1 : (f != 0) = true := by simpa using hf0
      have HF0 : Hid _ := hf0
      clear hf0
      go_wp2_with (first
        | refine Ca.wpList_store_row rfl 25 _ _ rfl w.heap.size #[.int .u32 0, .int .u32 0, .int .i64 0, .int .i64 0, .bool false, .slice none 0 0, .string ⟨#[]⟩] #[.int .u32 0, .int .u32 0, .int .i64 0, .int .i64 0, .bool false, .slice none 0 0, .string ⟨#[]⟩] 25 rfl rfl P4.out (by kernel_rfl) rfl (by kernel_rfl) ?_
        | fail)
      intro W11 y1 y2 y3 y4
      go_wp2
      exact bodyPost_ret (results_tb (p := 2) (u := 3) rfl _ _ w.heap.size _ rfl y1 rfl) rfl ⟨B4.out.trans (y4.mono (Nat.le_refl _)), .inl ⟨HF0.out, rfl⟩⟩
set_option maxHeartbeats 8000000 in
theorem rdecap_n (w : World) (b off n cap m T : Nat) (zs : List Int) (h : BS w (some ⟨b, off, none⟩) n zs) (hcap : n ≤ cap) (_hm : 0 < m) (hmT : m ≤ T) (hTn : T ≤ n) (hcm : ¬ cap = m)
    (tos id fr0 ttl pr src dst : Int) (io : List Int)
    (HI : Hid (∀ W, BS W (some ⟨b, off, none⟩) n zs → Calls Try.prog 28 #[.slice (some ⟨b, off, none⟩) n cap] W fun e w' => e = .returned (.tuple #[.agg #[.int .i64 tos, .int .i64 id, .int .i64 fr0, .int .i64 ttl, .int .i64 pr, .int .u32 src, .int .u32 dst, .string (strOfNums io)], .int .i64 m, .int .i64 T, .int .i64 0]) ∧ Below W.heap.size W w'))
    (k ty co re sp dp : Int) (ns : Bool) (sq ak fl wi ur : Int) (lo ds : List Int) (f : Int)
    (HL : Hid (∀ W, BS W (some ⟨b, off, none⟩) n zs → Calls Try.prog 29 #[.int .u32 src, .int .u32 dst, .int .i64 pr, .slice (some ⟨b, off + m, none⟩) (T - m) (cap - m)] W fun e w' => e = .returned (.tuple #[.agg #[.int .i64 k, .int .i64 ty, .int .i64 co, .int .u32 re, .int .i64 sp, .int .i64 dp, .bool ns, .int .u32 sq, .int .u32 ak, .int .i64 fl, .int .i64 wi, .int .i64 ur, .string (strOfNums lo), .string (strOfNums ds)], .int .i64 f]) ∧ Below W.heap.size W w'))
    (vni : Int) (oam : Bool) (os : List Opt) (fr : List Int) (okb : Bool)
    (HR : Hid (f = 0 → ∀ W, Calls Try.prog 30 #[.string (strOfNums ds)] W fun e w' => ∃ oa oc, e = .returned (.tuple #[.agg #[.int .u32 0, .int .u32 0, .int .i64 0, .int .i64 vni, .bool oam, .slice oa os.length oc, .string (strOfNums fr)], .bool okb]) ∧ OS w' oa os.length os ∧ (∀ x, oa = some x → W.heap.size ≤ x.block) ∧ Below W.heap.size W w'))
    (HE : Hid (∀ W oa oc, OS W oa os.length os → Calls Try.prog 8 #[.agg #[.int .u32 src, .int .u32 dst, .int .i64 sp, .int .i64 vni, .bool oam, .slice oa os.length oc, .string (strOfNums fr)]] W fun e w' => REnc src dst sp vni oam os fr W e w')) :
    Calls Try.prog 12 #[.slice (some ⟨b, off, none⟩) n cap] w fun e w' => RAns f okb src dst sp vni oam os fr zs w e w' := by
  have H : Hid (BS w (some ⟨b, off, none⟩) n zs) := h
  have i1 : (m : Int) ≤ (T : Int) := by omega
  have i2 : (T : Int) ≤ (n : Int) := by omega
  have i3 : (n : Int) ≤ (cap : Int) := by omega
  have i4 : (T : Int) ≤ (cap : Int) := by omega
  have i5 : (m : Int) ≤ (cap : Int) := by omega
  clear h
  go_enter Try.func12, Try.ntmps12
  go_wp2_with fail
  refine (HI.out _ (H.out.below (below1 w _))).mono ?_
  rintro e W1 ⟨rfl, hb⟩
  have B1 : Hid (Below w.heap.size w W1) := (below1 w _).trans (hb.mono (by simp))
  have P1 : Hid (W1.heap[w.heap.size]? = some (.cells #[.int .u32 0, .int .u32 0, .int .i64 0, .int .i64 0, .bool false, .slice none 0 0, .string ⟨#[]⟩] 25 (0, 0))) := (hb.block _ (Ca.lt_of_heap (heap_alloc_new w _))).trans (heap_alloc_new w _)
  clear hb HI
  go_wp2_with fail
  have hbA := below1 W1 (.cells #[.int .i64 tos, .int .i64 id, .int .i64 fr0, .int .i64 ttl, .int .i64 pr, .int .u32 src, .int .u32 dst, .string (strOfNums io)] 51)
  have B2 : Hid (Below w.heap.size w (W1.alloc (.cells #[.int .i64 tos, .int .i64 id, .int .i64 fr0, .int .i64 ttl, .int .i64 pr, .int .u32 src, .int .u32 dst, .string (strOfNums io)] 51))) := B1.out.trans (hbA.mono B1.out.size)
  have P2 : Hid ((W1.alloc (.cells #[.int .i64 tos, .int .i64 id, .int .i64 fr0, .int .i64 ttl, .int .i64 pr, .int .u32 src, .int .u32 dst, .string (strOfNums io)] 51)).heap[w.heap.size]? = some (.cells #[.int .u32 0, .int .u32 0, .int .i64 0, .int .i64 0, .bool false, .slice none 0 0, .string ⟨#[]⟩] 25 (0, 0))) := (hbA.block _ (Ca.lt_of_heap P1.out)).trans P1.out
  have I2 : Hid ((W1.alloc (.cells #[.int .i64 tos, .int .i64 id, .int .i64 fr0, .int .i64 ttl, .int .i64 pr, .int .u32 src, .int .u32 dst, .string (strOfNums io)] 51)).heap[W1.heap.size]? = some (.cells #[.int .i64 tos, .int .i64 id, .int .i64 fr0, .int .i64 ttl, .int .i64 pr, .int .u32 src, .int .u32 dst, .string (strOfNums io)] 51 (0, 0))) := heap_alloc_new W1 _
  have N2 : Hid (w.heap.size < W1.heap.size) := Ca.lt_of_heap P1.out
  obtain ⟨W2, hW⟩ : ∃ V, W1.alloc (.cells #[.int .i64 tos, .int .i64 id, .int .i64 fr0, .int .i64 ttl, .int .i64 pr, .int .u32 src, .int .u32 dst, .string (strOfNums io)] 51) = V := ⟨_, rfl⟩
  obtain ⟨g8, hg⟩ : ∃ V, W1.heap.size = V := ⟨_, rfl⟩
  rw [hW] at B2 P2 I2 ⊢
  rw [hg] at I2 N2 ⊢
  clear hW hg hbA B1 P1
  have KC : Hid (∀ W, Below W2.heap.size W2 W → W.cell? ⟨g8, 5, none⟩ = some (.int .u32 src) ∧ W.cell? ⟨g8, 6, none⟩ = some (.int .u32 dst) ∧ W.cell? ⟨g8, 4, none⟩ = some (.int .i64 pr)) := fun W hb => by
    have e := (hb.block _ (Ca.lt_of_heap I2.out)).trans I2.out
    exact ⟨cells14g e 5, cells14g e 6, cells14g e 4⟩
  refine wp_region_held_drew (S := (fun W => W.cell? ⟨g8, 5, none⟩ = some (.int .u32 src) ∧ W.cell? ⟨g8, 6, none⟩ = some (.int .u32 dst) ∧ W.cell? ⟨g8, 4, none⟩ = some (.int .i64 pr))) (by kernel_rfl) ?_ (fun hHeld => ?_)
  · exact KC.out _ (Below.refl _ _).drew
  have BD : Hid (Below W2.heap.size W2 W2.drew) := (Below.refl _ _).drew
  obtain ⟨WD, hWD⟩ : ∃ V, W2.drew = V := ⟨_, rfl⟩
  rw [hWD] at BD hHeld ⊢
  clear hWD
  refine wpAnyH_take (i := 0) (v := ?_) rfl (by kernel_rfl) (by kernel_rfl) (by kernel_rfl) (fun _ _ _ h => h) (Or.inl ⟨by rfl, ?_⟩) (by assumption) ?_
  rotate_left
  · (intro w hSw; (try dsimp only at hSw); go_simp; try with_reducible rfl)
  try simp only [List.getElem_toArray, List.getElem_cons_zero, List.getElem_cons_succ, Act.put, List.setIfInBounds_toArray, List.set_cons_zero, List.set_cons_succ]
  refine wpAnyH_take (i := 1) (v := ?_) rfl (by kernel_rfl) (by kernel_rfl) (by kernel_rfl) (fun _ _ _ h => h) (Or.inl ⟨by rfl, ?_⟩) (by assumption) ?_
  rotate_left
  · (intro w hSw; (try dsimp only at hSw); go_simp; try with_reducible rfl)
  try simp only [List.getElem_toArray, List.getElem_cons_zero, List.getElem_cons_succ, Act.put, List.setIfInBounds_toArray, List.set_cons_zero, List.set_cons_succ]
  refine wpAnyH_take (i := 2) (v := ?_) rfl (by kernel_rfl) (by kernel_rfl) (by kernel_rfl) (fun _ _ _ h => h) (Or.inl ⟨by rfl, ?_⟩) (by assumption) ?_
  rotate_left
  · (intro w hSw; (try dsimp only at hSw); go_simp; try with_reducible rfl)
  try simp only [List.getElem_toArray, List.getElem_cons_zero, List.getElem_cons_succ, Act.put, List.setIfInBounds_toArray, List.set_cons_zero, List.set_cons_succ]
  refine wpAnyH_take (i := 3) (v := ?_) rfl (by kernel_rfl) (by kernel_rfl) (by kernel_rfl) (fun _ _ _ h => h) (Or.inl ⟨by rfl, ?_⟩) (by assumption) ?_
  rotate_left
  · (intro w hSw; (try dsimp only at hSw); go_simp; try with_reducible rfl)
  try simp only [List.getElem_toArray, List.getElem_cons_zero, List.getElem_cons_succ, Act.put, List.setIfInBounds_toArray, List.set_cons_zero, List.set_cons_succ]
  refine wpAnyH_take (i := 4) (v := ?_) rfl (by kernel_rfl) (by kernel_rfl) (by kernel_rfl) (fun _ _ _ h => h) (Or.inl ⟨by rfl, ?_⟩) (by assumption) ?_
  rotate_left
  · (intro w hSw; (try dsimp only at hSw); go_simp; try with_reducible rfl)
  try simp only [List.getElem_toArray, List.getElem_cons_zero, List.getElem_cons_succ, Act.put, List.setIfInBounds_toArray, List.set_cons_zero, List.set_cons_succ]
  refine wpAnyH_take (i := 5) (v := ?_) rfl (by kernel_rfl) (by kernel_rfl) (by kernel_rfl) (fun _ _ _ h => h) (Or.inl ⟨by rfl, ?_⟩) (by assumption) ?_
  rotate_left
  · (intro w hSw; (try dsimp only at hSw); go_simp; try with_reducible rfl)
  try simp only [List.getElem_toArray, List.getElem_cons_zero, List.getElem_cons_succ, Act.put, List.setIfInBounds_toArray, List.set_cons_zero, List.set_cons_succ]
  refine wpAnyH_take (i := 6) (v := ?_) rfl (by kernel_rfl) (by kernel_rfl) (by kernel_rfl) (fun _ _ _ h => h) (Or.inl ⟨by rfl, ?_⟩) (by assumption) ?_
  rotate_left
  · (intro w hSw; (try dsimp only at hSw); go_simp; try with_reducible rfl)
  try simp only [List.getElem_toArray, List.getElem_cons_zero, List.getElem_cons_succ, Act.put, List.setIfInBounds_toArray, List.set_cons_zero, List.set_cons_succ]
  refine wpAnyH_take (i := 7) (v := ?_) rfl (by kernel_rfl) (by kernel_rfl) (by kernel_rfl) (fun _ _ _ h => h) (Or.inl ⟨by rfl, ?_⟩) (by assumption) ?_
  rotate_left
  · (intro w hSw; (try dsimp only at hSw); go_simp; try with_reducible rfl)
  try simp only [List.getElem_toArray, List.getElem_cons_zero, List.getElem_cons_succ, Act.put, List.setIfInBounds_toArray, List.set_cons_zero, List.set_cons_succ]
  refine wpAnyH_take (i := 8) (v := ?_) rfl (by kernel_rfl) (by kernel_rfl) (by kernel_rfl) (fun _ _ _ h => h) (Or.inl ⟨by rfl, ?_⟩) (by assumption) ?_
  rotate_left
  · (intro w hSw; (try dsimp only at hSw); go_simp; try with_reducible rfl)
  try simp only [List.getElem_toArray, List.getElem_cons_zero, List.getElem_cons_succ, Act.put, List.setIfInBounds_toArray, List.set_cons_zero, List.set_cons_succ]
  refine wpAnyH_take (i := 9) (v := ?_) rfl (by kernel_rfl) (by kernel_rfl) (by kernel_rfl) (fun _ _ _ h => h) (Or.inl ⟨by rfl, ?_⟩) (by assumption) ?_
  rotate_left
  · (intro w hSw; (try dsimp only at hSw); go_simp; try with_reducible rfl)
  try simp only [List.getElem_toArray, List.getElem_cons_zero, List.getElem_cons_succ, Act.put, List.setIfInBounds_toArray, List.set_cons_zero, List.set_cons_succ]
  refine wpAnyH_ready (rs := [10, 14]) (by kernel_rfl) (by simp) ?_
  refine AllReadyH.cons (o := _) rfl (fun K hK => ?_) (AllReadyH.cons (o := _) rfl (fun K hK => ?_) AllReadyH.nil)
  · go_simp
    refine (HL.out _ (H.out.below (B2.out.trans (BD.out.mono B2.out.size)))).mono ?_
    rintro e W3 ⟨rfl, hb⟩
    have hb' : Below W2.heap.size W2 W3 := BD.out.trans (hb.mono BD.out.size)
    go_wp2_with fail
    refine hK.out _ _ (KC.out _ hb') (fun hHeld2 => ?_)
    clear hK K hHeld hb
    try simp only [List.getElem_toArray, List.getElem_cons_zero, List.getElem_cons_succ, Act.put, List.setIfInBounds_toArray, List.set_cons_zero, List.set_cons_succ]
    refine wpAnyH_take (i := 11) (v := ?_) rfl (by kernel_rfl) (by kernel_rfl) (by kernel_rfl) (fun _ _ _ h => h) (Or.inl ⟨by rfl, ?_⟩) (by assumption) ?_
    rotate_left
    · (intro w hSw; (try dsimp only at hSw); go_simp; try with_reducible rfl)
    try simp only [List.getElem_toArray, List.getElem_cons_zero, List.getElem_cons_succ, Act.put, List.setIfInBounds_toArray, List.set_cons_zero, List.set_cons_succ]
    refine wpAnyH_take (i := 12) (v := ?_) rfl (by kernel_rfl) (by kernel_rfl) (by kernel_rfl) (fun _ _ _ h => h) (Or.inl ⟨by rfl, ?_⟩) (by assumption) ?_
    rotate_left
    · (intro w hSw; (try dsimp only at hSw); go_simp; try with_reducible rfl)
    try simp only [List.getElem_toArray, List.getElem_cons_zero, List.getElem_cons_succ, Act.put, List.setIfInBounds_toArray, List.set_cons_zero, List.set_cons_succ]
    refine wpAnyH_take (i := 13) (v := ?_) rfl (by kernel_rfl) (by kernel_rfl) (by kernel_rfl) (fun _ _ _ h => h) (Or.inl ⟨by rfl, ?_⟩) (by assumption) ?_
    rotate_left
    · (intro w hSw; (try dsimp only at hSw); go_simp; try with_reducible rfl)
    try simp only [List.getElem_toArray, List.getElem_cons_zero, List.getElem_cons_succ, Act.put, List.setIfInBounds_toArray, List.set_cons_zero, List.set_cons_succ]
    refine wpAnyH_ready (rs := [14]) (by kernel_rfl) (by simp) ?_
    refine AllReadyH.cons (o := _) rfl (fun K hK => ?_) AllReadyH.nil
    go_simp
    have hb3 : Below W2.heap.size W2 (W3.alloc (.cells #[.int .i64 0, .int .i64 0, .int .i64 0, .int .u32 0, .int .i64 0, .int .i64 0, .bool false, .int .u32 0, .int .u32 0, .int .i64 0, .int .i64 0, .int .i64 0, .string ⟨#[]⟩, .string ⟨#[]⟩] 48)) := hb'.alloc hb'.size _
    have hr5 : (W3.alloc (.cells #[.int .i64 0, .int .i64 0, .int .i64 0, .int .u32 0, .int .i64 0, .int .i64 0, .bool false, .int .u32 0, .int .u32 0, .int .i64 0, .int .i64 0, .int .i64 0, .string ⟨#[]⟩, .string ⟨#[]⟩] 48)).heap[W3.heap.size]? = some (.cells #[.int .i64 0, .int .i64 0, .int .i64 0, .int .u32 0, .int .i64 0, .int .i64 0, .bool false, .int .u32 0, .int .u32 0, .int .i64 0, .int .i64 0, .int .i64 0, .string ⟨#[]⟩, .string ⟨#[]⟩] 48 (0, 0)) := heap_alloc_new W3 _
    have hgw : W2.heap.size ≤ W3.heap.size := hb'.size
    refine hK.out _ _ (KC.out _ hb3) (fun hHeld3 => ?_)
    clear hK K hHeld2 hb'
    try simp only [List.getElem_toArray, List.getElem_cons_zero, List.getElem_cons_succ, Act.put, List.setIfInBounds_toArray, List.set_cons_zero, List.set_cons_succ]
    obtain ⟨V3, hV⟩ : ∃ V, W3.alloc (.cells #[.int .i64 0, .int .i64 0, .int .i64 0, .int .u32 0, .int .i64 0, .int .i64 0, .bool false, .int .u32 0, .int .u32 0, .int .i64 0, .int .i64 0, .int .i64 0, .string ⟨#[]⟩, .string ⟨#[]⟩] 48) = V := ⟨_, rfl⟩
    obtain ⟨gl, hgl⟩ : ∃ g, W3.heap.size = g := ⟨_, rfl⟩
    rw [hV] at hb3 hr5 hHeld3 ⊢
    rw [hgl] at hr5 hgw ⊢
    clear hV hgl
    refine wpAnyH_ready (rs := [15]) (by kernel_rfl) (by simp) ?_
    refine AllReadyH.cons (o := _) rfl (fun K hK => ?_) AllReadyH.nil
    refine Ca.step_store_at rfl 48 _ _ rfl gl 0 #[.int .i64 0, .int .i64 0, .int .i64 0, .int .u32 0, .int .i64 0, .int .i64 0, .bool false, .int .u32 0, .int .u32 0, .int .i64 0, .int .i64 0, .int .i64 0, .string ⟨#[]⟩, .string ⟨#[]⟩] #[.int .i64 k, .int .i64 ty, .int .i64 co, .int .u32 re, .int .i64 sp, .int .i64 dp, .bool ns, .int .u32 sq, .int .u32 ak, .int .i64 fl, .int .i64 wi, .int .i64 ur, .string (strOfNums lo), .string (strOfNums ds)] 48 rfl rfl hr5 (by kernel_rfl) (Nat.le_of_ble_eq_true (by kernel_rfl)) (by kernel_rfl) ?_
    intro W4 y1 y2 y3 y4
    have hg8 : g8 < gl := by have := Ca.lt_of_heap I2.out; omega
    have hg0 : w.heap.size < g8 := N2.out
    have R4 : Hid (W4.heap[gl]? = some (.cells #[.int .i64 k, .int .i64 ty, .int .i64 co, .int .u32 re, .int .i64 sp, .int .i64 dp, .bool ns, .int .u32 sq, .int .u32 ak, .int .i64 fl, .int .i64 wi, .int .i64 ur, .string (strOfNums lo), .string (strOfNums ds)] 48 (0, 0))) := by show _ = _; rw [← put_l4c k ty co re sp dp ns sq ak fl wi ur lo ds]; exact y1
    have P4 : Hid (W4.heap[w.heap.size]? = some (.cells #[.int .u32 0, .int .u32 0, .int .i64 0, .int .i64 0, .bool false, .slice none 0 0, .string ⟨#[]⟩] 25 (0, 0))) := (y2 _ (by omega)).trans ((hb3.block _ (Ca.lt_of_heap P2.out)).trans P2.out)
    have I4 : Hid (W4.heap[g8]? = some (.cells #[.int .i64 tos, .int .i64 id, .int .i64 fr0, .int .i64 ttl, .int .i64 pr, .int .u32 src, .int .u32 dst, .string (strOfNums io)] 51 (0, 0))) := (y2 _ (by omega)).trans ((hb3.block _ (Ca.lt_of_heap I2.out)).trans I2.out)
    have B4 : Hid (Below w.heap.size w W4) := (B2.out.trans (hb3.mono B2.out.size)).trans (y4.mono (by omega))
    have N4 : Hid (w.heap.size < g8 ∧ g8 < gl) := ⟨hg0, hg8⟩
    refine hK.out _ _ ⟨cells14g I4.out 5, cells14g I4.out 6, cells14g I4.out 4⟩ (fun hHeld4 => ?_)
    clear hK K hHeld3 hb3 hr5 y1 y2 y3 y4 B2 P2 I2 KC hg8 hg0 hgw N2 BD
    try simp only [List.getElem_toArray, List.getElem_cons_zero, List.getElem_cons_succ, Act.put, List.setIfInBounds_toArray, List.set_cons_zero, List.set_cons_succ]
    refine wpAnyH_take (i := 16) (v := ?_) rfl (by kernel_rfl) (by kernel_rfl) (by kernel_rfl) (fun _ _ _ h => h) (Or.inl ⟨by rfl, ?_⟩) (by assumption) ?_
    rotate_left
    · (intro w hSw; (try dsimp only at hSw); go_simp; try with_reducible rfl)
    try simp only [List.getElem_toArray, List.getElem_cons_zero, List.getElem_cons_succ, Act.put, List.setIfInBounds_toArray, List.set_cons_zero, List.set_cons_succ]
    clear hHeld4
    refine wpAnyH_done (by kernel_rfl) ?_ _
    try simp only [List.getElem_toArray, List.getElem_cons_zero, List.getElem_cons_succ, Act.put, List.setIfInBounds_toArray, List.set_cons_zero, List.set_cons_succ]
    by_cases hf0 : f = 0
    · subst hf0
      have c13 := cells14g R4.out 13
      simp only [List.getElem?_toArray, List.getElem?_cons_succ, List.getElem?_cons_zero] at c13
      go_wp2_with fail
      refine (HR.out (by first | rfl | trivial) _).mono ?_
      rintro e W6 ⟨oa, oc, rfl, hO6, hfar, hb⟩
      have hbw := below1 W6 (.cells #[.int .u32 0, .int .u32 0, .int .i64 0, .int .i64 vni, .bool oam, .slice oa os.length oc, .string (strOfNums fr)] 25)
      have hb7 : Below W4.heap.size W4 (W6.alloc (.cells #[.int .u32 0, .int .u32 0, .int .i64 0, .int .i64 vni, .bool oam, .slice oa os.length oc, .string (strOfNums fr)] 25)) := hb.trans (hbw.mono hb.size)
      have B7 : Hid (Below w.heap.size w (W6.alloc (.cells #[.int .u32 0, .int .u32 0, .int .i64 0, .int .i64 vni, .bool oam, .slice oa os.length oc, .string (strOfNums fr)] 25))) := B4.out.trans (hb7.mono B4.out.size)
      have R7' : Hid ((W6.alloc (.cells #[.int .u32 0, .int .u32 0, .int .i64 0, .int .i64 vni, .bool oam, .slice oa os.length oc, .string (strOfNums fr)] 25)).heap[gl]? = some (.cells #[.int .i64 k, .int .i64 ty, .int .i64 co, .int .u32 re, .int .i64 sp, .int .i64 dp, .bool ns, .int .u32 sq, .int .u32 ak, .int .i64 fl, .int .i64 wi, .int .i64 ur, .string (strOfNums lo), .string (strOfNums ds)] 48 (0, 0))) := (hb7.block _ (Ca.lt_of_heap R4.out)).trans R4.out
      have P7 : Hid ((W6.alloc (.cells #[.int .u32 0, .int .u32 0, .int .i64 0, .int .i64 vni, .bool oam, .slice oa os.length oc, .string (strOfNums fr)] 25)).heap[w.heap.size]? = some (.cells #[.int .u32 0, .int .u32 0, .int .i64 0, .int .i64 0, .bool false, .slice none 0 0, .string ⟨#[]⟩] 25 (0, 0))) := (hb7.block _ (Ca.lt_of_heap P4.out)).trans P4.out
      have I7 : Hid ((W6.alloc (.cells #[.int .u32 0, .int .u32 0, .int .i64 0, .int .i64 vni, .bool oam, .slice oa os.length oc, .string (strOfNums fr)] 25)).heap[g8]? = some (.cells #[.int .i64 tos, .int .i64 id, .int .i64 fr0, .int .i64 ttl, .int .i64 pr, .int .u32 src, .int .u32 dst, .string (strOfNums io)] 51 (0, 0))) := (hb7.block _ (Ca.lt_of_heap I4.out)).trans I4.out
      have Q7 : Hid ((W6.alloc (.cells #[.int .u32 0, .int .u32 0, .int .i64 0, .int .i64 vni, .bool oam, .slice oa os.length oc, .string (strOfNums fr)] 25)).heap[W6.heap.size]? = some (.cells #[.int .u32 0, .int .u32 0, .int .i64 0, .int .i64 vni, .bool oam, .slice oa os.length oc, .string (strOfNums fr)] 25 (0, 0))) := heap_alloc_new W6 _
      have O7 : Hid (OS (W6.alloc (.cells #[.int .u32 0, .int .u32 0, .int .i64 0, .int .i64 vni, .bool oam, .slice oa os.length oc, .string (strOfNums fr)] 25)) oa os.length os) := hO6.below hbw
      have N7 : Hid (gl < W6.heap.size) := by have h1 := Ca.lt_of_heap R4.out; have h2 := hb.size; show _ < _; omega
      have HFR0 : Hid (∀ x, oa = some x → w.heap.size < x.block) := fun x e => by have h1 := hfar x e; have h2 := Ca.lt_of_heap P4.out; omega
      have HFR : Hid (∀ x, oa = some x → x.block < W6.heap.size ∨ os.length = 0) := fun x e => by
        rcases hO6.cells with h0 | ⟨b', off', e', hc⟩
        · exact .inr h0
        · rcases Nat.eq_zero_or_pos os.length with h0 | h0
          · exact .inr h0
          · rw [e'] at e
            cases e
            exact .inl (cell_lt (hc 0 os[0] (List.getElem?_eq_getElem h0)).1)
      go_wp2_with fail
      obtain ⟨W7, hW⟩ : ∃ V, W6.alloc (.cells #[.int .u32 0, .int .u32 0, .int .i64 0, .int .i64 vni, .bool oam, .slice oa os.length oc, .string (strOfNums fr)] 25) = V := ⟨_, rfl⟩
      obtain ⟨g9, hg9⟩ : ∃ g, W6.heap.size = g := ⟨_, rfl⟩
      rw [hW] at B7 R7' P7 I7 Q7 O7 ⊢
      rw [hg9] at Q7 N7 HFR ⊢
      clear hW hg9 hb hbw hb7 hO6 hfar c13 B4 R4 P4 I4 HR
      have hA5 := cells14g I7.out 5
      have hA6 := cells14g I7.out 6
      have hA4 := cells14g R7'.out 4
      have hB0 := cells14g Q7.out 0
      have hB1 := cells14g Q7.out 1
      have hB2 := cells14g Q7.out 2
      simp only [List.getElem?_toArray, List.getElem?_cons_succ, List.getElem?_cons_zero] at hA5 hA6 hA4 hB0 hB1 hB2
      have hF0 := frozen_of_row W7 _ 0 _ _ Q7.out
      have hF1 := frozen_of_row W7 _ 1 _ _ Q7.out
      have hF2 := frozen_of_row W7 _ 2 _ _ Q7.out
      have hn1 : ¬ g9 = g8 := by have := N7.out; have := N4.out; omega
      have hn2 : ¬ g8 = g9 := by have := N7.out; have := N4.out; omega
      have hn3 : ¬ g9 = gl := by have := N7.out; omega
      have hn4 : ¬ gl = g9 := by have := N7.out; omega
      have hn5 : w.heap.size < g9 := by have := N7.out; have := N4.out; omega
      go_region
      clear hA5 hA6 hA4 hB0 hB1 hB2 hF0 hF1 hF2
      have Q8 : Hid ((((W7.setCell ⟨g9, 0, none⟩ (.int .u32 src)).setCell ⟨g9, 1, none⟩ (.int .u32 dst)).setCell ⟨g9, 2, none⟩ (.int .i64 sp)).drew.heap[g9]? = some (.cells #[.int .u32 src, .int .u32 dst, .int .i64 sp, .int .i64 vni, .bool oam, .slice oa os.length oc, .string (strOfNums fr)] 25 (0, 0))) := Ca.row_setCell (Ca.row_setCell (Ca.row_setCell Q7.out 0 (.int .u32 src)) 1 (.int .u32 dst)) 2 (.int .i64 sp)
      have P8 : Hid ((((W7.setCell ⟨g9, 0, none⟩ (.int .u32 src)).setCell ⟨g9, 1, none⟩ (.int .u32 dst)).setCell ⟨g9, 2, none⟩ (.int .i64 sp)).drew.heap[w.heap.size]? = some (.cells #[.int .u32 0, .int .u32 0, .int .i64 0, .int .i64 0, .bool false, .slice none 0 0, .string ⟨#[]⟩] 25 (0, 0))) := (Below.heap_setCell _ _ _ _ (show w.heap.size ≠ g9 by omega)).trans ((Below.heap_setCell _ _ _ _ (show w.heap.size ≠ g9 by omega)).trans ((Below.heap_setCell _ _ _ _ (show w.heap.size ≠ g9 by omega)).trans P7.out))
      have B8 : Hid (Below w.heap.size w (((W7.setCell ⟨g9, 0, none⟩ (.int .u32 src)).setCell ⟨g9, 1, none⟩ (.int .u32 dst)).setCell ⟨g9, 2, none⟩ (.int .i64 sp)).drew) := (((B7.out.setCell (show w.heap.size ≤ g9 by omega) _).setCell (show w.heap.size ≤ g9 by omega) _).setCell (show w.heap.size ≤ g9 by omega) _).drew
      have O8 : Hid (OS (((W7.setCell ⟨g9, 0, none⟩ (.int .u32 src)).setCell ⟨g9, 1, none⟩ (.int .u32 dst)).setCell ⟨g9, 2, none⟩ (.int .i64 sp)).drew oa os.length os) := os_drew (os_far0 (os_far0 (os_far0 O7.out HFR.out 0 _) HFR.out 1 _) HFR.out 2 _)
      obtain ⟨W8, hW⟩ : ∃ V, (((W7.setCell ⟨g9, 0, none⟩ (.int .u32 src)).setCell ⟨g9, 1, none⟩ (.int .u32 dst)).setCell ⟨g9, 2, none⟩ (.int .i64 sp)).drew = V := ⟨_, rfl⟩
      rw [hW] at Q8 P8 B8 O8 ⊢
      clear hW B7 R7' P7 Q7 I7 O7 hn1 hn2 hn3 hn4
      obtain ⟨x0, x1, x2, x3, x4, x5, x6⟩ := seven Q8.out
      go_wp2_with fail
      refine (HE.out _ _ _ O8.out).mono ?_
      rintro e W9 ⟨hb, hr⟩
      have B9 : Hid (Below w.heap.size w W9) := B8.out.trans (hb.mono B8.out.size)
      have P9 : Hid (W9.heap[w.heap.size]? = some (.cells #[.int .u32 0, .int .u32 0, .int .i64 0, .int .i64 0, .bool false, .slice none 0 0, .string ⟨#[]⟩] 25 (0, 0))) := (hb.block _ (Ca.lt_of_heap P8.out)).trans P8.out
      have Q9 : Hid (W9.heap[g9]? = some (.cells #[.int .u32 src, .int .u32 dst, .int .i64 sp, .int .i64 vni, .bool oam, .slice oa os.length oc, .string (strOfNums fr)] 25 (0, 0))) := (hb.block _ (Ca.lt_of_heap Q8.out)).trans Q8.out
      have O9 : Hid _ := O8.out.below hb
      clear hb HE x0 x1 x2 x3 x4 x5 x6 B8 P8 Q8 O8
      cases okb
      · rcases hr with ⟨_, rfl⟩ | ⟨_, a2, c2, rfl, _⟩
        · go_wp2_with (first
            | refine Ca.wpList_store_row rfl 25 _ _ rfl w.heap.size #[.int .u32 0, .int .u32 0, .int .i64 0, .int .i64 0, .bool false, .slice none 0 0, .string ⟨#[]⟩] #[.int .u32 0, .int .u32 0, .int .i64 0, .int .i64 0, .bool false, .slice none 0 0, .string ⟨#[]⟩] 25 rfl rfl P9.out (by kernel_rfl) rfl (by kernel_rfl) ?_
            | fail)
          intro W11 y1 y2 y3 y4
          go_wp2
          exact bodyPost_ret (results_tb (p := 2) (u := 3) rfl _ _ w.heap.size _ rfl y1 rfl) rfl ⟨B9.out.trans (y4.mono (Nat.le_refl _)), .inr (.inl ⟨rfl, .inl rfl, rfl⟩)⟩
        · go_wp2_with (first
            | refine Ca.wpList_store_row rfl 25 _ _ rfl w.heap.size #[.int .u32 0, .int .u32 0, .int .i64 0, .int .i64 0, .bool false, .slice none 0 0, .string ⟨#[]⟩] #[.int .u32 0, .int .u32 0, .int .i64 0, .int .i64 0, .bool false, .slice none 0 0, .string ⟨#[]⟩] 25 rfl rfl P9.out (by kernel_rfl) rfl (by kernel_rfl) ?_
            | fail)
          intro W11 y1 y2 y3 y4
          go_wp2
          exact bodyPost_ret (results_tb (p := 2) (u := 3) rfl _ _ w.heap.size _ rfl y1 rfl) rfl ⟨B9.out.trans (y4.mono (Nat.le_refl _)), .inr (.inl ⟨rfl, .inl rfl, rfl⟩)⟩
      rcases hr with ⟨hE1, rfl⟩ | ⟨hE1, a2, c2, rfl, hS9⟩
      · have hE2 := hE1
        obtain ⟨fc, hf⟩ : ∃ f, chkE sp vni os fr.length = f := ⟨_, rfl⟩
        rw [hf] at hE1 ⊢
        have hf1 : (fc != 0) = true := by simpa using hE1
        clear hE1 hf
        have HE2 : Hid _ := hE2
        clear hE2
        go_wp2_with (first
          | refine Ca.wpList_store_row rfl 25 _ _ rfl w.heap.size #[.int .u32 0, .int .u32 0, .int .i64 0, .int .i64 0, .bool false, .slice none 0 0, .string ⟨#[]⟩] #[.int .u32 0, .int .u32 0, .int .i64 0, .int .i64 0, .bool false, .slice none 0 0, .string ⟨#[]⟩] 25 rfl rfl P9.out (by kernel_rfl) rfl (by kernel_rfl) ?_
          | fail)
        intro W11 y1 y2 y3 y4
        go_wp2
        exact bodyPost_ret (results_tb (p := 2) (u := 3) rfl _ _ w.heap.size _ rfl y1 rfl) rfl ⟨B9.out.trans (y4.mono (Nat.le_refl _)), .inr (.inl ⟨rfl, .inr (.inl HE2.out), rfl⟩)⟩
      have H9 := H.out.below B9.out
      have cv1 := run_conv_bs (P := Try.prog) c2 hS9 26 9 5 Try.underlying26 Try.underlying5 Try.underlying9
      have cv2 := run_conv_bs (P := Try.prog) cap H9 26 9 5 Try.underlying26 Try.underlying5 Try.underlying9
      have HE1 : Hid _ := hE1
      clear hE1
      by_cases hne : encB src dst sp vni oam os fr = zs
      · have HN : Hid _ := hne
        rw [hne] at cv1 ⊢
        clear hne H9 hS9
        go_wp2_with (first
          | refine wpList_load_row rfl 25 _ rfl g9 rfl 25 #[.int .u32 src, .int .u32 dst, .int .i64 sp, .int .i64 vni, .bool oam, .slice oa os.length oc, .string (strOfNums fr)] (0, 0) _ Q9.out Try.underlying25 rfl infoTn ?_
          | refine Ca.wpList_store_row rfl 25 _ _ rfl w.heap.size #[.int .u32 0, .int .u32 0, .int .i64 0, .int .i64 0, .bool false, .slice none 0 0, .string ⟨#[]⟩] #[.int .u32 src, .int .u32 dst, .int .i64 sp, .int .i64 vni, .bool oam, .slice oa os.length oc, .string (strOfNums fr)] 25 rfl rfl P9.out (by kernel_rfl) rfl (by kernel_rfl) ?_
          | fail)
        intro W11 y1 y2 y3 y4
        have OS5 : Hid (OS W11 oa os.length os) := os_far2 O9.out y2 (fun x e => by have := HFR0.out x e; omega)
        go_wp2
        exact bodyPost_ret (results_tb (p := 2) (u := 3) rfl _ _ w.heap.size _ rfl y1 rfl) rfl ⟨B9.out.trans (y4.mono (Nat.le_refl _)), .inr (.inr ⟨rfl, rfl, HE1.out, HN.out, oa, oc, rfl, OS5.out⟩)⟩
      · have hs9 := str_ne9 hS9.fits H9.fits hne
        have HN : Hid _ := hne
        obtain ⟨EB, hEB⟩ : ∃ B, encB src dst sp vni oam os fr = B := ⟨_, rfl⟩
        rw [hEB] at cv1 hs9 ⊢
        clear hne hEB H9 hS9
        go_wp2_with (first
          | refine Ca.wpList_store_row rfl 25 _ _ rfl w.heap.size #[.int .u32 0, .int .u32 0, .int .i64 0, .int .i64 0, .bool false, .slice none 0 0, .string ⟨#[]⟩] #[.int .u32 0, .int .u32 0, .int .i64 0, .int .i64 0, .bool false, .slice none 0 0, .string ⟨#[]⟩] 25 rfl rfl P9.out (by kernel_rfl) rfl (by kernel_rfl) ?_
          | fail)
        intro W11 y1 y2 y3 y4
        go_wp2
        exact bodyPost_ret (results_tb (p := 2) (u := 3) rfl _ _ w.heap.size _ rfl y1 rfl) rfl ⟨B9.out.trans (y4.mono (Nat.le_refl _)), .inr (.inl ⟨rfl, .inr (.inr HN.out), rfl⟩)⟩
    · have hf1 : (f != 0) = true := by simpa using hf0
      have HF0 : Hid _ := hf0
      clear hf0
      go_wp2_with (first
        | refine Ca.wpList_store_row rfl 25 _ _ rfl w.heap.size #[.int .u32 0, .int .u32 0, .int .i64 0, .int .i64 0, .bool false, .slice none 0 0, .string ⟨#[]⟩] #[.int .u32 0, .int .u32 0, .int .i64 0, .int .i64 0, .bool false, .slice none 0 0, .string ⟨#[]⟩] 25 rfl rfl P4.out (by kernel_rfl) rfl (by kernel_rfl) ?_
        | fail)
      intro W11 y1 y2 y3 y4
      go_wp2
      exact bodyPost_ret (results_tb (p := 2) (u := 3) rfl _ _ w.heap.size _ rfl y1 rfl) rfl ⟨B4.out.trans (y4.mono (Nat.le_refl _)), .inl ⟨HF0.out, rfl⟩⟩
  · go_simp
    have hb2 : Below W2.heap.size W2 (WD.alloc (.cells #[.int .i64 0, .int .i64 0, .int .i64 0, .int .u32 0, .int .i64 0, .int .i64 0, .bool false, .int .u32 0, .int .u32 0, .int .i64 0, .int .i64 0, .int .i64 0, .string ⟨#[]⟩, .string ⟨#[]⟩] 48)) := BD.out.alloc BD.out.size _
    have hr2 : (WD.alloc (.cells #[.int .i64 0, .int .i64 0, .int .i64 0, .int .u32 0, .int .i64 0, .int .i64 0, .bool false, .int .u32 0, .int .u32 0, .int .i64 0, .int .i64 0, .int .i64 0, .string ⟨#[]⟩, .string ⟨#[]⟩] 48)).heap[WD.heap.size]? = some (.cells #[.int .i64 0, .int .i64 0, .int .i64 0, .int .u32 0, .int .i64 0, .int .i64 0, .bool false, .int .u32 0, .int .u32 0, .int .i64 0, .int .i64 0, .int .i64 0, .string ⟨#[]⟩, .string ⟨#[]⟩] 48 (0, 0)) := heap_alloc_new WD _
    have hgw : W2.heap.size ≤ WD.heap.size := BD.out.size
    refine hK.out _ _ (KC.out _ hb2) (fun hHeld2 => ?_)
    clear hK K hHeld
    try simp only [List.getElem_toArray, List.getElem_cons_zero, List.getElem_cons_succ, Act.put, List.setIfInBounds_toArray, List.set_cons_zero, List.set_cons_succ]
    obtain ⟨V2, hV⟩ : ∃ V, WD.alloc (.cells #[.int .i64 0, .int .i64 0, .int .i64 0, .int .u32 0, .int .i64 0, .int .i64 0, .bool false, .int .u32 0, .int .u32 0, .int .i64 0, .int .i64 0, .int .i64 0, .string ⟨#[]⟩, .string ⟨#[]⟩] 48) = V := ⟨_, rfl⟩
    obtain ⟨gl, hgl⟩ : ∃ g, WD.heap.size = g := ⟨_, rfl⟩
    rw [hV] at hb2 hr2 hHeld2 ⊢
    rw [hgl] at hr2 hgw ⊢
    clear hV hgl
    refine wpAnyH_ready (rs := [10]) (by kernel_rfl) (by simp) ?_
    refine AllReadyH.cons (o := _) rfl (fun K hK => ?_) AllReadyH.nil
    go_simp
    refine (HL.out _ (H.out.below (B2.out.trans (hb2.mono B2.out.size)))).mono ?_
    rintro e V3 ⟨rfl, hb⟩
    have hb3 : Below W2.heap.size W2 V3 := hb2.trans (hb.mono hb2.size)
    have hr5 : V3.heap[gl]? = some (.cells #[.int .i64 0, .int .i64 0, .int .i64 0, .int .u32 0, .int .i64 0, .int .i64 0, .bool false, .int .u32 0, .int .u32 0, .int .i64 0, .int .i64 0, .int .i64 0, .string ⟨#[]⟩, .string ⟨#[]⟩] 48 (0, 0)) := (hb.block _ (Ca.lt_of_heap hr2)).trans hr2
    go_wp2_with fail
    refine hK.out _ _ (KC.out _ hb3) (fun hHeld3 => ?_)
    clear hK K hHeld2 hb hb2 hr2
    try simp only [List.getElem_toArray, List.getElem_cons_zero, List.getElem_cons_succ, Act.put, List.setIfInBounds_toArray, List.set_cons_zero, List.set_cons_succ]
    refine wpAnyH_take (i := 11) (v := ?_) rfl (by kernel_rfl) (by kernel_rfl) (by kernel_rfl) (fun _ _ _ h => h) (Or.inl ⟨by rfl, ?_⟩) (by assumption) ?_
    rotate_left
    · (intro w hSw; (try dsimp only at hSw); go_simp; try with_reducible rfl)
    try simp only [List.getElem_toArray, List.getElem_cons_zero, List.getElem_cons_succ, Act.put, List.setIfInBounds_toArray, List.set_cons_zero, List.set_cons_succ]
    refine wpAnyH_take (i := 12) (v := ?_) rfl (by kernel_rfl) (by kernel_rfl) (by kernel_rfl) (fun _ _ _ h => h) (Or.inl ⟨by rfl, ?_⟩) (by assumption) ?_
    rotate_left
    · (intro w hSw; (try dsimp only at hSw); go_simp; try with_reducible rfl)
    try simp only [List.getElem_toArray, List.getElem_cons_zero, List.getElem_cons_succ, Act.put, List.setIfInBounds_toArray, List.set_cons_zero, List.set_cons_succ]
    refine wpAnyH_take (i := 13) (v := ?_) rfl (by kernel_rfl) (by kernel_rfl) (by kernel_rfl) (fun _ _ _ h => h) (Or.inl ⟨by rfl, ?_⟩) (by assumption) ?_
    rotate_left
    · (intro w hSw; (try dsimp only at hSw); go_simp; try with_reducible rfl)
    try simp only [List.getElem_toArray, List.getElem_cons_zero, List.getElem_cons_succ, Act.put, List.setIfInBounds_toArray, List.set_cons_zero, List.set_cons_succ]
    refine wpAnyH_ready (rs := [15]) (by kernel_rfl) (by simp) ?_
    refine AllReadyH.cons (o := _) rfl (fun K hK => ?_) AllReadyH.nil
    refine Ca.step_store_at rfl 48 _ _ rfl gl 0 #[.int .i64 0, .int .i64 0, .int .i64 0, .int .u32 0, .int .i64 0, .int .i64 0, .bool false, .int .u32 0, .int .u32 0, .int .i64 0, .int .i64 0, .int .i64 0, .string ⟨#[]⟩, .string ⟨#[]⟩] #[.int .i64 k, .int .i64 ty, .int .i64 co, .int .u32 re, .int .i64 sp, .int .i64 dp, .bool ns, .int .u32 sq, .int .u32 ak, .int .i64 fl, .int .i64 wi, .int .i64 ur, .string (strOfNums lo), .string (strOfNums ds)] 48 rfl rfl hr5 (by kernel_rfl) (Nat.le_of_ble_eq_true (by kernel_rfl)) (by kernel_rfl) ?_
    intro W4 y1 y2 y3 y4
    have hg8 : g8 < gl := by have := Ca.lt_of_heap I2.out; omega
    have hg0 : w.heap.size < g8 := N2.out
    have R4 : Hid (W4.heap[gl]? = some (.cells #[.int .i64 k, .int .i64 ty, .int .i64 co, .int .u32 re, .int .i64 sp, .int .i64 dp, .bool ns, .int .u32 sq, .int .u32 ak, .int .i64 fl, .int .i64 wi, .int .i64 ur, .string (strOfNums lo), .string (strOfNums ds)] 48 (0, 0))) := by show _ = _; rw [← put_l4c k ty co re sp dp ns sq ak fl wi ur lo ds]; exact y1
    have P4 : Hid (W4.heap[w.heap.size]? = some (.cells #[.int .u32 0, .int .u32 0, .int .i64 0, .int .i64 0, .bool false, .slice none 0 0, .string ⟨#[]⟩] 25 (0, 0))) := (y2 _ (by omega)).trans ((hb3.block _ (Ca.lt_of_heap P2.out)).trans P2.out)
    have I4 : Hid (W4.heap[g8]? = some (.cells #[.int .i64 tos, .int .i64 id, .int .i64 fr0, .int .i64 ttl, .int .i64 pr, .int .u32 src, .int .u32 dst, .string (strOfNums io)] 51 (0, 0))) := (y2 _ (by omega)).trans ((hb3.block _ (Ca.lt_of_heap I2.out)).trans I2.out)
    have B4 : Hid (Below w.heap.size w W4) := (B2.out.trans (hb3.mono B2.out.size)).trans (y4.mono (by omega))
    have N4 : Hid (w.heap.size < g8 ∧ g8 < gl) := ⟨hg0, hg8⟩
    refine hK.out _ _ ⟨cells14g I4.out 5, cells14g I4.out 6, cells14g I4.out 4⟩ (fun hHeld4 => ?_)
    clear hK K hHeld3 hb3 hr5 y1 y2 y3 y4 B2 P2 I2 KC hg8 hg0 hgw N2 BD
    try simp only [List.getElem_toArray, List.getElem_cons_zero, List.getElem_cons_succ, Act.put, List.setIfInBounds_toArray, List.set_cons_zero, List.set_cons_succ]
    refine wpAnyH_take (i := 16) (v := ?_) rfl (by kernel_rfl) (by kernel_rfl) (by kernel_rfl) (fun _ _ _ h => h) (Or.inl ⟨by rfl, ?_⟩) (by assumption) ?_
    rotate_left
    · (intro w hSw; (try dsimp only at hSw); go_simp; try with_reducible rfl)
    try simp only [List.getElem_toArray, List.getElem_cons_zero, List.getElem_cons_succ, Act.put, List.setIfInBounds_toArray, List.set_cons_zero, List.set_cons_succ]
    clear hHeld4
    refine wpAnyH_done (by kernel_rfl) ?_ _
    try simp only [List.getElem_toArray, List.getElem_cons_zero, List.getElem_cons_succ, Act.put, List.setIfInBounds_toArray, List.set_cons_zero, List.set_cons_succ]
    by_cases hf0 : f = 0
    · subst hf0
      have c13 := cells14g R4.out 13
      simp only [List.getElem?_toArray, List.getElem?_cons_succ, List.getElem?_cons_zero] at c13
      go_wp2_with fail
      refine (HR.out (by first | rfl | trivial) _).mono ?_
      rintro e W6 ⟨oa, oc, rfl, hO6, hfar, hb⟩
      have hbw := below1 W6 (.cells #[.int .u32 0, .int .u32 0, .int .i64 0, .int .i64 vni, .bool oam, .slice oa os.length oc, .string (strOfNums fr)] 25)
      have hb7 : Below W4.heap.size W4 (W6.alloc (.cells #[.int .u32 0, .int .u32 0, .int .i64 0, .int .i64 vni, .bool oam, .slice oa os.length oc, .string (strOfNums fr)] 25)) := hb.trans (hbw.mono hb.size)
      have B7 : Hid (Below w.heap.size w (W6.alloc (.cells #[.int .u32 0, .int .u32 0, .int .i64 0, .int .i64 vni, .bool oam, .slice oa os.length oc, .string (strOfNums fr)] 25))) := B4.out.trans (hb7.mono B4.out.size)
      have R7' : Hid ((W6.alloc (.cells #[.int .u32 0, .int .u32 0, .int .i64 0, .int .i64 vni, .bool oam, .slice oa os.length oc, .string (strOfNums fr)] 25)).heap[gl]? = some (.cells #[.int .i64 k, .int .i64 ty, .int .i64 co, .int .u32 re, .int .i64 sp, .int .i64 dp, .bool ns, .int .u32 sq, .int .u32 ak, .int .i64 fl, .int .i64 wi, .int .i64 ur, .string (strOfNums lo), .string (strOfNums ds)] 48 (0, 0))) := (hb7.block _ (Ca.lt_of_heap R4.out)).trans R4.out
      have P7 : Hid ((W6.alloc (.cells #[.int .u32 0, .int .u32 0, .int .i64 0, .int .i64 vni, .bool oam, .slice oa os.length oc, .string (strOfNums fr)] 25)).heap[w.heap.size]? = some (.cells #[.int .u32 0, .int .u32 0, .int .i64 0, .int .i64 0, .bool false, .slice none 0 0, .string ⟨#[]⟩] 25 (0, 0))) := (hb7.block _ (Ca.lt_of_heap P4.out)).trans P4.out
      have I7 : Hid ((W6.alloc (.cells #[.int .u32 0, .int .u32 0, .int .i64 0, .int .i64 vni, .bool oam, .slice oa os.length oc, .string (strOfNums fr)] 25)).heap[g8]? = some (.cells #[.int .i64 tos, .int .i64 id, .int .i64 fr0, .int .i64 ttl, .int .i64 pr, .int .u32 src, .int .u32 dst, .string (strOfNums io)] 51 (0, 0))) := (hb7.block _ (Ca.lt_of_heap I4.out)).trans I4.out
      have Q7 : Hid ((W6.alloc (.cells #[.int .u32 0, .int .u32 0, .int .i64 0, .int .i64 vni, .bool oam, .slice oa os.length oc, .string (strOfNums fr)] 25)).heap[W6.heap.size]? = some (.cells #[.int .u32 0, .int .u32 0, .int .i64 0, .int .i64 vni, .bool oam, .slice oa os.length oc, .string (strOfNums fr)] 25 (0, 0))) := heap_alloc_new W6 _
      have O7 : Hid (OS (W6.alloc (.cells #[.int .u32 0, .int .u32 0, .int .i64 0, .int .i64 vni, .bool oam, .slice oa os.length oc, .string (strOfNums fr)] 25)) oa os.length os) := hO6.below hbw
      have N7 : Hid (gl < W6.heap.size) := by have h1 := Ca.lt_of_heap R4.out; have h2 := hb.size; show _ < _; omega
      have HFR0 : Hid (∀ x, oa = some x → w.heap.size < x.block) := fun x e => by have h1 := hfar x e; have h2 := Ca.lt_of_heap P4.out; omega
      have HFR : Hid (∀ x, oa = some x → x.block < W6.heap.size ∨ os.length = 0) := fun x e => by
        rcases hO6.cells with h0 | ⟨b', off', e', hc⟩
        · exact .inr h0
        · rcases Nat.eq_zero_or_pos os.length with h0 | h0
          · exact .inr h0
          · rw [e'] at e
            cases e
            exact .inl (cell_lt (hc 0 os[0] (List.getElem?_eq_getElem h0)).1)
      go_wp2_with fail
      obtain ⟨W7, hW⟩ : ∃ V, W6.alloc (.cells #[.int .u32 0, .int .u32 0, .int .i64 0, .int .i64 vni, .bool oam, .slice oa os.length oc, .string (strOfNums fr)] 25) = V := ⟨_, rfl⟩
      obtain ⟨g9, hg9⟩ : ∃ g, W6.heap.size = g := ⟨_, rfl⟩
      rw [hW] at B7 R7' P7 I7 Q7 O7 ⊢
      rw [hg9] at Q7 N7 HFR ⊢
      clear hW hg9 hb hbw hb7 hO6 hfar c13 B4 R4 P4 I4 HR
      have hA5 := cells14g I7.out 5
      have hA6 := cells14g I7.out 6
      have hA4 := cells14g R7'.out 4
      have hB0 := cells14g Q7.out 0
      have hB1 := cells14g Q7.out 1
      have hB2 := cells14g Q7.out 2
      simp only [List.getElem?_toArray, List.getElem?_cons_succ, List.getElem?_cons_zero] at hA5 hA6 hA4 hB0 hB1 hB2
      have hF0 := frozen_of_row W7 _ 0 _ _ Q7.out
      have hF1 := frozen_of_row W7 _ 1 _ _ Q7.out
      have hF2 := frozen_of_row W7 _ 2 _ _ Q7.out
      have hn1 : ¬ g9 = g8 := by have := N7.out; have := N4.out; omega
      have hn2 : ¬ g8 = g9 := by have := N7.out; have := N4.out; omega
      have hn3 : ¬ g9 = gl := by have := N7.out; omega
      have hn4 : ¬ gl = g9 := by have := N7.out; omega
      have hn5 : w.heap.size < g9 := by have := N7.out; have := N4.out; omega
      go_region
      clear hA5 hA6 hA4 hB0 hB1 hB2 hF0 hF1 hF2
      have Q8 : Hid ((((W7.setCell ⟨g9, 0, none⟩ (.int .u32 src)).setCell ⟨g9, 1, none⟩ (.int .u32 dst)).setCell ⟨g9, 2, none⟩ (.int .i64 sp)).drew.heap[g9]? = some (.cells #[.int .u32 src, .int .u32 dst, .int .i64 sp, .int .i64 vni, .bool oam, .slice oa os.length oc, .string (strOfNums fr)] 25 (0, 0))) := Ca.row_setCell (Ca.row_setCell (Ca.row_setCell Q7.out 0 (.int .u32 src)) 1 (.int .u32 dst)) 2 (.int .i64 sp)
      have P8 : Hid ((((W7.setCell ⟨g9, 0, none⟩ (.int .u32 src)).setCell ⟨g9, 1, none⟩ (.int .u32 dst)).setCell ⟨g9, 2, none⟩ (.int .i64 sp)).drew.heap[w.heap.size]? = some (.cells #[.int .u32 0, .int .u32 0, .int .i64 0, .int .i64 0, .bool false, .slice none 0 0, .string ⟨#[]⟩] 25 (0, 0))) := (Below.heap_setCell _ _ _ _ (show w.heap.size ≠ g9 by omega)).trans ((Below.heap_setCell _ _ _ _ (show w.heap.size ≠ g9 by omega)).trans ((Below.heap_setCell _ _ _ _ (show w.heap.size ≠ g9 by omega)).trans P7.out))
      have B8 : Hid (Below w.heap.size w (((W7.setCell ⟨g9, 0, none⟩ (.int .u32 src)).setCell ⟨g9, 1, none⟩ (.int .u32 dst)).setCell ⟨g9, 2, none⟩ (.int .i64 sp)).drew) := (((B7.out.setCell (show w.heap.size ≤ g9 by omega) _).setCell (show w.heap.size ≤ g9 by omega) _).setCell (show w.heap.size ≤ g9 by omega) _).drew
      have O8 : Hid (OS (((W7.setCell ⟨g9, 0, none⟩ (.int .u32 src)).setCell ⟨g9, 1, none⟩ (.int .u32 dst)).setCell ⟨g9, 2, none⟩ (.int .i64 sp)).drew oa os.length os) := os_drew (os_far0 (os_far0 (os_far0 O7.out HFR.out 0 _) HFR.out 1 _) HFR.out 2 _)
      obtain ⟨W8, hW⟩ : ∃ V, (((W7.setCell ⟨g9, 0, none⟩ (.int .u32 src)).setCell ⟨g9, 1, none⟩ (.int .u32 dst)).setCell ⟨g9, 2, none⟩ (.int .i64 sp)).drew = V := ⟨_, rfl⟩
      rw [hW] at Q8 P8 B8 O8 ⊢
      clear hW B7 R7' P7 Q7 I7 O7 hn1 hn2 hn3 hn4
      obtain ⟨x0, x1, x2, x3, x4, x5, x6⟩ := seven Q8.out
      go_wp2_with fail
      refine (HE.out _ _ _ O8.out).mono ?_
      rintro e W9 ⟨hb, hr⟩
      have B9 : Hid (Below w.heap.size w W9) := B8.out.trans (hb.mono B8.out.size)
      have P9 : Hid (W9.heap[w.heap.size]? = some (.cells #[.int .u32 0, .int .u32 0, .int .i64 0, .int .i64 0, .bool false, .slice none 0 0, .string ⟨#[]⟩] 25 (0, 0))) := (hb.block _ (Ca.lt_of_heap P8.out)).trans P8.out
      have Q9 : Hid (W9.heap[g9]? = some (.cells #[.int .u32 src, .int .u32 dst, .int .i64 sp, .int .i64 vni, .bool oam, .slice oa os.length oc, .string (strOfNums fr)] 25 (0, 0))) := (hb.block _ (Ca.lt_of_heap Q8.out)).trans Q8.out
      have O9 : Hid _ := O8.out.below hb
      clear hb HE x0 x1 x2 x3 x4 x5 x6 B8 P8 Q8 O8
      cases okb
      · rcases hr with ⟨_, rfl⟩ | ⟨_, a2, c2, rfl, _⟩
        · go_wp2_with (first
            | refine Ca.wpList_store_row rfl 25 _ _ rfl w.heap.size #[.int .u32 0, .int .u32 0, .int .i64 0, .int .i64 0, .bool false, .slice none 0 0, .string ⟨#[]⟩] #[.int .u32 0, .int .u32 0, .int .i64 0, .int .i64 0, .bool false, .slice none 0 0, .string ⟨#[]⟩] 25 rfl rfl P9.out (by kernel_rfl) rfl (by kernel_rfl) ?_
            | fail)
          intro W11 y1 y2 y3 y4
          go_wp2
          exact bodyPost_ret (results_tb (p := 2) (u := 3) rfl _ _ w.heap.size _ rfl y1 rfl) rfl ⟨B9.out.trans (y4.mono (Nat.le_refl _)), .inr (.inl ⟨rfl, .inl rfl, rfl⟩)⟩
        · go_wp2_with (first
            | refine Ca.wpList_store_row rfl 25 _ _ rfl w.heap.size #[.int .u32 0, .int .u32 0, .int .i64 0, .int .i64 0, .bool false, .slice none 0 0, .string ⟨#[]⟩] #[.int .u32 0, .int .u32 0, .int .i64 0, .int .i64 0, .bool false, .slice none 0 0, .string ⟨#[]⟩] 25 rfl rfl P9.out (by kernel_rfl) rfl (by kernel_rfl) ?_
            | fail)
          intro W11 y1 y2 y3 y4
          go_wp2
          exact bodyPost_ret (results_tb (p := 2) (u := 3) rfl _ _ w.heap.size _ rfl y1 rfl) rfl ⟨B9.out.trans (y4.mono (Nat.le_refl _)), .inr (.inl ⟨rfl, .inl rfl, rfl⟩)⟩
      rcases hr with ⟨hE1, rfl⟩ | ⟨hE1, a2, c2, rfl, hS9⟩
      · have hE2 := hE1
        obtain ⟨fc, hf⟩ : ∃ f, chkE sp vni os fr.length = f := ⟨_, rfl⟩
        rw [hf] at hE1 ⊢
        have hf1 : (fc != 0) = true := by simpa using hE1
        clear hE1 hf
        have HE2 : Hid _ := hE2
        clear hE2
        go_wp2_with (first
          | refine Ca.wpList_store_row rfl 25 _ _ rfl w.heap.size #[.int .u32 0, .int .u32 0, .int .i64 0, .int .i64 0, .bool false, .slice none 0 0, .string ⟨#[]⟩] #[.int .u32 0, .int .u32 0, .int .i64 0, .int .i64 0, .bool false, .slice none 0 0, .string ⟨#[]⟩] 25 rfl rfl P9.out (by kernel_rfl) rfl (by kernel_rfl) ?_
          | fail)
        intro W11 y1 y2 y3 y4
        go_wp2
        exact bodyPost_ret (results_tb (p := 2) (u := 3) rfl _ _ w.heap.size _ rfl y1 rfl) rfl ⟨B9.out.trans (y4.mono (Nat.le_refl _)), .inr (.inl ⟨rfl, .inr (.inl HE2.out), rfl⟩)⟩
      have H9 := H.out.below B9.out
      have cv1 := run_conv_bs (P := Try.prog) c2 hS9 26 9 5 Try.underlying26 Try.underlying5 Try.underlying9
      have cv2 := run_conv_bs (P := Try.prog) cap H9 26 9 5 Try.underlying26 Try.underlying5 Try.underlying9
      have HE1 : Hid _ := hE1
      clear hE1
      by_cases hne : encB src dst sp vni oam os fr = zs
      · have HN : Hid _ := hne
        rw [hne] at cv1 ⊢
        clear hne H9 hS9
        go_wp2_with (first
          | refine wpList_load_row rfl 25 _ rfl g9 rfl 25 #[.int .u32 src, .int .u32 dst, .int .i64 sp, .int .i64 vni, .bool oam, .slice oa os.length oc, .string (strOfNums fr)] (0, 0) _ Q9.out Try.underlying25 rfl infoTn ?_
          | refine Ca.wpList_store_row rfl 25 _ _ rfl w.heap.size #[.int .u32 0, .int .u32 0, .int .i64 0, .int .i64 0, .bool false, .slice none 0 0, .string ⟨#[]⟩] #[.int .u32 src, .int .u32 dst, .int .i64 sp, .int .i64 vni, .bool oam, .slice oa os.length oc, .string (strOfNums fr)] 25 rfl rfl P9.out (by kernel_rfl) rfl (by kernel_rfl) ?_
          | fail)
        intro W11 y1 y2 y3 y4
        have OS5 : Hid (OS W11 oa os.length os) := os_far2 O9.out y2 (fun x e => by have := HFR0.out x e; omega)
        go_wp2
        exact bodyPost_ret (results_tb (p := 2) (u := 3) rfl _ _ w.heap.size _ rfl y1 rfl) rfl ⟨B9.out.trans (y4.mono (Nat.le_refl _)), .inr (.inr ⟨rfl, rfl, HE1.out, HN.out, oa, oc, rfl, OS5.out⟩)⟩
      · have hs9 := str_ne9 hS9.fits H9.fits hne
        have HN : Hid _ := hne
        obtain ⟨EB, hEB⟩ : ∃ B, encB src dst sp vni oam os fr = B := ⟨_, rfl⟩
        rw [hEB] at cv1 hs9 ⊢
        clear hne hEB H9 hS9
        go_wp2_with (first
          | refine Ca.wpList_store_row rfl 25 _ _ rfl w.heap.size #[.int .u32 0, .int .u32 0, .int .i64 0, .int .i64 0, .bool false, .slice none 0 0, .string ⟨#[]⟩] #[.int .u32 0, .int .u32 0, .int .i64 0, .int .i64 0, .bool false, .slice none 0 0, .string ⟨#[]⟩] 25 rfl rfl P9.out (by kernel_rfl) rfl (by kernel_rfl) ?_
          | fail)
        intro W11 y1 y2 y3 y4
        go_wp2
        exact bodyPost_ret (results_tb (p := 2) (u := 3) rfl _ _ w.heap.size _ rfl y1 rfl) rfl ⟨B9.out.trans (y4.mono (Nat.le_refl _)), .inr (.inl ⟨rfl, .inr (.inr HN.out), rfl⟩)⟩
    · have hf1 : (f != 0) = true := by simpa using hf0
      have HF0 : Hid _ := hf0
      clear hf0
      go_wp2_with (first
        | refine Ca.wpList_store_row rfl 25 _ _ rfl w.heap.size #[.int .u32 0, .int .u32 0, .int .i64 0, .int .i64 0, .bool false, .slice none 0 0, .string ⟨#[]⟩] #[.int .u32 0, .int .u32 0, .int .i64 0, .int .i64 0, .bool false, .slice none 0 0, .string ⟨#[]⟩] 25 rfl rfl P4.out (by kernel_rfl) rfl (by kernel_rfl) ?_
        | fail)
      intro W11 y1 y2 y3 y4
      go_wp2
      exact bodyPost_ret (results_tb (p := 2) (u := 3) rfl _ _ w.heap.size _ rfl y1 rfl) rfl ⟨B4.out.trans (y4.mono (Nat.le_refl _)), .inl ⟨HF0.out, rfl⟩⟩
end Go.Proofs.Ytgonckbdkgiddaa
