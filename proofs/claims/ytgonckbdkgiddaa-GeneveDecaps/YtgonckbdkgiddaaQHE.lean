/- payload of package geneve. Conditions: the options can be read, and have room. -/
import Derived.Test.YtgonckbdkgiddaaDH
import Derived.Test.YtgonckbdkgiddaaL4f
namespace Go.Proofs.Ytgonckbdkgiddaa
open Go.RowKit
set_option maxRecDepth 20000
set_option linter.unusedSimpArgs false
theorem lt_of_block9 {W : World} {p : Nat} {o : Obj} (h : W.heap[p]? = some o) : p < W.heap.size := Ca.lt_of_heap h
theorem enc_grown {w0 W w1 : World} {p N M : Nat} {xs zs : List Int} {a a' : Option Addr} {cap cap' : Nat} (hN : xs.length = N) (hM : zs.length = M) (hb : Below w0.heap.size w0 W) (hp : w0.heap.size ≤ p) (hc : W.heap[p]? = some (.cells #[.slice a N cap] 26 (0, 0))) (ho : W.ownsRow w0.heap.size 5 1 (.slice a N cap) N (xs.map (Value.int .u8)))
    (h1 : w1.ownsRow w0.heap.size 5 1 (.slice a' (N + M) cap') (N + M) ((xs ++ zs).map (Value.int .u8))) (h2 : W.grownBy w1 (Value.slice a N cap).ownBlock) :
    w1.cell? ⟨p, 0, none⟩ = some (.slice a N cap) ∧ w1.frozen? ⟨p, 0, none⟩ = false ∧ Below w0.heap.size w0 w1 ∧ Enc w0 (w1.setCell ⟨p, 0, none⟩ (.slice a' (N + M) cap')) p (xs ++ zs) ∧
    (w1.setCell ⟨p, 0, none⟩ (.slice a' (N + M) cap')).heap[p]? = some (.cells #[.slice a' (N + M) cap'] 26 (0, 0)) ∧ (w1.setCell ⟨p, 0, none⟩ (.slice a' (N + M) cap')).ownsRow w0.heap.size 5 1 (.slice a' (N + M) cap') (N + M) ((xs ++ zs).map (Value.int .u8)) := by
  have hap := row_apart ho hc
  have hc1 : w1.heap[p]? = some (.cells #[.slice a N cap] 26 (0, 0)) := (h2.block p (lt_of_block hc) (fun e => hap e.symm)).trans hc
  have hbw := hb.grown h2 hb.size (fun k hk => (World.ownsRow.lt ho k hk).1)
  have r1 := one_setCell (u := .slice a' (N + M) cap') hc1
  have r2 : (w1.setCell ⟨p, 0, none⟩ (.slice a' (N + M) cap')).ownsRow w0.heap.size 5 1 (.slice a' (N + M) cap') (N + M) ((xs ++ zs).map (Value.int .u8)) := ownsRow_setCell_other h1 (row_apart h1 hc1) _
  have hl : (xs ++ zs).length = N + M := by simp [hN, hM]
  refine ⟨cell_of_one hc1, free_of_one hc1, hbw, ⟨hbw.setCell hp _, hp, a', cap', ?_, ?_⟩, r1, r2⟩
  · rw [hl]; exact r1
  · rw [hl]; exact r2

def KeepO (W W' : World) : Prop := ∀ (g : Nat) (cs : Array Value), W.heap[g]? = some (.cells cs 38 (0, 0)) → W'.heap[g]? = some (.cells cs 38 (0, 0))
theorem row_apartO {W : World} {base g : Nat} {v : Value} {n : Nat} {xs : List Value} {cs : Array Value} (h : W.ownsRow base 5 1 v n xs) (hp : W.heap[g]? = some (.cells cs 38 (0, 0))) : v.ownBlock ≠ some g := by
  intro e
  rcases h.2 with ⟨rfl, _⟩ | ⟨g', cap, cur, rfl, _, hg, _⟩
  · cases e
  · have : g' = g := by simpa [Value.ownBlock] using e
    subst this
    rw [hg] at hp
    simp at hp
set_option maxHeartbeats 1000000 in
theorem gput_any (f : Nat) (hf : f = 36) (w0 W : World) (p : Nat) (xs : List Int) (h : Enc w0 W p xs) (hn : xs.length ≤ 1000000) (v : Int) (hv : 0 ≤ v ∧ v ≤ 9223372036854775807) (s : Nat) (hs : s ≤ 8) :
    Calls Try.prog f #[.int .i64 v, .int .i64 s, .pointer (some ⟨p, 0, none⟩)] W fun e w' => e = .returned (.tuple #[]) ∧ Enc w0 w' p (xs ++ be v s) ∧ KeepO W w' := by
  subst hf
  obtain ⟨hb, hp, a, cap, hc, ho⟩ := h
  have hc0 := cell_of_one hc
  have hf0 := free_of_one hc
  have HC : Hid _ := hc
  have HO : Hid _ := ho
  have HB : Hid _ := hb
  clear hc ho hb
  go_enter Try.func36, Try.ntmps36
  go_wp2_with fail
  refine (appendNumber_any w0.heap.size W a xs.length cap xs HO.out HB.out.size hn v (by omega) s hs).mono ?_
  rintro e w1 ⟨a', cap', rfl, hr⟩
  have hap := row_apart HO.out HC.out
  have hc1 : w1.heap[p]? = some (.cells #[.slice a xs.length cap] 26 (0, 0)) := (hr.grown.block p (lt_of_block HC.out) (fun e => hap e.symm)).trans HC.out
  have hc1' := cell_of_one hc1
  have hf1 := free_of_one hc1
  have HC1 : Hid _ := hc1
  have HR : Hid _ := hr
  clear hc1 hr hap hc0 hf0
  go_wp2
  go_end0
  refine ⟨rfl, ⟨?_, hp, a', cap', ?_, ?_⟩, fun g cs hg => ?_⟩
  · exact (HB.out.grown HR.out.grown HB.out.size (fun k hk => (World.ownsRow.lt HO.out k hk).1)).setCell hp _
  · rw [one_setCell HC1.out]; simp [be_len]
  · rw [show (xs ++ be v s).length = xs.length + s from by simp [be_len]]
    exact ownsRow_setCell_other HR.out.own (row_apart HR.out.own HC1.out) _
  · have hne : g ≠ p := fun e => by subst e; rw [HC.out] at hg; simp at hg
    have h1 := (HR.out.grown.block g (lt_of_block hg) (fun e => row_apartO HO.out hg e.symm)).trans hg
    exact (Below.heap_setCell _ _ _ _ hne).trans h1

theorem gput (w0 W : World) (p : Nat) (xs : List Int) (h : Enc w0 W p xs) (hn : xs.length ≤ 1000000) (v : Int) (hv : 0 ≤ v ∧ v ≤ 9223372036854775807) (s : Int) (hs0 : 0 ≤ s) (hs : s ≤ 8) :
    Calls Try.prog 36 #[.int .i64 v, .int .i64 s, .pointer (some ⟨p, 0, none⟩)] W fun e w' => e = .returned (.tuple #[]) ∧ Enc w0 w' p (xs ++ be v s.toNat) ∧ KeepO W w' := by
  obtain ⟨s, rfl⟩ := Int.eq_ofNat_of_zero_le hs0
  exact gput_any 36 rfl w0 W p xs h hn v hv s (by omega)

theorem enc_none (w0 : World) : Enc w0 (w0.alloc (.cells #[.slice none 0 0] 26)) w0.heap.size [] :=
  ⟨below1 w0 _, Nat.le_refl _, none, 0, heap_alloc_new w0 _, ⟨rfl, .inl ⟨rfl, rfl⟩⟩⟩
/-- The bytes of an option, and of all. -/
def opB (o : Opt) : List Int := be o.cls 2 ++ be o.code 1 ++ be ((o.data.length : Int) / 4) 1 ++ o.data
def opsB (os : List Opt) : List Int := (os.map opB).flatten
theorem opB_len (o : Opt) : (opB o).length = 4 + o.data.length := by simp [opB, be_len]; omega
theorem opsB_len (os : List Opt) : ((opsB os).length : Int) = szO os := by
  induction os with
  | nil => rfl
  | cons o r ih =>
    have h1 := opB_len o
    simp only [opsB, szO, List.map_cons, List.flatten_cons, List.length_append, List.sum_cons] at ih ⊢
    omega
theorem opsB_snoc (os : List Opt) (o : Opt) : opsB (os ++ [o]) = opsB os ++ opB o := by simp [opsB]
def hdB (vni : Int) (oam : Bool) (os : List Opt) : List Int := be (szO os / 4) 1 ++ be (flV oam (os.any critB)) 1 ++ be 25944 2 ++ be vni 3 ++ be 0 1
theorem hdB_len (vni : Int) (oam : Bool) (os : List Opt) : (hdB vni oam os).length = 8 := by simp [hdB, be_len]
/-- What a tunnel's datagram holds. -/
def payB (vni : Int) (oam : Bool) (os : List Opt) (fr : List Int) : List Int := hdB vni oam os ++ opsB os ++ fr
theorem flV_bd (a b : Bool) : 0 ≤ flV a b ∧ flV a b ≤ 192 := by cases a <;> cases b <;> decide
theorem szO_app (xs ys : List Opt) : szO (xs ++ ys) = szO xs + szO ys := by simp [szO, List.sum_append]
theorem szO_take (os : List Opt) (k : Nat) : szO (os.take k) ≤ szO os := by
  have h : szO os = szO (os.take k) + szO (os.drop k) := by
    rw [← szO_app, List.take_append_drop]
  have := szO_nn (os.drop k)
  omega
theorem three {W : World} {g : Nat} {t : TypeId} {v0 v1 v2 : Value} (h : W.heap[g]? = some (.cells #[v0, v1, v2] t (0, 0))) : W.cell? ⟨g, 0, none⟩ = some v0 ∧ W.cell? ⟨g, 1, none⟩ = some v1 ∧ W.cell? ⟨g, 2, none⟩ = some v2 := ⟨cell_of_row _ _ 0 _ _ _ h, cell_of_row _ _ 1 _ _ _ h, cell_of_row _ _ 2 _ _ _ h⟩
theorem fit16_bd {v : Int} (h : fit16 v = true) : 0 ≤ v ∧ v ≤ 65535 := by unfold fit16 at h; simpa using h
theorem fit8_bd {v : Int} (h : fit8 v = true) : 0 ≤ v ∧ v ≤ 255 := by unfold fit8 at h; simpa using h
theorem seven {W : World} {g : Nat} {t : TypeId} {v0 v1 v2 v3 v4 v5 v6 : Value} (h : W.heap[g]? = some (.cells #[v0, v1, v2, v3, v4, v5, v6] t (0, 0))) : W.cell? ⟨g, 0, none⟩ = some v0 ∧ W.cell? ⟨g, 1, none⟩ = some v1 ∧ W.cell? ⟨g, 2, none⟩ = some v2 ∧ W.cell? ⟨g, 3, none⟩ = some v3 ∧ W.cell? ⟨g, 4, none⟩ = some v4 ∧ W.cell? ⟨g, 5, none⟩ = some v5 ∧ W.cell? ⟨g, 6, none⟩ = some v6 :=
  ⟨cell_of_row _ _ 0 _ _ _ h, cell_of_row _ _ 1 _ _ _ h, cell_of_row _ _ 2 _ _ _ h, cell_of_row _ _ 3 _ _ _ h, cell_of_row _ _ 4 _ _ _ h, cell_of_row _ _ 5 _ _ _ h, cell_of_row _ _ 6 _ _ _ h⟩
theorem fits_app {xs ys : List Int} (hx : Fit xs) (hy : Fit ys) : Fit (xs ++ ys) := fun i => by
  rw [List.getD_eq_getElem?_getD, List.getElem?_append]
  split
  · have := hx i; rwa [List.getD_eq_getElem?_getD] at this
  · have := hy (i - xs.length); rwa [List.getD_eq_getElem?_getD] at this
theorem opB_fit {o : Opt} (h : Fit o.data) : Fit (opB o) := fits_app (fits_app (fits_app (be_bd _ _) (be_bd _ _)) (be_bd _ _)) h
theorem opsB_fit (os : List Opt) (h : ∀ o ∈ os, Fit o.data) : Fit (opsB os) := by
  induction os with
  | nil => exact fun i => by simp [opsB]
  | cons o r ih =>
    simp only [opsB, List.map_cons, List.flatten_cons] at ih ⊢
    exact fits_app (opB_fit (h o (by simp))) (ih (fun x hx => h x (by simp [hx])))
theorem hdB_fit (vni : Int) (oam : Bool) (os : List Opt) : Fit (hdB vni oam os) := fits_app (fits_app (fits_app (fits_app (be_bd _ _) (be_bd _ _)) (be_bd _ _)) (be_bd _ _)) (be_bd _ _)
set_option maxHeartbeats 4000000 in
theorem payload_any (src dst sp vni : Int) (oam : Bool) (a : Option Addr) (n cap : Nat) (os : List Opt) (fr : List Int) (w : World) (h : OS w a n os) (hv : 0 ≤ vni ∧ vni ≤ 16777215) (hg : os.all optG = true) (hz : szO os ≤ 252) (hfr : fr.length ≤ 9018) (hff : Fit fr) :
    Calls Try.prog 18 #[.agg (tnC src dst sp vni oam a n cap fr)] w fun e w' => e = .returned (.string (strOfNums (payB vni oam os fr))) ∧ Below w.heap.size w w' := by
  unfold tnC
  have hl := h.len
  have hr := h.room
  have hfs := strOfNums_size fr
  have hsn := szO_nn os
  have h124 := optG_124 hg
  obtain ⟨i0, hi, hz0, hz1, hz2⟩ := info_parts info5
  have hcall : ∀ args W, (callFunc 36 args).run Try.prog W = .ok (.enter 36 args) W := fun args W => by simp [go_sem]
  have H : Hid (OS (w.alloc (.cells #[.int .u32 src, .int .u32 dst, .int .i64 sp, .int .i64 vni, .bool oam, .slice a n cap, .string (strOfNums fr)] 25)) a n os) := h.below (below1 w _)
  have A0 : Hid ((w.alloc (.cells #[.int .u32 src, .int .u32 dst, .int .i64 sp, .int .i64 vni, .bool oam, .slice a n cap, .string (strOfNums fr)] 25)).heap[w.heap.size]? = some (.cells #[.int .u32 src, .int .u32 dst, .int .i64 sp, .int .i64 vni, .bool oam, .slice a n cap, .string (strOfNums fr)] 25 (0, 0))) := heap_alloc_new w _
  have BW : Hid (Below w.heap.size w (w.alloc (.cells #[.int .u32 src, .int .u32 dst, .int .i64 sp, .int .i64 vni, .bool oam, .slice a n cap, .string (strOfNums fr)] 25))) := below1 w _
  have HG : Hid _ := hg
  have HFO : Hid (∀ o ∈ os, Fit o.data) := fun o ho => (h.fits o ho).1
  have H124 : Hid _ := h124
  clear h hg h124
  go_enter Try.func18, Try.ntmps18
  obtain ⟨x0, x1, x2, x3, x4, x5, x6⟩ := seven A0.out
  go_wp2_with fail
  have hN := enc_none (w.alloc (.cells #[.int .u32 src, .int .u32 dst, .int .i64 sp, .int .i64 vni, .bool oam, .slice a n cap, .string (strOfNums fr)] 25))
  obtain ⟨w0, hw0⟩ : ∃ V, w.alloc (.cells #[.int .u32 src, .int .u32 dst, .int .i64 sp, .int .i64 vni, .bool oam, .slice a n cap, .string (strOfNums fr)] 25) = V := ⟨_, rfl⟩
  have hp0 : w0.heap.size = w.heap.size + 1 := by rw [← hw0]; simp
  rw [hw0] at hN A0 BW H x0 x1 x2 x3 x4 x5 x6 ⊢
  rw [hp0] at hN
  clear hw0
  have EZ : Hid _ := hN
  clear hN
  have HZ : Hid (OS (w0.alloc (.cells #[.slice none 0 0] 26)) a n os) := H.out.below (below1 w0 _)
  refine (gsize_any a n cap os _ HZ.out H124.out).mono ?_
  rintro e W0 ⟨rfl, hb⟩
  have E0 : Hid (Enc w0 W0 (w.heap.size + 1) []) := EZ.out.keep hb
  clear hb EZ HZ x0 x1 x2 x3 x4 x5 x6
  obtain ⟨x0, x1, x2, x3, x4, x5, x6⟩ := seven ((E0.out.bel.block _ (Ca.lt_of_heap A0.out)).trans A0.out)
  go_wp2_with fail
  refine (gput _ _ _ _ E0.out (by simp [be_len]) (szO os / 4) (by omega) 1 (by omega) (by omega)).mono ?_
  rintro e W1 ⟨rfl, hE, hKp⟩
  have E1 : Hid _ := hE
  clear hKp hE x0 x1 x2 x3 x4 x5 x6 E0
  obtain ⟨x0, x1, x2, x3, x4, x5, x6⟩ := seven ((E1.out.bel.block _ (Ca.lt_of_heap A0.out)).trans A0.out)
  go_wp2_with fail
  refine (gflags_any src dst sp vni oam a n cap os fr _ (H.out.below E1.out.bel)).mono ?_
  rintro e W1b ⟨rfl, hb⟩
  have E1b : Hid (Enc w0 W1b (w.heap.size + 1) _) := E1.out.keep hb
  have hfl := flV_bd oam (os.any critB)
  clear hb E1 x0 x1 x2 x3 x4 x5 x6
  obtain ⟨x0, x1, x2, x3, x4, x5, x6⟩ := seven ((E1b.out.bel.block _ (Ca.lt_of_heap A0.out)).trans A0.out)
  go_wp2_with fail
  refine (gput _ _ _ _ E1b.out (by simp [be_len]) (flV oam (os.any critB)) (by omega) 1 (by omega) (by omega)).mono ?_
  rintro e W2 ⟨rfl, hE, hKp⟩
  have E2 : Hid _ := hE
  clear hKp hE x0 x1 x2 x3 x4 x5 x6 E1b
  obtain ⟨x0, x1, x2, x3, x4, x5, x6⟩ := seven ((E2.out.bel.block _ (Ca.lt_of_heap A0.out)).trans A0.out)
  go_wp2_with fail
  refine (gput _ _ _ _ E2.out (by simp [be_len]) (25944) (by omega) 2 (by omega) (by omega)).mono ?_
  rintro e W3 ⟨rfl, hE, hKp⟩
  have E3 : Hid _ := hE
  clear hKp hE x0 x1 x2 x3 x4 x5 x6 E2
  obtain ⟨x0, x1, x2, x3, x4, x5, x6⟩ := seven ((E3.out.bel.block _ (Ca.lt_of_heap A0.out)).trans A0.out)
  go_wp2_with fail
  refine (gput _ _ _ _ E3.out (by simp [be_len]) (vni) (by omega) 3 (by omega) (by omega)).mono ?_
  rintro e W4 ⟨rfl, hE, hKp⟩
  have E4 : Hid _ := hE
  clear hKp hE x0 x1 x2 x3 x4 x5 x6 E3
  obtain ⟨x0, x1, x2, x3, x4, x5, x6⟩ := seven ((E4.out.bel.block _ (Ca.lt_of_heap A0.out)).trans A0.out)
  go_wp2_with fail
  refine (gput _ _ _ _ E4.out (by simp [be_len]) (0) (by omega) 1 (by omega) (by omega)).mono ?_
  rintro e W5 ⟨rfl, hE, hKp⟩
  have E5 : Hid _ := hE
  clear hKp hE x0 x1 x2 x3 x4 x5 x6 E4
  obtain ⟨x0, x1, x2, x3, x4, x5, x6⟩ := seven ((E5.out.bel.block _ (Ca.lt_of_heap A0.out)).trans A0.out)
  rw [List.nil_append] at E5
  have E6 : Hid (Enc w0 W5 (w.heap.size + 1) (hdB vni oam os ++ opsB (os.take 0))) := by
    rw [show opsB (os.take 0) = [] from rfl, List.append_nil]; exact E5.out
  clear E5
  have HH : Hid ((hdB vni oam os).length = 8) := hdB_len _ _ _
  have HXF : Hid (Fit (hdB vni oam os)) := hdB_fit _ _ _
  obtain ⟨X, hX⟩ : ∃ X, hdB vni oam os = X := ⟨_, rfl⟩
  have HX : Hid (hdB vni oam os = X) := hX
  rw [hX] at E6 HH HXF
  clear hX
  go_wp2_with fail
  go_loopw [29] (fun i wr => ∃ k : Nat, k ≤ n ∧ i = .int .i64 k ∧ Enc w0 wr (w.heap.size + 1) (X ++ opsB (os.take k))) (fun i _ => n - (intOf i).toNat)
  case atStart => exact ⟨0, by omega, rfl, E6.out⟩
  case round =>
    obtain ⟨k, hk, rfl, hE⟩ := hrel
    have EK : Hid _ := hE
    clear x0 x1 x2 x3 x4 x5 x6
    obtain ⟨x0, x1, x2, x3, x4, x5, x6⟩ := seven ((hE.bel.block _ (Ca.lt_of_heap A0.out)).trans A0.out)
    have hYl : (X ++ opsB (os.take k)).length ≤ 260 := by
      have h1 := opsB_len (os.take k)
      have h2 := szO_take os k
      rw [List.length_append, HH.out]
      omega
    by_cases hlt : k = n
    · have e0 : ¬ (k : Int) < (n : Int) := by omega
      have HS : Hid (os.take k = os) := List.take_of_length_le (by omega)
      obtain ⟨a0, cap0, hc, ho⟩ := hE.row
      have hcc := cell_of_one hc
      have HC : Hid _ := hc
      have HW : Hid _ := ho
      clear hc ho hlt hE
      obtain ⟨Y, hY⟩ : ∃ Y, X ++ opsB (os.take k) = Y := ⟨_, rfl⟩
      rw [hY] at EK HC HW hYl hcc
      have HY : Hid _ := hY
      clear hY
      go_wp2_with (at_builtin; refine wpList_append_str rfl _ _ 26 9 rfl w0.heap.size 5 i0 Try.underlying26 Try.underlying9 hi hz0 hz1 hz2 _ _ _ rfl HW.out fr hff rfl (by omega) EK.out.bel.size ?_)
      intro a' cap' w' h1 h2
      have hF : Fit (Y ++ fr) := by rw [← HY.out]; exact fits_app (fits_app HXF.out (opsB_fit _ (fun o ho => HFO.out o (List.mem_of_mem_take ho)))) hff
      have hB : BS w' a' (Y.length + fr.length) (Y ++ fr) := own_bs (by rw [List.map_append]; exact h1) hF (by omega)
      have cv := run_conv_bs (P := Try.prog) cap' hB 26 9 5 Try.underlying26 Try.underlying5 Try.underlying9
      have HB2 : Hid (Below w.heap.size w w') := BW.out.trans ((EK.out.bel.grown h2 EK.out.bel.size (fun k hk => (World.ownsRow.lt HW.out k hk).1)).mono BW.out.size)
      clear h1 h2 hB hF
      go_wp2
      go_ret
      refine ⟨?_, HB2.out⟩
      unfold payB
      rw [HX.out, ← HY.out, HS.out]
      rfl
    · have hkI : (k : Int) < (n : Int) := by omega
      obtain ⟨o, b, off, ho, rfl, c0, c1', c2', hbl, hfit, hlen⟩ := os_cell (H.out.below hE.bel) (show k < n by omega)
      have hs := strOfNums_size o.data
      have hG := List.all_eq_true.1 HG.out o (List.mem_of_getElem? ho)
      have hgo : fit16 o.cls = true ∧ fit8 o.code = true ∧ o.data.length ≤ 124 ∧ o.data.length % 4 = 0 := by
        unfold optG at hG
        simpa only [Bool.and_eq_true, decide_eq_true_eq] using hG
      have hc16 := fit16_bd hgo.1
      have hc8 := fit8_bd hgo.2.1
      have h124 := hgo.2.2.1
      have HT : Hid (X ++ opsB (os.take (k + 1)) = X ++ opsB (os.take k) ++ (be o.cls 2 ++ be o.code 1 ++ be ((o.data.length : Int) / 4) 1 ++ o.data)) := by
        show _ = _
        rw [take_snocO ho, opsB_snoc, ← List.append_assoc]; rfl
      have EK2 : Hid (Enc w0 (wr.alloc (.cells #[.int .i64 o.cls, .int .i64 o.code, .string (strOfNums o.data)] 38)) (w.heap.size + 1) (X ++ opsB (os.take k))) := hE.keep (below1 wr _)
      have R_q : Hid ((wr.alloc (.cells #[.int .i64 o.cls, .int .i64 o.code, .string (strOfNums o.data)] 38)).heap[wr.heap.size]? = some (.cells #[.int .i64 o.cls, .int .i64 o.code, .string (strOfNums o.data)] 38 (0, 0))) := heap_alloc_new wr _
      have hne : ¬ b = wr.heap.size := by omega
      have HYL : Hid ((X ++ opsB (os.take k)).length ≤ 260) := hYl
      obtain ⟨Y, hY⟩ : ∃ Y, X ++ opsB (os.take k) = Y := ⟨_, rfl⟩
      rw [hY] at EK2 HYL HT
      generalize o.cls = oc at *
      generalize o.code = od at *
      generalize o.data = ds at *
      clear ho hlen hE EK hYl hY hG hgo
      obtain ⟨d0, d1, d2⟩ := three R_q.out
      go_wp2_with fail
      refine (gput _ _ _ _ EK2.out (by have := HYL.out; first | omega | (simp [be_len]; omega)) (oc) (by omega) 2 (by omega) (by omega)).mono ?_
      rintro e V1 ⟨rfl, hE2, hKp⟩
      have F1 : Hid _ := hE2
      have R_V1 : Hid _ := hKp _ _ R_q.out
      clear hE2 hKp d0 d1 d2 EK2 R_q
      obtain ⟨d0, d1, d2⟩ := three R_V1.out
      go_wp2_with fail
      refine (gput _ _ _ _ F1.out (by have := HYL.out; first | omega | (simp [be_len]; omega)) (od) (by omega) 1 (by omega) (by omega)).mono ?_
      rintro e V2 ⟨rfl, hE2, hKp⟩
      have F2 : Hid _ := hE2
      have R_V2 : Hid _ := hKp _ _ R_V1.out
      clear hE2 hKp d0 d1 d2 F1 R_V1
      obtain ⟨d0, d1, d2⟩ := three R_V2.out
      go_wp2_with fail
      refine (gput _ _ _ _ F2.out (by have := HYL.out; first | omega | (simp [be_len]; omega)) ((ds.length : Int) / 4) (by omega) 1 (by omega) (by omega)).mono ?_
      rintro e V3 ⟨rfl, hE2, hKp⟩
      have F3 : Hid _ := hE2
      have R_V3 : Hid _ := hKp _ _ R_V2.out
      clear hE2 hKp d0 d1 d2 F2 R_V2
      obtain ⟨d0, d1, d2⟩ := three R_V3.out
      obtain ⟨a0, cap0, hc, ho⟩ := F3.out.row
      have hcc := cell_of_one hc
      have HC : Hid _ := hc
      have HW : Hid _ := ho
      have hZl : (Y ++ be oc 2 ++ be od 1 ++ be ((ds.length : Int) / 4) 1).length = Y.length + 4 := by first | (simp [be_len]; done) | (simp [be_len]; omega)
      have HZL : Hid _ := hZl
      have hYL := HYL.out
      obtain ⟨Z, hZ⟩ : ∃ Z, Y ++ be oc (Int.toNat 2) ++ be od (Int.toNat 1) ++ be ((ds.length : Int) / 4) (Int.toNat 1) = Z := ⟨_, rfl⟩
      have HZ : Hid _ := hZ
      rw [hZ] at F3 HC HW hcc
      have HZ2 : Hid (Z.length = Y.length + 4) := by show _ = _; rw [← hZ]; exact hZl
      clear hc ho hZ hZl
      go_wp2_with (at_builtin; refine wpList_append_str rfl _ _ 26 9 rfl w0.heap.size 5 i0 Try.underlying26 Try.underlying9 hi hz0 hz1 hz2 _ _ _ rfl HW.out ds hfit rfl (by have := HZ2.out; omega) F3.out.bel.size ?_)
      intro a' cap' w' h1 h2
      obtain ⟨hc1, hf1, hbw, hE4, _, _⟩ := enc_grown (xs := Z) (zs := ds) rfl rfl F3.out.bel F3.out.here HC.out HW.out (by rw [List.map_append, hp0]; exact h1) h2
      have E9 : Hid _ := hE4
      clear h1 h2 hbw hE4 hcc d0 d1 d2
      go_wp2
      go_roundw
      case rel =>
        refine ⟨k + 1, by omega, by go_num, ?_⟩
        show Enc _ _ _ _
        rw [HT.out]
        have : Y ++ (be oc 2 ++ be od 1 ++ be ((ds.length : Int) / 4) 1 ++ ds) = Z ++ ds := by rw [← HZ.out]; simp only [List.append_assoc]; rfl
        rw [this]
        exact E9.out
      case measure => simp [intOf]; omega
end Go.Proofs.Ytgonckbdkgiddaa
