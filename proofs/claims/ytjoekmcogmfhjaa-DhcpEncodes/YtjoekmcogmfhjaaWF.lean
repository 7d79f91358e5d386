/- Decode of package dhcp on rows that may be longer than what comes in (up to 2^48 bytes). -/
import Derived.Test.YtjoekmcogmfhjaaFF
import Derived.Deep.RegionHeld3
import Derived.Deep.RegionWith
import Derived.Deep.DrawnRows
import Derived.Deep.AppendLies
import Derived.Deep.DeepAppendWide
namespace Go.Proofs.Ytjoekmcogmfhjaa.W
open Go.RowKit

/-- A slice of n bytes that can be read: the bytes are zs. -/
structure BS (w : World) (a : Option Addr) (n : Nat) (zs : List Int) : Prop where
  len : zs.length = n
  fits : ∀ i, 0 ≤ zs.getD i 0 ∧ zs.getD i 0 ≤ 255
  room : n ≤ 281474976710656
  cells : n = 0 ∨ ∃ b off, a = some ⟨b, off, none⟩ ∧ ∀ i, i < zs.length → w.cell? ⟨b, off + i, none⟩ = some (.int .u8 (zs.getD i 0))


theorem BS.drew {w : World} {a : Option Addr} {n : Nat} {zs : List Int} (h : BS w a n zs) : BS w.drew a n zs := ⟨h.len, h.fits, h.room, h.cells⟩


theorem BS.below {w w' : World} {a : Option Addr} {n : Nat} {zs : List Int} (h : BS w a n zs) (hb : Below w.heap.size w w') : BS w' a n zs := by
  refine ⟨h.len, h.fits, h.room, ?_⟩
  rcases h.cells with h0 | ⟨b, off, rfl, hc⟩
  · exact .inl h0
  · exact .inr ⟨b, off, rfl, fun i hi => (hb.cell (cell_lt (hc i hi))).trans (hc i hi)⟩


theorem BS.take {w : World} {a : Option Addr} {n : Nat} {zs : List Int} (h : BS w a n zs) (k : Nat) (hk : k ≤ n) : BS w a k (zs.take k) := by
  have hl := h.len
  refine ⟨by simp; omega, fun i => ?_, by have := h.room; omega, ?_⟩
  · have := h.fits i
    simp only [List.getD_eq_getElem?_getD, List.getElem?_take] at *
    split <;> simp_all
  · rcases h.cells with h0 | ⟨b, off, rfl, hc⟩
    · exact .inl (by omega)
    · refine .inr ⟨b, off, rfl, fun i hi => ?_⟩
      have hi' : i < k := by simp at hi; omega
      rw [hc i (by omega)]
      simp [List.getD_eq_getElem?_getD, hi']


theorem BS.drop {w : World} {b off : Nat} {n : Nat} {zs : List Int} (h : BS w (some ⟨b, off, none⟩) n zs) (hn : 0 < n) (k : Nat) (hk : k ≤ n) : BS w (some ⟨b, off + k, none⟩) (n - k) (zs.drop k) := by
  have hl := h.len
  refine ⟨by simp; omega, fun i => ?_, by have := h.room; omega, ?_⟩
  · have := h.fits (k + i)
    simpa [List.getD_eq_getElem?_getD, List.getElem?_drop] using this
  · rcases h.cells with h0 | ⟨b, off, e, hc⟩
    · omega
    · cases e
      refine .inr ⟨_, _, rfl, fun i hi => ?_⟩
      have := hc (k + i) (by simp at hi; omega)
      rw [Nat.add_assoc, this]
      simp [List.getD_eq_getElem?_getD, List.getElem?_drop]


theorem BS.empty {w : World} (a : Option Addr) : BS w a 0 [] := ⟨rfl, fun i => by simp, by omega, .inl rfl⟩


theorem own_bs {w : World} {base : Nat} {e : TypeId} {a : Option Addr} {n cap : Nat} {zs : List Int} (h : w.ownsRow base e 1 (.slice a n cap) n (zs.map (Value.int .u8))) (hf : ∀ i, 0 ≤ zs.getD i 0 ∧ zs.getD i 0 ≤ 255) (hr : n ≤ 281474976710656) : BS w a n zs := by
  have hl : zs.length = n := by have := h.1; simpa using this
  refine ⟨hl, hf, hr, ?_⟩
  rcases h.2 with ⟨h0, rfl⟩ | ⟨g, cap', cur, e1, hb, hcells, hnc, _, hsz, htk⟩
  · exact .inl rfl
  · have e2 : a = some ⟨g, 0, none⟩ := by injection e1
    have e3 : cap = cap' := by injection e1
    subst e2
    subst e3
    refine .inr ⟨g, 0, rfl, fun i hi => ?_⟩
    have := h.cellAt i (by omega)
    rw [Nat.zero_add, this, List.getElem?_map]
    simp [List.getD_eq_getElem?_getD, List.getElem?_eq_getElem hi]


theorem run_conv_bs {P : Program} {w : World} {a : Option Addr} {n : Nat} {zs : List Int} (cap : Nat) (h : BS w a n zs) (src dst e : TypeId) (hs : P.underlying src = some (.slice e)) (he : P.underlying e = some (.int .u8)) (hd : P.underlying dst = some .string) :
    (convert src dst (.slice a n cap)).run P w = .ok (.string (strOfNums zs)) w := by
  rcases h.cells with h0 | ⟨b, off, rfl, hc⟩
  · subst h0
    have hz0 : zs = [] := List.length_eq_zero_iff.1 h.len
    subst hz0
    rcases a with _ | ad
    · exact run_convert_bytes_nil w src e hs he 0 cap dst hd
    · rw [run_convert_bytes_string w src dst e _ 0 cap hs he hd, run_bytesToString w ad 0 cap [] (by simp [loadCells, loadCellsFrom])]
      rfl
  · exact run_convert_bytes_arg w src e hs he b off n cap zs h.len (fun i hi => hc i (by have := h.len; omega)) dst hd


theorem num_bd2 {w : World} {a : Option Addr} {zs : List Int} (h : BS w a 2 zs) : 0 ≤ num zs ∧ num zs ≤ 65535 := by
  have hl := h.len
  have := num_bd zs h.fits 2
  rw [List.take_of_length_le (by omega)] at this
  have h2 : (256 : Int) ^ 2 = 65536 := by decide
  omega


theorem number_any {a : Option Addr} {n : Nat} {zs : List Int} {w : World} (cap : Nat) (h : BS w a n zs) (hn : n ≤ 6) :
    Calls Try.prog 35 #[.slice a n cap] w fun e w' => e = .returned (.int .u64 (num zs)) ∧ w' = w := by
  obtain ⟨rfl, hf, hm, hc⟩ := h
  rcases hc with h0 | ⟨b, off, rfl, hc⟩
  · have hz : zs = [] := List.length_eq_zero_iff.1 h0
    subst hz
    exact number_empty a cap w
  · exact number_some b off cap zs w hn hc hf


theorem bs_far {W : World} {g g' off n k : Nat} {zs : List Int} {u : Value} (h : BS W (some ⟨g, off, none⟩) n zs) (hg : g' ≠ g) : BS (W.setCell ⟨g', k, none⟩ u) (some ⟨g, off, none⟩) n zs := by
  refine ⟨h.len, h.fits, h.room, ?_⟩
  rcases h.cells with h0 | ⟨b, off', e, hc⟩
  · exact .inl h0
  · cases e
    exact .inr ⟨g, off, rfl, fun i hi => (World.cell?_setCell_other _ _ _ _ (fun e => hg (congrArg Addr.block e))).trans (hc i hi)⟩


set_option maxRecDepth 20000 in
set_option maxHeartbeats 1000000 in
theorem isMsg_any {a : Option Addr} {n : Nat} {zs : List Int} {w : World} (cap : Nat) (h : BS w a n zs) (hcap : n ≤ cap) :
    Calls Try.prog 18 #[.slice a n cap] w fun e w' => e = .returned (.bool (isMsgB zs)) ∧ w' = w := by
  have hl := h.len
  have hr := h.room
  unfold isMsgB
  by_cases hn : n < 240
  · rw [show decide (240 ≤ zs.length) = false from by simp; omega, Bool.false_and]
    have hnI : (n : Int) < 240 := by omega
    go_enter Try.func18, Try.ntmps18
    go_wp2
    go_ret
    exact ⟨rfl, rfl⟩
  · rw [show decide (240 ≤ zs.length) = true from by simp; omega, Bool.true_and]
    have hnI : (240 : Int) ≤ n := by omega
    obtain ⟨b, off, rfl, hc⟩ : ∃ b off, a = some ⟨b, off, none⟩ ∧ w.cell? ⟨b, off, none⟩ = some (.int .u8 (zs.getD 0 0)) := by
      rcases h.cells with h0 | ⟨b, off, e, hc⟩
      · omega
      · exact ⟨b, off, e, hc 0 (by omega)⟩
    have hz := h.fits 0
    have hc0 : (0 : Int) < n := by omega
    have hcp1 : (4 : Int) ≤ cap := by omega
    have hcp2 : (240 : Int) ≤ cap := by omega
    have hcp3 : (1 : Int) ≤ cap := by omega
    have hcp4 : (236 : Int) ≤ cap := by omega
    have q1 := run_conv_bs (P := Try.prog) (cap - 1) ((h.drop (by omega) 1 (by omega)).take 3 (by omega)) 22 9 5 Try.underlying22 Try.underlying5 Try.underlying9
    have q2 := run_conv_bs (P := Try.prog) (cap - 236) ((h.drop (by omega) 236 (by omega)).take 4 (by omega)) 22 9 5 Try.underlying22 Try.underlying5 Try.underlying9
    have hne1 : ¬ cap = 1 := by omega
    have hne2 : ¬ cap = 236 := by omega
    clear h
    generalize zs.getD 0 0 = z at *
    generalize strOfNums ((zs.drop 1).take 3) = s1 at *
    generalize strOfNums ((zs.drop 236).take 4) = s2 at *
    cases c0 : (z == 1 || z == 2)
    · simp only [Bool.false_and]
      go_enter Try.func18, Try.ntmps18
      go_wp2_with (go_at_call 33; refine (isOp_any _ _).mono ?_; rw [c0]; rintro e w' ⟨rfl, rfl⟩)
      go_ret
      exact ⟨rfl, rfl⟩
    simp only [Bool.true_and]
    cases c1 : (s1.toList == (⟨#[1, 6, 0]⟩ : ByteArray).toList)
    · simp only [Bool.false_and]
      have c1' : (s1.toList == [1, 6, 0]) = false := by rw [← ByteArray.toList_mk [1, 6, 0]]; exact c1
      go_enter Try.func18, Try.ntmps18
      go_wp2_with (go_at_call 33; refine (isOp_any _ _).mono ?_; rw [c0]; rintro e w' ⟨rfl, rfl⟩)
      go_ret
      exact ⟨rfl, rfl⟩
    · simp only [Bool.true_and]
      have c1' : (s1.toList == [1, 6, 0]) = true := by rw [← ByteArray.toList_mk [1, 6, 0]]; exact c1
      rw [show (⟨#[99, 130, 83, 99]⟩ : ByteArray).toList = [99, 130, 83, 99] from ByteArray.toList_mk [99, 130, 83, 99]]
      go_enter Try.func18, Try.ntmps18
      go_wp2_with (go_at_call 33; refine (isOp_any _ _).mono ?_; rw [c0]; rintro e w' ⟨rfl, rfl⟩)
      go_ret
      exact ⟨rfl, rfl⟩


set_option maxHeartbeats 1000000 in
theorem taken_any (w : World) (b off n cap pB pA t : Nat) (zs : List Int) (s : Nat) (h : BS w (some ⟨b, off, none⟩) n zs) (hcap : n ≤ cap) (ht : t + s ≤ n) (hs : s ≤ 6) (hs0 : 0 < s) (hB : w.cell? ⟨pB, 0, none⟩ = some (.slice (some ⟨b, off, none⟩) n cap)) (hA : w.cell? ⟨pA, 0, none⟩ = some (.int .i64 t)) (hfA : w.frozen? ⟨pA, 0, none⟩ = false) (hne : pA ≠ pB) (hneb : pA ≠ b) :
    Calls Try.prog 34 #[.int .i64 s, .pointer (some ⟨pA, 0, none⟩), .pointer (some ⟨pB, 0, none⟩)] w fun e w' => e = .returned (.int .u64 (num ((zs.drop t).take s))) ∧ w' = w.setCell ⟨pA, 0, none⟩ (.int .i64 ((t + s : Nat) : Int)) := by
  have hr := h.room
  have e1 : (t : Int) + s - s = t := by omega
  have hle : (t : Int) + s ≤ cap := by omega
  have hlt : ¬ cap = t := by omega
  have h1 : (t : Int) + s ≤ 281474976710656 := by omega
  have hbs := bs_far (u := .int .i64 ((t : Int) + s)) (k := 0) h hneb
  have H : Hid (BS (w.setCell ⟨pA, 0, none⟩ (.int .i64 ((t : Int) + s))) (some ⟨b, off + t, none⟩) s ((zs.drop t).take s)) := by
    have q := (hbs.drop (by omega) t (by omega)).take s (by omega)
    exact q
  clear h hbs
  go_enter Try.func34, Try.ntmps34
  go_wp2_with fail
  refine (number_any _ H.out hs).mono ?_
  rintro e w1 ⟨rfl, rfl⟩
  go_wp2
  go_ret
  exact ⟨rfl, by push_cast; rfl⟩

/-- A call of take in readFixed. -/
theorem take_rf {w W : World} {b off n cap : Nat} {m : Array Value} {t : Nat} {zs : List Int} (R : RF w (.slice (some ⟨b, off, none⟩) n cap) m t W) (h : BS w (some ⟨b, off, none⟩) n zs) (hcap : n ≤ cap) (s : Int) (hs0 : 0 < s) (hs : s ≤ 6) (ht : (t : Int) + s ≤ n) :
    Calls Try.prog 34 #[.int .i64 s, .pointer (some ⟨w.heap.size + 1 + 1 + 1, 0, none⟩), .pointer (some ⟨w.heap.size, 0, none⟩)] W fun e w' => e = .returned (.int .u64 (num ((zs.drop t).take s.toNat))) ∧ RF w (.slice (some ⟨b, off, none⟩) n cap) m (t + s.toNat) w' := by
  obtain ⟨s, rfl⟩ := Int.eq_ofNat_of_zero_le (show 0 ≤ s by omega)
  have hb := cell_lt (show w.cell? ⟨b, off, none⟩ = some (.int .u8 (zs.getD 0 0)) from by
    rcases h.cells with h0 | ⟨b', off', e, hc⟩
    · omega
    · cases e; have := h.len; exact hc 0 (by omega))
  have hb' : b < w.heap.size := hb
  refine (taken_any W b off n cap w.heap.size (w.heap.size + 1 + 1 + 1) t zs s (h.below R.bel) hcap (by omega) (by omega) (by omega) (R.box.2 0) (R.at_.2 0) (R.fa 0) (by omega) (by omega)).mono ?_
  rintro e w' ⟨rfl, rfl⟩
  exact ⟨rfl, R.take (t + s)⟩


theorem num_bd2' {zs : List Int} (h : ∀ i, 0 ≤ zs.getD i 0 ∧ zs.getD i 0 ≤ 255) (k : Nat) : 0 ≤ num ((zs.drop k).take 2) ∧ num ((zs.drop k).take 2) ≤ 65535 := by
  have hd : ∀ i, 0 ≤ (zs.drop k).getD i 0 ∧ (zs.drop k).getD i 0 ≤ 255 := fun i => by
    have := h (k + i)
    simpa [List.getD_eq_getElem?_getD, List.getElem?_drop] using this
  have := num_bd (zs.drop k) hd 2
  have q4 : (256 : Int) ^ 2 = 65536 := by decide
  omega


set_option maxRecDepth 20000 in
set_option maxHeartbeats 4000000 in
theorem fixed_any2 (w : World) (b off n cap : Nat) (zs : List Int) (h : BS w (some ⟨b, off, none⟩) n zs) (hcap : n ≤ cap) (hn : 240 ≤ n) :
    Calls Try.prog 20 #[.slice (some ⟨b, off, none⟩) n cap] w fun e w' => e = .returned (fixV2 zs (.slice none 0 0)) ∧ Below w.heap.size w w' := by
  have hl := h.len
  have hc : w.cell? ⟨b, off, none⟩ = some (.int .u8 (zs.getD 0 0)) := by
    rcases h.cells with h0 | ⟨b', off', e, hc⟩
    · omega
    · cases e; exact hc 0 (by omega)
  have hbl := cell_lt hc
  have hz := h.fits 0
  have hc0 : (0 : Int) < n := by omega
  have hne0 : ¬ w.heap.size = b := by simp at hbl; omega
  have k4 := num_bd4 h.fits 4
  have k8 := num_bd2' h.fits 8
  have k10 := num_bd2' h.fits 10
  have k12 := num_bd4 h.fits 12
  have k16 := num_bd4 h.fits 16
  have k20 := num_bd4 h.fits 20
  have k24 := num_bd4 h.fits 24
  have H : Hid _ := h
  clear h
  generalize hz0 : zs.getD 0 0 = z0 at *
  have HZ0 : Hid _ := hz0
  clear hz0
  go_enter Try.func20, Try.ntmps20
  go_wp2_with fail
  have R0 : RF w (.slice (some ⟨b, off, none⟩) n cap) #[.int .i64 z0, .int .u32 0, .int .i64 0, .int .i64 0, .int .u32 0, .int .u32 0, .int .u32 0, .int .u32 0, .int .u64 0, .slice none 0 0] 4 ((((w.alloc (.cells #[(.slice (some ⟨b, off, none⟩) n cap)] 22)).alloc (.cells #[.int .i64 0, .int .u32 0, .int .i64 0, .int .i64 0, .int .u32 0, .int .u32 0, .int .u32 0, .int .u32 0, .int .u64 0, .slice none 0 0] 27)).alloc (.cells #[.int .i64 z0, .int .u32 0, .int .i64 0, .int .i64 0, .int .u32 0, .int .u32 0, .int .u32 0, .int .u32 0, .int .u64 0, .slice none 0 0] 27)).alloc (.cells #[.int .i64 4] 3)) := by
    have b1 := below1 w (.cells #[(.slice (some ⟨b, off, none⟩) n cap)] 22)
    refine ⟨((b1.alloc b1.size _).alloc (by simp; omega) _).alloc (by simp; omega) _, ?_, ?_, ?_, ?_, fun o => by simp [go_sem], fun o => by simp [go_sem], fun o => by simp [go_sem]⟩
    · exact AtB.below (AtB.below (AtB.below (atB_new w #[(.slice (some ⟨b, off, none⟩) n cap)] 22 _ rfl) (below1 _ _)) (below1 _ _)) (below1 _ _)
    · exact AtB.below (AtB.below (atB_new _ zeroArr 27 _ (by simp)) (below1 _ _)) (below1 _ _)
    · exact AtB.below (atB_new _ #[.int .i64 z0, .int .u32 0, .int .i64 0, .int .i64 0, .int .u32 0, .int .u32 0, .int .u32 0, .int .u32 0, .int .u64 0, .slice none 0 0] 27 _ (by simp)) (below1 _ _)
    · exact atB_new _ #[.int .i64 4] 3 _ (by simp)
  generalize ((((w.alloc (.cells #[(.slice (some ⟨b, off, none⟩) n cap)] 22)).alloc (.cells #[.int .i64 0, .int .u32 0, .int .i64 0, .int .i64 0, .int .u32 0, .int .u32 0, .int .u32 0, .int .u32 0, .int .u64 0, .slice none 0 0] 27)).alloc (.cells #[.int .i64 z0, .int .u32 0, .int .i64 0, .int .i64 0, .int .u32 0, .int .u32 0, .int .u32 0, .int .u32 0, .int .u64 0, .slice none 0 0] 27)).alloc (.cells #[.int .i64 4] 3)) = V0 at R0 ⊢
  refine (take_rf R0 H.out hcap 4 (by omega) (by omega) (by omega)).mono ?_
  rintro e V1 ⟨rfl, R1'⟩
  have R1 : RF w (.slice (some ⟨b, off, none⟩) n cap) #[.int .i64 z0, .int .u32 0, .int .i64 0, .int .i64 0, .int .u32 0, .int .u32 0, .int .u32 0, .int .u32 0, .int .u64 0, .slice none 0 0] 8 V1 := R1'
  clear R1' R0
  obtain ⟨m0, m1, m2, m3, m4, m5, m6, m7, m8, m9⟩ := AtB.ten R1.msg
  have fm := R1.fm
  have hlm := R1.msg.1
  go_wp2_with fail
  clear m0 m1 m2 m3 m4 m5 m6 m7 m8 m9 fm hlm
  have R2 : RF w (.slice (some ⟨b, off, none⟩) n cap) #[.int .i64 z0, .int .u32 (num ((zs.drop 4).take 4)), .int .i64 0, .int .i64 0, .int .u32 0, .int .u32 0, .int .u32 0, .int .u32 0, .int .u64 0, .slice none 0 0] 8 (V1.setCell ⟨w.heap.size + 1 + 1, 1, none⟩ (.int .u32 (num ((zs.drop 4).take 4)))) := (R1.put 1 (.int .u32 (num ((zs.drop 4).take 4))) (by simp))
  generalize (V1.setCell ⟨w.heap.size + 1 + 1, 1, none⟩ (.int .u32 (num ((zs.drop 4).take 4)))) = V2 at R2 ⊢
  clear R1
  refine (take_rf R2 H.out hcap 2 (by omega) (by omega) (by omega)).mono ?_
  rintro e V3 ⟨rfl, R3'⟩
  have R3 : RF w (.slice (some ⟨b, off, none⟩) n cap) #[.int .i64 z0, .int .u32 (num ((zs.drop 4).take 4)), .int .i64 0, .int .i64 0, .int .u32 0, .int .u32 0, .int .u32 0, .int .u32 0, .int .u64 0, .slice none 0 0] 10 V3 := R3'
  clear R3' R2
  go_wp2_with fail
  refine (take_rf R3 H.out hcap 2 (by omega) (by omega) (by omega)).mono ?_
  rintro e V4 ⟨rfl, R4'⟩
  have R4 : RF w (.slice (some ⟨b, off, none⟩) n cap) #[.int .i64 z0, .int .u32 (num ((zs.drop 4).take 4)), .int .i64 0, .int .i64 0, .int .u32 0, .int .u32 0, .int .u32 0, .int .u32 0, .int .u64 0, .slice none 0 0] 12 V4 := R4'
  clear R4' R3
  obtain ⟨m0, m1, m2, m3, m4, m5, m6, m7, m8, m9⟩ := AtB.ten R4.msg
  have fm := R4.fm
  have hlm := R4.msg.1
  go_wp2_with fail
  clear m0 m1 m2 m3 m4 m5 m6 m7 m8 m9 fm hlm
  have R5 : RF w (.slice (some ⟨b, off, none⟩) n cap) #[.int .i64 z0, .int .u32 (num ((zs.drop 4).take 4)), .int .i64 (num ((zs.drop 8).take 2)), .int .i64 (num ((zs.drop 10).take 2)), .int .u32 0, .int .u32 0, .int .u32 0, .int .u32 0, .int .u64 0, .slice none 0 0] 12 ((V4.setCell ⟨w.heap.size + 1 + 1, 2, none⟩ (.int .i64 (num ((zs.drop 8).take 2)))).setCell ⟨w.heap.size + 1 + 1, 3, none⟩ (.int .i64 (num ((zs.drop 10).take 2)))) := ((R4.put 2 (.int .i64 (num ((zs.drop 8).take 2))) (by simp)).put 3 (.int .i64 (num ((zs.drop 10).take 2))) (by simp))
  generalize ((V4.setCell ⟨w.heap.size + 1 + 1, 2, none⟩ (.int .i64 (num ((zs.drop 8).take 2)))).setCell ⟨w.heap.size + 1 + 1, 3, none⟩ (.int .i64 (num ((zs.drop 10).take 2)))) = V5 at R5 ⊢
  clear R4
  refine (take_rf R5 H.out hcap 4 (by omega) (by omega) (by omega)).mono ?_
  rintro e V6 ⟨rfl, R6'⟩
  have R6 : RF w (.slice (some ⟨b, off, none⟩) n cap) #[.int .i64 z0, .int .u32 (num ((zs.drop 4).take 4)), .int .i64 (num ((zs.drop 8).take 2)), .int .i64 (num ((zs.drop 10).take 2)), .int .u32 0, .int .u32 0, .int .u32 0, .int .u32 0, .int .u64 0, .slice none 0 0] 16 V6 := R6'
  clear R6' R5
  go_wp2_with fail
  refine (take_rf R6 H.out hcap 4 (by omega) (by omega) (by omega)).mono ?_
  rintro e V7 ⟨rfl, R7'⟩
  have R7 : RF w (.slice (some ⟨b, off, none⟩) n cap) #[.int .i64 z0, .int .u32 (num ((zs.drop 4).take 4)), .int .i64 (num ((zs.drop 8).take 2)), .int .i64 (num ((zs.drop 10).take 2)), .int .u32 0, .int .u32 0, .int .u32 0, .int .u32 0, .int .u64 0, .slice none 0 0] 20 V7 := R7'
  clear R7' R6
  obtain ⟨m0, m1, m2, m3, m4, m5, m6, m7, m8, m9⟩ := AtB.ten R7.msg
  have fm := R7.fm
  have hlm := R7.msg.1
  go_wp2_with fail
  clear m0 m1 m2 m3 m4 m5 m6 m7 m8 m9 fm hlm
  have R8 : RF w (.slice (some ⟨b, off, none⟩) n cap) #[.int .i64 z0, .int .u32 (num ((zs.drop 4).take 4)), .int .i64 (num ((zs.drop 8).take 2)), .int .i64 (num ((zs.drop 10).take 2)), .int .u32 (num ((zs.drop 12).take 4)), .int .u32 (num ((zs.drop 16).take 4)), .int .u32 0, .int .u32 0, .int .u64 0, .slice none 0 0] 20 ((V7.setCell ⟨w.heap.size + 1 + 1, 4, none⟩ (.int .u32 (num ((zs.drop 12).take 4)))).setCell ⟨w.heap.size + 1 + 1, 5, none⟩ (.int .u32 (num ((zs.drop 16).take 4)))) := ((R7.put 4 (.int .u32 (num ((zs.drop 12).take 4))) (by simp)).put 5 (.int .u32 (num ((zs.drop 16).take 4))) (by simp))
  generalize ((V7.setCell ⟨w.heap.size + 1 + 1, 4, none⟩ (.int .u32 (num ((zs.drop 12).take 4)))).setCell ⟨w.heap.size + 1 + 1, 5, none⟩ (.int .u32 (num ((zs.drop 16).take 4)))) = V8 at R8 ⊢
  clear R7
  refine (take_rf R8 H.out hcap 4 (by omega) (by omega) (by omega)).mono ?_
  rintro e V9 ⟨rfl, R9'⟩
  have R9 : RF w (.slice (some ⟨b, off, none⟩) n cap) #[.int .i64 z0, .int .u32 (num ((zs.drop 4).take 4)), .int .i64 (num ((zs.drop 8).take 2)), .int .i64 (num ((zs.drop 10).take 2)), .int .u32 (num ((zs.drop 12).take 4)), .int .u32 (num ((zs.drop 16).take 4)), .int .u32 0, .int .u32 0, .int .u64 0, .slice none 0 0] 24 V9 := R9'
  clear R9' R8
  go_wp2_with fail
  refine (take_rf R9 H.out hcap 4 (by omega) (by omega) (by omega)).mono ?_
  rintro e V10 ⟨rfl, R10'⟩
  have R10 : RF w (.slice (some ⟨b, off, none⟩) n cap) #[.int .i64 z0, .int .u32 (num ((zs.drop 4).take 4)), .int .i64 (num ((zs.drop 8).take 2)), .int .i64 (num ((zs.drop 10).take 2)), .int .u32 (num ((zs.drop 12).take 4)), .int .u32 (num ((zs.drop 16).take 4)), .int .u32 0, .int .u32 0, .int .u64 0, .slice none 0 0] 28 V10 := R10'
  clear R10' R9
  obtain ⟨m0, m1, m2, m3, m4, m5, m6, m7, m8, m9⟩ := AtB.ten R10.msg
  have fm := R10.fm
  have hlm := R10.msg.1
  go_wp2_with fail
  clear m0 m1 m2 m3 m4 m5 m6 m7 m8 m9 fm hlm
  have R11 : RF w (.slice (some ⟨b, off, none⟩) n cap) #[.int .i64 z0, .int .u32 (num ((zs.drop 4).take 4)), .int .i64 (num ((zs.drop 8).take 2)), .int .i64 (num ((zs.drop 10).take 2)), .int .u32 (num ((zs.drop 12).take 4)), .int .u32 (num ((zs.drop 16).take 4)), .int .u32 (num ((zs.drop 20).take 4)), .int .u32 (num ((zs.drop 24).take 4)), .int .u64 0, .slice none 0 0] 28 ((V10.setCell ⟨w.heap.size + 1 + 1, 6, none⟩ (.int .u32 (num ((zs.drop 20).take 4)))).setCell ⟨w.heap.size + 1 + 1, 7, none⟩ (.int .u32 (num ((zs.drop 24).take 4)))) := ((R10.put 6 (.int .u32 (num ((zs.drop 20).take 4))) (by simp)).put 7 (.int .u32 (num ((zs.drop 24).take 4))) (by simp))
  generalize ((V10.setCell ⟨w.heap.size + 1 + 1, 6, none⟩ (.int .u32 (num ((zs.drop 20).take 4)))).setCell ⟨w.heap.size + 1 + 1, 7, none⟩ (.int .u32 (num ((zs.drop 24).take 4)))) = V11 at R11 ⊢
  clear R10
  refine (take_rf R11 H.out hcap 6 (by omega) (by omega) (by omega)).mono ?_
  rintro e V12 ⟨rfl, R12'⟩
  have R12 : RF w (.slice (some ⟨b, off, none⟩) n cap) #[.int .i64 z0, .int .u32 (num ((zs.drop 4).take 4)), .int .i64 (num ((zs.drop 8).take 2)), .int .i64 (num ((zs.drop 10).take 2)), .int .u32 (num ((zs.drop 12).take 4)), .int .u32 (num ((zs.drop 16).take 4)), .int .u32 (num ((zs.drop 20).take 4)), .int .u32 (num ((zs.drop 24).take 4)), .int .u64 0, .slice none 0 0] 34 V12 := R12'
  clear R12' R11
  obtain ⟨m0, m1, m2, m3, m4, m5, m6, m7, m8, m9⟩ := AtB.ten R12.msg
  have fm := R12.fm
  have hlm := R12.msg.1
  obtain ⟨z00, z1, z2, z3, z4, z5, z6, z7, z8, z9⟩ := AtB.ten R12.res
  have fr := R12.fr
  have hbel : Hid _ := R12.bel
  clear R12
  go_wp2
  refine bodyPost_ret (v := fixV2 zs (.slice none 0 0)) ?_ rfl ⟨rfl, ?_⟩
  · unfold fixV2 dhcpV
    rw [HZ0.out]
    simp [results, Try.results20, go_sem, *]
  · repeat refine Below.setCell ?_ (by first | (simp; done) | (simp; omega)) _
    exact hbel.out

set_option linter.unusedSimpArgs false in
set_option maxHeartbeats 4000000 in
theorem readOpts_any (w : World) (b off n cap : Nat) (zs : List Int) (h : BS w (some ⟨b, off, none⟩) n zs) (hcap : n ≤ cap) (hb : b < w.heap.size) (hsome : Hid (parseO zs ≠ none)) (hfew : ∀ (acc : List Opt) (k : Nat), acc.length ≤ k → k ≤ n → parseO zs = (parseO (zs.drop k)).map (acc ++ ·) → acc.length ≤ 2000000) :
    Calls Try.prog 19 #[.slice (some ⟨b, off, none⟩) n cap] w fun e w' => ∃ a cap', e = .returned (optsV (parseO zs) a cap') ∧ Below w.heap.size w w' ∧ (∀ os, parseO zs = some os → OS w' a os.length os ∧ (os ≠ [] → ∃ g, a = some ⟨g, 0, none⟩ ∧ w.heap.size ≤ g)) := by
  have hl := h.len
  have hr := h.room
  have H : Hid _ := h
  have HFW : Hid _ := hfew
  clear h hfew
  go_enter Try.func19, Try.ntmps19
  go_wp2_with fail
  refine scope_loop 1 (ReadAt w b off n cap zs) (fun a' w' => n - slotAt 5 a' w') rfl ?_ ?_
  · rintro a' wr ⟨k, acc, v, u6, u7, u8, u9, u10, u11, u12, u13, u14, u15, u16, u17, u18, u19, u20, u21, u22, u23, u24, u25, u26, u27, u28, u29, u30, u31, u32, u33, u34, u35, u36, u37, u38, u39, u40, u41, u42, u43, u44, u45, u46, u47, u48, u49, u50, u51, u52, u53, u54, u55, rfl, hP⟩ IH
    have hk := hP.out.le
    by_cases hlt : k = n
    · have e0 : ((k : Int) == (n : Int)) = true := by simp [hlt]
      have hPn : Hid (parseO zs = none) := by
        show _ = _
        rw [hP.out.same, List.drop_of_length_le (by omega), parse_nil]; rfl
      exact absurd hPn.out hsome.out
    · have hkn : k < n := by omega
      have hkI : (k : Int) < (n : Int) := by omega
      have e0 : ((k : Int) == (n : Int)) = false := by simp; omega
      obtain ⟨va, vc, rfl⟩ : ∃ a c, v = .slice a acc.length c := by
        rcases hP.out.own.2 with ⟨rfl, h0⟩ | ⟨g, c, cur, rfl, _⟩
        · exact ⟨none, 0, by rw [h0]⟩
        · exact ⟨_, c, rfl⟩
      have hbs := H.out.below hP.out.bel
      have hcell : ∀ j, j < n → wr.cell? ⟨b, off + j, none⟩ = some (.int .u8 (zs.getD j 0)) := fun j hj => by
        rcases hbs.cells with h0 | ⟨b', off', e, hc⟩
        · omega
        · cases e; exact hc j (by omega)
      have hck := hcell k hkn
      have hz := hbs.fits k
      have hdk := drop_get (zs := zs) (k := k) (by omega)
      have HD : Hid _ := hdk
      have HC : Hid _ := hcell
      have HBS : Hid _ := hbs
      clear hdk hcell hbs
      generalize hzk : zs.getD k 0 = z at *
      have HZ : Hid _ := hzk
      clear hzk
      by_cases h255 : z = 255
      · subst h255
        have hP2 : Hid (parseO zs = some acc) := by
          show _ = _
          rw [hP.out.same, HD.out, parse_end]; simp
        clear IH
        go_wp2
        simp only [Exit.jumpTo]
        go_ret2
        refine ⟨va, vc, by rw [hP2.out]; rfl, hP.out.bel, fun os h => ?_⟩
        rw [hP2.out] at h
        cases h
        have ho := hP.out.own
        rcases ho.2 with ⟨hv, h0⟩ | ⟨g, c, cur, hv, hg, _⟩
        · have ha : acc = [] := List.eq_nil_of_length_eq_zero h0
          subst ha
          exact ⟨OS.empty _, fun h => absurd rfl h⟩
        · have e1 : va = some ⟨g, 0, none⟩ := by injection hv
          subst e1
          have hb2 := HFW.out acc k hP.out.few hP.out.le hP.out.same
          exact ⟨os_own (cap := vc) ho (by omega), fun _ => ⟨g, rfl, hg⟩⟩
      have e255 : (z == 255) = false := by simp [h255]
      by_cases h00 : z = 0
      · subst h00
        have hP2 : Hid (PO w n zs (k + 1) acc (.slice va acc.length vc) wr) := ⟨by omega, by have := hP.out.few; omega, by rw [hP.out.same, HD.out, parse_fill], hP.out.own, hP.out.bel⟩
        go_wp2_with fail
        go_step3
        show FromLabel _ _ _ _ _ _
        refine IH.out _ _ ⟨k + 1, acc, _, _, _, _, _, _, _, _, _, _, _, _, _, _, _, _, _, _, _, _, _, _, _, _, _, _, _, _, _, _, _, _, _, _, _, _, _, _, _, _, _, _, _, _, _, _, _, _, _, _, _, by first | rfl | go_num, hP2⟩ ?_
        simp [slotAt, intOf]; omega
      have e00 : (z == 0) = false := by simp [h00]
      by_cases hk2 : n < k + 2
      · have hk2I : (n : Int) < (k : Int) + 2 := by omega
        have hPn : Hid (parseO zs = none) := by
          show _ = _
          rw [hP.out.same, HD.out, List.drop_of_length_le (by omega), parse_short z h255 h00]; rfl
        exact absurd hPn.out hsome.out
      have hk2I : (k : Int) + 2 ≤ (n : Int) := by omega
      have hk1I : (k : Int) + 1 < (n : Int) := by omega
      have hcl := HC.out (k + 1) (by omega)
      have hzl := HBS.out.fits (k + 1)
      have hdl := drop_get (zs := zs) (k := k + 1) (by omega)
      have HDL : Hid _ := hdl
      clear hdl
      generalize hll : zs.getD (k + 1) 0 = l at *
      have HLL : Hid _ := hll
      clear hll
      obtain ⟨L, rfl⟩ := Int.eq_ofNat_of_zero_le hzl.1
      by_cases hbe : n < k + 2 + L
      · have hbeI : (n : Int) < (k : Int) + 2 + (L : Int) := by omega
        have hPn : Hid (parseO zs = none) := by
          show _ = _
          rw [hP.out.same, HD.out, HDL.out, parse_long z _ _ h255 h00 (by simp; omega)]; rfl
        exact absurd hPn.out hsome.out
      have hbeI : (k : Int) + 2 + (L : Int) ≤ (n : Int) := by omega
      have hcI1 : (k : Int) + 2 ≤ (cap : Int) := by omega
      have hcI2 : (k : Int) + 2 + (L : Int) ≤ (cap : Int) := by omega
      have hcI3 : (k : Int) + 2 ≤ (k : Int) + 2 + (L : Int) := by omega
      have hwz0 : IntKind.i64.wrap z = z := by rw [IntKind.wrap_i64]; omega
      have hbw : b < wr.heap.size := Nat.lt_of_lt_of_le hb hP.out.bel.size
      obtain ⟨i0, hi, hzz0, hzz1, hzz2⟩ := info_parts infoOpt
      by_cases hcp : cap = k + 2
      · exfalso
        obtain rfl : L = 0 := by omega
        apply hsome.out
        rw [hP.out.same, HD.out, HDL.out, parse_opt z _ _ h255 h00 (by simp), show ((0 : Nat) : Int).toNat = 0 from rfl, List.drop_zero, List.drop_of_length_le (by omega), parse_nil, Option.map_none, Option.map_none]
      · have hne : ¬ cap = k + 2 := hcp
        have hcv := run_conv_bs (P := Try.prog) (cap - (k + 2)) ((HBS.out.drop (by omega) (k + 2) (by omega)).take L (by omega)).drew 22 9 5 Try.underlying22 Try.underlying5 Try.underlying9
        have hlen0 := HFW.out acc k hP.out.few hP.out.le hP.out.same
        go_wp2_with fail
        refine wp_region_noPanic ?_
        refine wp_region_held_drew (S := fun W => W.cell? ⟨b, off + k, none⟩ = some (.int .u8 z)) (by kernel_rfl) ?_ (fun hHeld => ?_)
        · exact hck
        refine wpAnyH_take (i := 0) (v := ?_) rfl (by kernel_rfl) (by kernel_rfl) (by kernel_rfl) (fun _ _ _ h => h) (Or.inl ⟨by rfl, ?_⟩) (by assumption) ?_
        rotate_left
        · (intro w hSw; (try dsimp only at hSw); go_simp; try with_reducible rfl)
        try simp only [List.getElem_toArray, List.getElem_cons_zero, List.getElem_cons_succ, Act.put, List.setIfInBounds_toArray, List.set_cons_zero, List.set_cons_succ]
        refine wpAnyH_take (i := 1) (v := ?_) rfl (by kernel_rfl) (by kernel_rfl) (by kernel_rfl) (fun _ _ _ h => h) (Or.inl ⟨by rfl, ?_⟩) (by assumption) ?_
        rotate_left
        · (intro w hSw; (try dsimp only at hSw); go_simp; try with_reducible rfl)
        try simp only [List.getElem_toArray, List.getElem_cons_zero, List.getElem_cons_succ, Act.put, List.setIfInBounds_toArray, List.set_cons_zero, List.set_cons_succ]
        refine wpAnyH_take (i := 2) (v := ?_) rfl (by kernel_rfl) (by kernel_rfl) (by kernel_rfl) (fun _ _ _ h => h) (Or.inl ⟨by rfl, ?_⟩) (by assumption) ?_
        rotate_left
        · (intro w hSw; (try dsimp only at hSw); go_simp; try with_reducible rfl)
        try simp only [List.getElem_toArray, List.getElem_cons_zero, List.getElem_cons_succ, Act.put, List.setIfInBounds_toArray, List.set_cons_zero, List.set_cons_succ]
        refine wpAnyH_take (i := 3) (v := ?_) rfl (by kernel_rfl) (by kernel_rfl) (by kernel_rfl) (fun _ _ _ h => h) (Or.inl ⟨by rfl, ?_⟩) (by assumption) ?_
        rotate_left
        · (intro w hSw; (try dsimp only at hSw); go_simp; try with_reducible rfl)
        try simp only [List.getElem_toArray, List.getElem_cons_zero, List.getElem_cons_succ, Act.put, List.setIfInBounds_toArray, List.set_cons_zero, List.set_cons_succ]
        refine wpAnyH_take (i := 4) (v := ?_) rfl (by kernel_rfl) (by kernel_rfl) (by kernel_rfl) (fun _ _ _ h => h) (Or.inl ⟨by rfl, ?_⟩) (by assumption) ?_
        rotate_left
        · (intro w hSw; (try dsimp only at hSw); go_simp; try with_reducible rfl)
        try simp only [List.getElem_toArray, List.getElem_cons_zero, List.getElem_cons_succ, Act.put, List.setIfInBounds_toArray, List.set_cons_zero, List.set_cons_succ]
        refine wpAnyH_take (i := 5) (v := ?_) rfl (by kernel_rfl) (by kernel_rfl) (by kernel_rfl) (fun _ _ _ h => h) (Or.inl ⟨by rfl, ?_⟩) (by assumption) ?_
        rotate_left
        · (intro w hSw; (try dsimp only at hSw); go_simp; try with_reducible rfl)
        try simp only [List.getElem_toArray, List.getElem_cons_zero, List.getElem_cons_succ, Act.put, List.setIfInBounds_toArray, List.set_cons_zero, List.set_cons_succ]
        refine wpAnyH_take (i := 6) (v := ?_) rfl (by kernel_rfl) (by kernel_rfl) (by kernel_rfl) (fun _ _ _ h => h) (Or.inl ⟨by rfl, ?_⟩) (by assumption) ?_
        rotate_left
        · (intro w hSw; (try dsimp only at hSw); go_simp; try with_reducible rfl)
        try simp only [List.getElem_toArray, List.getElem_cons_zero, List.getElem_cons_succ, Act.put, List.setIfInBounds_toArray, List.set_cons_zero, List.set_cons_succ]
        refine wpAnyH_take (i := 7) (v := ?_) rfl (by kernel_rfl) (by kernel_rfl) (by kernel_rfl) (fun _ _ _ h => h) (Or.inl ⟨by rfl, ?_⟩) (by assumption) ?_
        rotate_left
        · (intro w hSw; (try dsimp only at hSw); go_simp; try with_reducible rfl)
        try simp only [List.getElem_toArray, List.getElem_cons_zero, List.getElem_cons_succ, Act.put, List.setIfInBounds_toArray, List.set_cons_zero, List.set_cons_succ]
        refine wpAnyH_take (i := 8) (v := ?_) rfl (by kernel_rfl) (by kernel_rfl) (by kernel_rfl) (fun _ _ _ h => h) (Or.inl ⟨by rfl, ?_⟩) (by assumption) ?_
        rotate_left
        · (intro w hSw; (try dsimp only at hSw); go_simp; try with_reducible rfl)
        try simp only [List.getElem_toArray, List.getElem_cons_zero, List.getElem_cons_succ, Act.put, List.setIfInBounds_toArray, List.set_cons_zero, List.set_cons_succ]
        refine wpAnyH_ready (rs := [9]) (by kernel_rfl) (by simp) ?_
        refine AllReadyH.cons (o := _) rfl (fun K hK => ?_) AllReadyH.nil
        go_simp
        go_wp2_with fail
        refine hK.out _ _ (by exact hck) (fun hHeld2 => ?_)
        clear hK K hHeld
        have hHeld := hHeld2
        clear hHeld2
        try simp only [List.getElem_toArray, List.getElem_cons_zero, List.getElem_cons_succ, Act.put, List.setIfInBounds_toArray, List.set_cons_zero, List.set_cons_succ]
        refine wpAnyH_ready (rs := [10]) (by kernel_rfl) (by simp) ?_
        refine AllReadyH.cons (o := _) rfl (fun K hK => ?_) AllReadyH.nil
        go_simp
        go_wp2_with fail
        refine hK.out _ _ (by exact hck) (fun hHeld2 => ?_)
        clear hK K hHeld
        have hHeld := hHeld2
        clear hHeld2
        try simp only [List.getElem_toArray, List.getElem_cons_zero, List.getElem_cons_succ, Act.put, List.setIfInBounds_toArray, List.set_cons_zero, List.set_cons_succ]
        refine wpAnyH_take (i := 11) (v := ?_) rfl (by kernel_rfl) (by kernel_rfl) (by kernel_rfl) (fun _ _ _ h => h) (Or.inl ⟨by rfl, ?_⟩) (by assumption) ?_
        rotate_left
        · (intro w hSw; (try dsimp only at hSw); go_simp; try with_reducible rfl)
        try simp only [List.getElem_toArray, List.getElem_cons_zero, List.getElem_cons_succ, Act.put, List.setIfInBounds_toArray, List.set_cons_zero, List.set_cons_succ]
        have hck2 : (wr.alloc (.cells #[.int .i64 0, .int .i64 z, .string (strOfNums ((zs.drop (k + 2)).take L))] 45)).drew.cell? ⟨b, off + k, none⟩ = some (.int .u8 z) := ((below1 wr _).cell (p := ⟨b, off + k, none⟩) hbw).trans hck
        refine wpAnyH_ready (rs := [12]) (by kernel_rfl) (by simp) ?_
        refine AllReadyH.cons (o := _) rfl (fun K hK => ?_) AllReadyH.nil
        go_simp
        refine hK.out _ _ (by exact hck2) (fun hHeld2 => ?_)
        clear hK K hHeld
        have hHeld := hHeld2
        clear hHeld2
        try simp only [List.getElem_toArray, List.getElem_cons_zero, List.getElem_cons_succ, Act.put, List.setIfInBounds_toArray, List.set_cons_zero, List.set_cons_succ]
        have hOw : World.ownsRow (wr.alloc (.cells #[.int .i64 0, .int .i64 z, .string (strOfNums ((zs.drop (k + 2)).take L))] 45)).drew w.heap.size 45 3 (.slice va acc.length vc) acc.length (optCells acc) := World.ownsRow.drew (World.ownsRow.alloc hP.out.own _)
        have hwz := hP.out.bel.size
        refine wpAnyH_ready (rs := [13]) (by kernel_rfl) (by simp) ?_
        refine AllReadyH.cons (o := _) rfl (fun K hK => ?_) AllReadyH.nil
        refine step_append_lies _ (by rfl) (.tmp 41) (.tmp 53) 25 (by rfl) w.heap.size 45 i0 _ 3 32 Try.underlying25 hi hzz0 hzz1 hzz2 rfl (by omega) _ acc.length _ (by rfl) hOw ⟨wr.heap.size, 0, none⟩ 1 1 [.int .i64 0, .int .i64 z, .string (strOfNums ((zs.drop (k + 2)).take L))] (by rfl) rfl (World.news_of_block (w := (wr.alloc (.cells #[.int .i64 0, .int .i64 z, .string (strOfNums ((zs.drop (k + 2)).take L))] 45)).drew) (heap_alloc_new wr _)) (by simp [Value.oneCell']) (by omega) (by unfold maxLen; omega) (by omega) (by simp; omega) (wr.heap.size + 1) (by simp) ?_
        intro g cap2 we h1' h2' h3' h4'
        have hck3 : we.cell? ⟨b, off + k, none⟩ = some (.int .u8 z) := (h2'.cell_far ⟨b, off + k, none⟩ (by simp; omega) (fun e => by have := (World.ownsRow.lt hOw _ e.symm).1; simp at this; omega)).trans hck2
        refine hK.out _ _ (by exact hck3) (fun hHeld2 => ?_)
        clear hK K hHeld
        have hHeld := hHeld2
        clear hHeld2
        try simp only [List.getElem_toArray, List.getElem_cons_zero, List.getElem_cons_succ, Act.put, List.setIfInBounds_toArray, List.set_cons_zero, List.set_cons_succ]
        refine wpAnyH_take (i := 14) (v := ?_) rfl (by kernel_rfl) (by kernel_rfl) (by kernel_rfl) (fun _ _ _ h => h) (Or.inl ⟨by rfl, ?_⟩) (by assumption) ?_
        rotate_left
        · (intro w hSw; (try dsimp only at hSw); go_simp; try with_reducible rfl)
        try simp only [List.getElem_toArray, List.getElem_cons_zero, List.getElem_cons_succ, Act.put, List.setIfInBounds_toArray, List.set_cons_zero, List.set_cons_succ]
        refine wpAnyH_done (by kernel_rfl) ?_ _
        refine NoPanic.normal ?_
        have hPO : PO w n zs (k + 2 + L) (acc ++ [⟨0, z, strOfNums ((zs.drop (k + 2)).take L)⟩]) (.slice (some ⟨g, 0, none⟩) (acc.length + 1) cap2) we := by
          refine ⟨by omega, by have := hP.out.few; simp; omega, ?_, ?_, ?_⟩
          · rw [hP.out.same, HD.out, HDL.out, parse_opt z _ _ h255 h00 (by simp; omega)]
            rw [show (L : Int).toNat = L from rfl, List.drop_drop, show k + 1 + 1 + L = k + 2 + L from by omega, show k + 1 + 1 = k + 2 from by omega]
            cases parseO (zs.drop (k + 2 + L)) <;> simp
          · rw [show (acc ++ [(⟨0, z, strOfNums ((zs.drop (k + 2)).take L)⟩ : Opt)]).length = acc.length + 1 from by simp, optCells_app]
            exact h1'
          · have bA := hP.out.bel.alloc hP.out.bel.size (.cells #[.int .i64 0, .int .i64 z, .string (strOfNums ((zs.drop (k + 2)).take L))] 45)
            exact bA.drew.grown h2' (by simp; omega) (fun j hj => (World.ownsRow.lt hOw j hj).1)
        have HPO : Hid _ := hPO
        clear hPO h1' h2' h3' h4' hck3 hOw hHeld hck2 hcv hck hcl
        go_wp2_with fail
        go_step3
        show FromLabel _ _ _ _ _ _
        refine IH.out _ _ ⟨k + 2 + L, acc ++ [⟨0, z, strOfNums ((zs.drop (k + 2)).take L)⟩], _, _, _, _, _, _, _, _, _, _, _, _, _, _, _, _, _, _, _, _, _, _, _, _, _, _, _, _, _, _, _, _, _, _, _, _, _, _, _, _, _, _, _, _, _, _, _, _, _, _, _, by first | rfl | go_num, HPO⟩ ?_
        simp [slotAt, intOf]; omega
  · intro HG
    go_wp2_with fail
    go_step3
    rename_i K hK
    exact hK _ _ (HG.out _ _ ⟨0, [], _, _, _, _, _, _, _, _, _, _, _, _, _, _, _, _, _, _, _, _, _, _, _, _, _, _, _, _, _, _, _, _, _, _, _, _, _, _, _, _, _, _, _, _, _, _, _, _, _, _, _, rfl, ⟨by omega, by simp, by cases hp : parseO zs <;> simp [hp], World.ownsRow_nil _ _ _ _, Below.refl _ _⟩⟩)

set_option maxRecDepth 20000 in
set_option maxHeartbeats 1000000 in
theorem decode_yes (w : World) (b off n cap : Nat) (zs : List Int) (os : List Opt) (h : BS w (some ⟨b, off, none⟩) n zs) (hcap : n ≤ cap) (hm : isMsgB zs = true) (hp : parseO (zs.drop 240) = some os) (hfew : os.length ≤ 2000000) :
    Calls Try.prog 7 #[.slice (some ⟨b, off, none⟩) n cap] w fun e w' => ∃ a cap', e = .returned (.tuple #[fixV2 zs (.slice a os.length cap'), .int .i64 0]) ∧ OS w' a os.length os ∧ Below w.heap.size w w' := by
  have hl := h.len
  have hr := h.room
  have hn : 240 < n := by
    rcases Nat.lt_or_ge 240 n with h1 | h1
    · exact h1
    · rw [List.drop_of_length_le (by omega), parse_nil] at hp
      cases hp
  have hnI : (240 : Int) ≤ n := by omega
  have hcI : (240 : Int) ≤ cap := by omega
  have hne : ¬ cap = 240 := by omega
  have hbl : b < w.heap.size := by
    rcases h.cells with h0 | ⟨b', off', e, hc⟩
    · omega
    · cases e; exact cell_lt (hc 0 (by omega))
  have HM : Hid _ := hm
  have HP : Hid _ := hp
  have B1 := below1 w (.cells zeroArr 27)
  have hd := (h.below B1).drop (by omega) 240 (by omega)
  have H1 : Hid _ := h.below B1
  have HD : Hid _ := hd
  have aR0 := atB_new w zeroArr 27 w.heap.size rfl
  have fR0 : ∀ o, (w.alloc (.cells zeroArr 27)).frozen? ⟨w.heap.size, o, none⟩ = false := fun o => by simp [go_sem]
  have AR0 : Hid _ := aR0
  have FR0 : Hid _ := fR0
  have HB1 : Hid _ := B1
  clear h hm hp hd aR0 fR0 B1
  have hfew2 : ∀ (acc : List Opt) (k : Nat), acc.length ≤ k → k ≤ n - 240 → parseO (zs.drop 240) = (parseO ((zs.drop 240).drop k)).map (acc ++ ·) → acc.length ≤ 2000000 := by
    intro acc k _ _ hs
    rw [HP.out] at hs
    cases hq : parseO ((zs.drop 240).drop k) with
    | none => rw [hq] at hs; simp at hs
    | some r =>
      rw [hq] at hs
      simp at hs
      rw [hs] at hfew
      simp at hfew
      omega
  go_enter Try.func7, Try.ntmps7
  go_wp2_with fail
  refine (isMsg_any cap H1.out hcap).mono ?_
  rw [HM.out]
  rintro e W0 ⟨rfl, rfl⟩
  go_wp2_with fail
  refine (readOpts_any _ b (off + 240) (n - 240) (cap - 240) (zs.drop 240) HD.out (by omega) (by simp; omega) (by show _ ≠ _; rw [HP.out]; simp) hfew2).mono ?_
  rintro e W1 ⟨a1, c1, rfl, hb1, hos1⟩
  obtain ⟨ho1, hg1⟩ := hos1 os HP.out
  rw [HP.out]
  unfold optsV
  have aR1 := AtB.below AR0.out hb1
  have fR1 : ∀ o, W1.frozen? ⟨w.heap.size, o, none⟩ = false := fun o => (hb1.frozen (p := ⟨w.heap.size, o, none⟩) (by simp)).trans (FR0.out o)
  have H2 : Hid _ := H1.out.below hb1
  have HB2 : Hid (Below w.heap.size w W1) := HB1.out.trans (hb1.mono HB1.out.size)
  have HO1 : Hid _ := ho1
  have HG1 : Hid _ := hg1
  have AR1 : Hid _ := aR1
  have FR1 : Hid _ := fR1
  clear hb1 hos1 ho1 hg1 aR1 fR1
  go_wp2_with fail
  refine (fixed_any2 _ b off n cap zs H2.out hcap (by omega)).mono ?_
  unfold fixV2 dhcpV
  rintro e W2 ⟨rfl, hb2⟩
  have aR2 := AtB.below AR1.out hb2
  have fR2 : ∀ o, W2.frozen? ⟨w.heap.size, o, none⟩ = false := fun o => (hb2.frozen (p := ⟨w.heap.size, o, none⟩) AR1.out.1).trans (FR1.out o)
  have HO2 : Hid _ := HO1.out.below hb2
  have HB3 : Hid (Below w.heap.size w W2) := HB2.out.trans (hb2.mono HB2.out.size)
  have hl2 : w.heap.size < W2.heap.size := aR2.1
  have hdd : ¬ W2.heap.size = w.heap.size := by omega
  obtain ⟨z0, z1, z2, z3, z4, z5, z6, z7, z8, z9⟩ := AtB.ten aR2
  clear hb2 aR2
  go_wp2
  refine bodyPost_ret (v := .tuple #[fixV2 zs (.slice a1 os.length c1), .int .i64 0]) ?_ rfl ⟨a1, c1, rfl, ?_, ?_⟩
  · unfold fixV2 dhcpV
    simp [results, Try.results7, go_sem, *]
  · by_cases hz : os = []
    · subst hz
      exact OS.empty _
    · obtain ⟨g, rfl, hgg⟩ := HG1.out hz
      have hgne : w.heap.size ≠ g := by simp at hgg; omega
      refine OS.below ?_ (below1 _ _)
      iterate 10 refine OS.far ?_ hgne
      exact HO2.out
  · refine Below.alloc ?_ (by simp; omega) _
    iterate 10 refine Below.setCell ?_ (by simp) _
    exact HB3.out

theorem run_append_bsw {P : Program} (w : World) (base : Nat) (t ty e : TypeId) (i : TypeInfo) (ht : P.underlying t = some (.slice e)) (hi : P.info? e = some i) (hz : i.zero = some (.int .u8 0)) (hsize : i.size = 1) (hby : i.bytes = 1)
    (v : Value) (n : Nat) (xs : List Int) (hown : w.ownsRow base e 1 v n (xs.map (Value.int .u8))) {a : Option Addr} {m : Nat} {zs : List Int} (c : Nat) (hbs : BS w a m zs)
    (hsum : n + m ≤ 200000000000000) (hbase : base ≤ w.heap.size) :
    ∃ v' w', (Builtin.append_ #[t, t] ty #[v, .slice a m c]).run P w = .ok v' w' ∧ w'.ownsRow base e 1 v' (n + m) ((xs ++ zs).map (Value.int .u8)) ∧ w.grownBy w' v.ownBlock := by
  have hml : n + m ≤ maxLen := by unfold maxLen; omega
  rcases a with _ | ad
  · have hm0 : m = 0 := by
      rcases hbs.cells with h | ⟨b, off, h, _⟩
      · exact h
      · cases h
    subst hm0
    have hz0 : zs = [] := List.length_eq_zero_iff.1 hbs.len
    subst hz0
    refine ⟨v, w, run_append_none w base t ty e i 1 ht hi v n c _ hown, by simpa using hown, World.grownBy.refl _ _⟩
  · obtain ⟨v', w', h1, h2, h3, _⟩ := run_append_own_wide (P := P) w base t ty e i (.int .u8 0) 1 1 ht hi hz hsize hby rfl (by decide) v n _ hown ad m c (zs.map (Value.int .u8)) (by simp [hbs.len]) (fun j u hj => by
      obtain ⟨hjl, rfl⟩ := map_get hj
      rcases hbs.cells with h | ⟨b, off, h, hc⟩
      · have := hbs.len; omega
      · cases h
        rw [plain_add]; exact hc j hjl) (ints_oneCell _ _) hml (by omega) hbase
    exact ⟨v', w', h1, by simpa using h2, h3⟩


theorem wpList_append_bsw {P : Program} {w : World} {ops : Array Oper} {rest : List Oper} {o : Oper} {act : Act} {Q : Exit → Act → World → Prop} (hw : Region.wanted o (yielded ops act.tmps) = true) (s x : Operand) (t : TypeId)
    (ho : o.op = .call { callee := .builtin .append, args := #[s, x], argTypes := #[t, t] })
    (base : Nat) (e : TypeId) (i : TypeInfo) (ht : P.underlying t = some (.slice e)) (hi : P.info? e = some i) (hz : i.zero = some (.int .u8 0)) (hsize : i.size = 1) (hby : i.bytes = 1)
    (v : Value) (n : Nat) (xs : List Int) (hs : act.eval s = v) (hown : w.ownsRow base e 1 v n (xs.map (Value.int .u8)))
    (a : Option Addr) (m c : Nat) (zs : List Int) (hx : act.eval x = .slice a m c) (hbs : BS w a m zs) (hsum : n + m ≤ 200000000000000) (hbase : base ≤ w.heap.size)
    (h : ∀ a' cap' w', w'.ownsRow base e 1 (.slice a' (n + m) cap') (n + m) ((xs ++ zs).map (Value.int .u8)) → w.grownBy w' v.ownBlock → wpList P ops Q rest (act.put o.dst (.slice a' (n + m) cap')) w') : wpList P ops Q (o :: rest) act w := by
  refine BigFrame.wpList_want hw fun K hK => ?_
  obtain ⟨v', w', hr, h2, h3⟩ := run_append_bsw (P := P) w base t o.type e i ht hi hz hsize hby v n xs hown c hbs hsum hbase
  obtain ⟨a', cap', rfl, _⟩ := own_form h2
  unfold Oper.wp execOp
  simp only [ho, resolve, invoke, builtin, Sem.run_bind, Sem.run_pure, Result.andThen_ok, List.map_toArray, List.map_cons, List.map_nil, hs, hx, hr]
  exact hK _ _ (h a' cap' w' h2 h3)


theorem toW {w : World} {a : Option Addr} {n : Nat} {zs : List Int} (h : Go.Proofs.Ytjoekmcogmfhjaa.BS w a n zs) : BS w a n zs := ⟨h.len, h.fits, by have := h.room; omega, h.cells⟩

end Go.Proofs.Ytjoekmcogmfhjaa.W
