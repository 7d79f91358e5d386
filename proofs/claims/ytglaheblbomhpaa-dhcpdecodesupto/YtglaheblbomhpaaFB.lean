/- What readFixed of package dhcp answers: the numbers of a message's fixed part. Conditions: at least 240 bytes that can be read. -/
import Derived.Test.YtglaheblbomhpaaFA
namespace Go.Proofs.Ytglaheblbomhpaa
open Go.RowKit

def zeroArr : Array Value := #[.int .i64 0, .int .u32 0, .int .i64 0, .int .i64 0, .int .u32 0, .int .u32 0, .int .u32 0, .int .u32 0, .int .u64 0, .slice none 0 0]

/-- The blocks of readFixed: the row's box, the result, the message, the place. -/
structure RF (w : World) (r : Value) (m : Array Value) (t : Nat) (W : World) : Prop where
  bel : Below w.heap.size w W
  box : AtB W w.heap.size #[r]
  res : AtB W (w.heap.size + 1) zeroArr
  msg : AtB W (w.heap.size + 1 + 1) m
  at_ : AtB W (w.heap.size + 1 + 1 + 1) #[.int .i64 (t : Int)]
  fr : ∀ o, W.frozen? ⟨w.heap.size + 1, o, none⟩ = false
  fm : ∀ o, W.frozen? ⟨w.heap.size + 1 + 1, o, none⟩ = false
  fa : ∀ o, W.frozen? ⟨w.heap.size + 1 + 1 + 1, o, none⟩ = false
theorem RF.take {w W : World} {r : Value} {m : Array Value} {t : Nat} (h : RF w r m t W) (t' : Nat) : RF w r m t' (W.setCell ⟨w.heap.size + 1 + 1 + 1, 0, none⟩ (.int .i64 (t' : Int))) :=
  ⟨h.bel.setCell (by simp; omega) _, h.box.far (by omega), h.res.far (by omega), h.msg.far (by omega), AtB.setAt h.at_ (by simp), fun o => by rw [World.frozen?_setCell]; exact h.fr o, fun o => by rw [World.frozen?_setCell]; exact h.fm o, fun o => by rw [World.frozen?_setCell]; exact h.fa o⟩
theorem RF.put {w W : World} {r : Value} {m : Array Value} {t : Nat} (h : RF w r m t W) (k : Nat) (v : Value) (hk : k < m.size) : RF w r (m.setIfInBounds k v) t (W.setCell ⟨w.heap.size + 1 + 1, k, none⟩ v) :=
  ⟨h.bel.setCell (by simp; omega) _, h.box.far (by omega), h.res.far (by omega), AtB.setAt h.msg hk, h.at_.far (by omega), fun o => by rw [World.frozen?_setCell]; exact h.fr o, fun o => by rw [World.frozen?_setCell]; exact h.fm o, fun o => by rw [World.frozen?_setCell]; exact h.fa o⟩

/-- A call of take in readFixed. -/
theorem take_rf {w W : World} {b off n cap : Nat} {m : Array Value} {t : Nat} {zs : List Int} (R : RF w (.slice (some ⟨b, off, none⟩) n cap) m t W) (h : BS w (some ⟨b, off, none⟩) n zs) (hcap : n ≤ cap) (s : Int) (hs0 : 0 < s) (hs : s ≤ 6) (ht : (t : Int) + s ≤ n) :
    Calls Try.prog 34 #[.int .i64 s, .pointer (some ⟨w.heap.size + 1 + 1 + 1, 0, none⟩), .pointer (some ⟨w.heap.size, 0, none⟩)] W fun e w' => e = .returned (.int .u64 (num ((zs.drop t).take s.toNat))) ∧ RF w (.slice (some ⟨b, off, none⟩) n cap) m (t + s.toNat) w' := by
  obtain ⟨s, rfl⟩ := Int.eq_ofNat_of_zero_le (show 0 ≤ s by omega)
  have hb := cell_lt (show w.cell? ⟨b, off, none⟩ = some (.int .u8 (zs.getD 0 0)) from by
    rcases h.cells with h0 | ⟨b', off', e, hc⟩
    · omega
    · cases e; have := h.len; exact hc 0 (by omega))
  have hb' : b < w.heap.size := hb
  refine (taken_any W b off n cap w.heap.size (w.heap.size + 1 + 1 + 1) t zs s (h.below R.bel) hcap (by omega) (by omega) (by omega) (R.box.2 0) (R.at_.2 0) (R.fa 0) (by omega) (by omega)).mono ?_
  rintro e w' ⟨rfl, rfl⟩
  exact ⟨rfl, R.take (t + s)⟩

def fixV2 (zs : List Int) (s : Value) : Value := dhcpV (zs.getD 0 0) (num ((zs.drop 4).take 4)) (num ((zs.drop 8).take 2)) (num ((zs.drop 10).take 2)) (num ((zs.drop 12).take 4)) (num ((zs.drop 16).take 4)) (num ((zs.drop 20).take 4)) (num ((zs.drop 24).take 4)) (num ((zs.drop 28).take 6)) s

theorem num_bd4 {zs : List Int} (h : ∀ i, 0 ≤ zs.getD i 0 ∧ zs.getD i 0 ≤ 255) (k : Nat) : 0 ≤ num ((zs.drop k).take 4) ∧ num ((zs.drop k).take 4) ≤ 4294967295 := by
  have hd : ∀ i, 0 ≤ (zs.drop k).getD i 0 ∧ (zs.drop k).getD i 0 ≤ 255 := fun i => by
    have := h (k + i)
    simpa [List.getD_eq_getElem?_getD, List.getElem?_drop] using this
  have := num_bd (zs.drop k) hd 4
  have q4 : (256 : Int) ^ 4 = 4294967296 := by decide
  omega
theorem num_bd2' {zs : List Int} (h : ∀ i, 0 ≤ zs.getD i 0 ∧ zs.getD i 0 ≤ 255) (k : Nat) : 0 ≤ num ((zs.drop k).take 2) ∧ num ((zs.drop k).take 2) ≤ 65535 := by
  have hd : ∀ i, 0 ≤ (zs.drop k).getD i 0 ∧ (zs.drop k).getD i 0 ≤ 255 := fun i => by
    have := h (k + i)
    simpa [List.getD_eq_getElem?_getD, List.getElem?_drop] using this
  have := num_bd (zs.drop k) hd 2
  have q4 : (256 : Int) ^ 2 = 65536 := by decide
  omega

set_option maxRecDepth 20000 in
set_option maxHeartbeats 4000000 in
theorem fixed_any2 (w : World) (b off n cap : Nat) (zs : List Int) (h : BS w (some ⟨b, off, none⟩) n zs) (hcap : n ≤ cap) (hn : 240 ≤ n) :
    Calls Try.prog 20 #[.slice (some ⟨b, off, none⟩) n cap] w fun e w' => e = .returned (fixV2 zs (.slice none 0 0)) ∧ Below w.heap.size w w' := by
  have hl := h.len
  have hc : w.cell? ⟨b, off, none⟩ = some (.int .u8 (zs.getD 0 0)) := by
    rcases h.cells with h0 | ⟨b', off', e, hc⟩
    · omega
    · cases e; exact hc 0 (by omega)
  have hbl := cell_lt hc
  have hz := h.fits 0
  have hc0 : (0 : Int) < n := by omega
  have hne0 : ¬ w.heap.size = b := by simp at hbl; omega
  have k4 := num_bd4 h.fits 4
  have k8 := num_bd2' h.fits 8
  have k10 := num_bd2' h.fits 10
  have k12 := num_bd4 h.fits 12
  have k16 := num_bd4 h.fits 16
  have k20 := num_bd4 h.fits 20
  have k24 := num_bd4 h.fits 24
  have H : Hid _ := h
  clear h
  generalize hz0 : zs.getD 0 0 = z0 at *
  have HZ0 : Hid _ := hz0
  clear hz0
  go_enter Try.func20, Try.ntmps20
  go_wp2_with fail
  have R0 : RF w (.slice (some ⟨b, off, none⟩) n cap) #[.int .i64 z0, .int .u32 0, .int .i64 0, .int .i64 0, .int .u32 0, .int .u32 0, .int .u32 0, .int .u32 0, .int .u64 0, .slice none 0 0] 4 ((((w.alloc (.cells #[(.slice (some ⟨b, off, none⟩) n cap)] 22)).alloc (.cells #[.int .i64 0, .int .u32 0, .int .i64 0, .int .i64 0, .int .u32 0, .int .u32 0, .int .u32 0, .int .u32 0, .int .u64 0, .slice none 0 0] 27)).alloc (.cells #[.int .i64 z0, .int .u32 0, .int .i64 0, .int .i64 0, .int .u32 0, .int .u32 0, .int .u32 0, .int .u32 0, .int .u64 0, .slice none 0 0] 27)).alloc (.cells #[.int .i64 4] 3)) := by
    have b1 := below1 w (.cells #[(.slice (some ⟨b, off, none⟩) n cap)] 22)
    refine ⟨((b1.alloc b1.size _).alloc (by simp; omega) _).alloc (by simp; omega) _, ?_, ?_, ?_, ?_, fun o => by simp [go_sem], fun o => by simp [go_sem], fun o => by simp [go_sem]⟩
    · exact AtB.below (AtB.below (AtB.below (atB_new w #[(.slice (some ⟨b, off, none⟩) n cap)] 22 _ rfl) (below1 _ _)) (below1 _ _)) (below1 _ _)
    · exact AtB.below (AtB.below (atB_new _ zeroArr 27 _ (by simp)) (below1 _ _)) (below1 _ _)
    · exact AtB.below (atB_new _ #[.int .i64 z0, .int .u32 0, .int .i64 0, .int .i64 0, .int .u32 0, .int .u32 0, .int .u32 0, .int .u32 0, .int .u64 0, .slice none 0 0] 27 _ (by simp)) (below1 _ _)
    · exact atB_new _ #[.int .i64 4] 3 _ (by simp)
  generalize ((((w.alloc (.cells #[(.slice (some ⟨b, off, none⟩) n cap)] 22)).alloc (.cells #[.int .i64 0, .int .u32 0, .int .i64 0, .int .i64 0, .int .u32 0, .int .u32 0, .int .u32 0, .int .u32 0, .int .u64 0, .slice none 0 0] 27)).alloc (.cells #[.int .i64 z0, .int .u32 0, .int .i64 0, .int .i64 0, .int .u32 0, .int .u32 0, .int .u32 0, .int .u32 0, .int .u64 0, .slice none 0 0] 27)).alloc (.cells #[.int .i64 4] 3)) = V0 at R0 ⊢
  refine (take_rf R0 H.out hcap 4 (by omega) (by omega) (by omega)).mono ?_
  rintro e V1 ⟨rfl, R1'⟩
  have R1 : RF w (.slice (some ⟨b, off, none⟩) n cap) #[.int .i64 z0, .int .u32 0, .int .i64 0, .int .i64 0, .int .u32 0, .int .u32 0, .int .u32 0, .int .u32 0, .int .u64 0, .slice none 0 0] 8 V1 := R1'
  clear R1' R0
  obtain ⟨m0, m1, m2, m3, m4, m5, m6, m7, m8, m9⟩ := AtB.ten R1.msg
  have fm := R1.fm
  have hlm := R1.msg.1
  go_wp2_with fail
  clear m0 m1 m2 m3 m4 m5 m6 m7 m8 m9 fm hlm
  have R2 : RF w (.slice (some ⟨b, off, none⟩) n cap) #[.int .i64 z0, .int .u32 (num ((zs.drop 4).take 4)), .int .i64 0, .int .i64 0, .int .u32 0, .int .u32 0, .int .u32 0, .int .u32 0, .int .u64 0, .slice none 0 0] 8 (V1.setCell ⟨w.heap.size + 1 + 1, 1, none⟩ (.int .u32 (num ((zs.drop 4).take 4)))) := (R1.put 1 (.int .u32 (num ((zs.drop 4).take 4))) (by simp))
  generalize (V1.setCell ⟨w.heap.size + 1 + 1, 1, none⟩ (.int .u32 (num ((zs.drop 4).take 4)))) = V2 at R2 ⊢
  clear R1
  refine (take_rf R2 H.out hcap 2 (by omega) (by omega) (by omega)).mono ?_
  rintro e V3 ⟨rfl, R3'⟩
  have R3 : RF w (.slice (some ⟨b, off, none⟩) n cap) #[.int .i64 z0, .int .u32 (num ((zs.drop 4).take 4)), .int .i64 0, .int .i64 0, .int .u32 0, .int .u32 0, .int .u32 0, .int .u32 0, .int .u64 0, .slice none 0 0] 10 V3 := R3'
  clear R3' R2
  go_wp2_with fail
  refine (take_rf R3 H.out hcap 2 (by omega) (by omega) (by omega)).mono ?_
  rintro e V4 ⟨rfl, R4'⟩
  have R4 : RF w (.slice (some ⟨b, off, none⟩) n cap) #[.int .i64 z0, .int .u32 (num ((zs.drop 4).take 4)), .int .i64 0, .int .i64 0, .int .u32 0, .int .u32 0, .int .u32 0, .int .u32 0, .int .u64 0, .slice none 0 0] 12 V4 := R4'
  clear R4' R3
  obtain ⟨m0, m1, m2, m3, m4, m5, m6, m7, m8, m9⟩ := AtB.ten R4.msg
  have fm := R4.fm
  have hlm := R4.msg.1
  go_wp2_with fail
  clear m0 m1 m2 m3 m4 m5 m6 m7 m8 m9 fm hlm
  have R5 : RF w (.slice (some ⟨b, off, none⟩) n cap) #[.int .i64 z0, .int .u32 (num ((zs.drop 4).take 4)), .int .i64 (num ((zs.drop 8).take 2)), .int .i64 (num ((zs.drop 10).take 2)), .int .u32 0, .int .u32 0, .int .u32 0, .int .u32 0, .int .u64 0, .slice none 0 0] 12 ((V4.setCell ⟨w.heap.size + 1 + 1, 2, none⟩ (.int .i64 (num ((zs.drop 8).take 2)))).setCell ⟨w.heap.size + 1 + 1, 3, none⟩ (.int .i64 (num ((zs.drop 10).take 2)))) := ((R4.put 2 (.int .i64 (num ((zs.drop 8).take 2))) (by simp)).put 3 (.int .i64 (num ((zs.drop 10).take 2))) (by simp))
  generalize ((V4.setCell ⟨w.heap.size + 1 + 1, 2, none⟩ (.int .i64 (num ((zs.drop 8).take 2)))).setCell ⟨w.heap.size + 1 + 1, 3, none⟩ (.int .i64 (num ((zs.drop 10).take 2)))) = V5 at R5 ⊢
  clear R4
  refine (take_rf R5 H.out hcap 4 (by omega) (by omega) (by omega)).mono ?_
  rintro e V6 ⟨rfl, R6'⟩
  have R6 : RF w (.slice (some ⟨b, off, none⟩) n cap) #[.int .i64 z0, .int .u32 (num ((zs.drop 4).take 4)), .int .i64 (num ((zs.drop 8).take 2)), .int .i64 (num ((zs.drop 10).take 2)), .int .u32 0, .int .u32 0, .int .u32 0, .int .u32 0, .int .u64 0, .slice none 0 0] 16 V6 := R6'
  clear R6' R5
  go_wp2_with fail
  refine (take_rf R6 H.out hcap 4 (by omega) (by omega) (by omega)).mono ?_
  rintro e V7 ⟨rfl, R7'⟩
  have R7 : RF w (.slice (some ⟨b, off, none⟩) n cap) #[.int .i64 z0, .int .u32 (num ((zs.drop 4).take 4)), .int .i64 (num ((zs.drop 8).take 2)), .int .i64 (num ((zs.drop 10).take 2)), .int .u32 0, .int .u32 0, .int .u32 0, .int .u32 0, .int .u64 0, .slice none 0 0] 20 V7 := R7'
  clear R7' R6
  obtain ⟨m0, m1, m2, m3, m4, m5, m6, m7, m8, m9⟩ := AtB.ten R7.msg
  have fm := R7.fm
  have hlm := R7.msg.1
  go_wp2_with fail
  clear m0 m1 m2 m3 m4 m5 m6 m7 m8 m9 fm hlm
  have R8 : RF w (.slice (some ⟨b, off, none⟩) n cap) #[.int .i64 z0, .int .u32 (num ((zs.drop 4).take 4)), .int .i64 (num ((zs.drop 8).take 2)), .int .i64 (num ((zs.drop 10).take 2)), .int .u32 (num ((zs.drop 12).take 4)), .int .u32 (num ((zs.drop 16).take 4)), .int .u32 0, .int .u32 0, .int .u64 0, .slice none 0 0] 20 ((V7.setCell ⟨w.heap.size + 1 + 1, 4, none⟩ (.int .u32 (num ((zs.drop 12).take 4)))).setCell ⟨w.heap.size + 1 + 1, 5, none⟩ (.int .u32 (num ((zs.drop 16).take 4)))) := ((R7.put 4 (.int .u32 (num ((zs.drop 12).take 4))) (by simp)).put 5 (.int .u32 (num ((zs.drop 16).take 4))) (by simp))
  generalize ((V7.setCell ⟨w.heap.size + 1 + 1, 4, none⟩ (.int .u32 (num ((zs.drop 12).take 4)))).setCell ⟨w.heap.size + 1 + 1, 5, none⟩ (.int .u32 (num ((zs.drop 16).take 4)))) = V8 at R8 ⊢
  clear R7
  refine (take_rf R8 H.out hcap 4 (by omega) (by omega) (by omega)).mono ?_
  rintro e V9 ⟨rfl, R9'⟩
  have R9 : RF w (.slice (some ⟨b, off, none⟩) n cap) #[.int .i64 z0, .int .u32 (num ((zs.drop 4).take 4)), .int .i64 (num ((zs.drop 8).take 2)), .int .i64 (num ((zs.drop 10).take 2)), .int .u32 (num ((zs.drop 12).take 4)), .int .u32 (num ((zs.drop 16).take 4)), .int .u32 0, .int .u32 0, .int .u64 0, .slice none 0 0] 24 V9 := R9'
  clear R9' R8
  go_wp2_with fail
  refine (take_rf R9 H.out hcap 4 (by omega) (by omega) (by omega)).mono ?_
  rintro e V10 ⟨rfl, R10'⟩
  have R10 : RF w (.slice (some ⟨b, off, none⟩) n cap) #[.int .i64 z0, .int .u32 (num ((zs.drop 4).take 4)), .int .i64 (num ((zs.drop 8).take 2)), .int .i64 (num ((zs.drop 10).take 2)), .int .u32 (num ((zs.drop 12).take 4)), .int .u32 (num ((zs.drop 16).take 4)), .int .u32 0, .int .u32 0, .int .u64 0, .slice none 0 0] 28 V10 := R10'
  clear R10' R9
  obtain ⟨m0, m1, m2, m3, m4, m5, m6, m7, m8, m9⟩ := AtB.ten R10.msg
  have fm := R10.fm
  have hlm := R10.msg.1
  go_wp2_with fail
  clear m0 m1 m2 m3 m4 m5 m6 m7 m8 m9 fm hlm
  have R11 : RF w (.slice (some ⟨b, off, none⟩) n cap) #[.int .i64 z0, .int .u32 (num ((zs.drop 4).take 4)), .int .i64 (num ((zs.drop 8).take 2)), .int .i64 (num ((zs.drop 10).take 2)), .int .u32 (num ((zs.drop 12).take 4)), .int .u32 (num ((zs.drop 16).take 4)), .int .u32 (num ((zs.drop 20).take 4)), .int .u32 (num ((zs.drop 24).take 4)), .int .u64 0, .slice none 0 0] 28 ((V10.setCell ⟨w.heap.size + 1 + 1, 6, none⟩ (.int .u32 (num ((zs.drop 20).take 4)))).setCell ⟨w.heap.size + 1 + 1, 7, none⟩ (.int .u32 (num ((zs.drop 24).take 4)))) := ((R10.put 6 (.int .u32 (num ((zs.drop 20).take 4))) (by simp)).put 7 (.int .u32 (num ((zs.drop 24).take 4))) (by simp))
  generalize ((V10.setCell ⟨w.heap.size + 1 + 1, 6, none⟩ (.int .u32 (num ((zs.drop 20).take 4)))).setCell ⟨w.heap.size + 1 + 1, 7, none⟩ (.int .u32 (num ((zs.drop 24).take 4)))) = V11 at R11 ⊢
  clear R10
  refine (take_rf R11 H.out hcap 6 (by omega) (by omega) (by omega)).mono ?_
  rintro e V12 ⟨rfl, R12'⟩
  have R12 : RF w (.slice (some ⟨b, off, none⟩) n cap) #[.int .i64 z0, .int .u32 (num ((zs.drop 4).take 4)), .int .i64 (num ((zs.drop 8).take 2)), .int .i64 (num ((zs.drop 10).take 2)), .int .u32 (num ((zs.drop 12).take 4)), .int .u32 (num ((zs.drop 16).take 4)), .int .u32 (num ((zs.drop 20).take 4)), .int .u32 (num ((zs.drop 24).take 4)), .int .u64 0, .slice none 0 0] 34 V12 := R12'
  clear R12' R11
  obtain ⟨m0, m1, m2, m3, m4, m5, m6, m7, m8, m9⟩ := AtB.ten R12.msg
  have fm := R12.fm
  have hlm := R12.msg.1
  obtain ⟨z00, z1, z2, z3, z4, z5, z6, z7, z8, z9⟩ := AtB.ten R12.res
  have fr := R12.fr
  have hbel : Hid _ := R12.bel
  clear R12
  go_wp2
  refine bodyPost_ret (v := fixV2 zs (.slice none 0 0)) ?_ rfl ⟨rfl, ?_⟩
  · unfold fixV2 dhcpV
    rw [HZ0.out]
    simp [results, Try.results20, go_sem, *]
  · repeat refine Below.setCell ?_ (by first | (simp; done) | (simp; omega)) _
    exact hbel.out
end Go.Proofs.Ytglaheblbomhpaa
