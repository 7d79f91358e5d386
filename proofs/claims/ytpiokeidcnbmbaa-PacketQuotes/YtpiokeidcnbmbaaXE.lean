/- What EncodeHead of package eth answers: the bytes of any head that fits, or an error. Condition: the two addresses are not negative numbers. -/
import Derived.Test.YtpiokeidcnbmbaaXH
import Derived.OneCell

namespace Go.Proofs.Ytpiokeidcnbmbaa.Eth
open Go.RowKit

/-- A variable of a call's own in block p that holds a row of bytes of the call's own. -/
structure Enc (w0 W : World) (p : Nat) (xs : List Int) : Prop where
  bel : Below w0.heap.size w0 W
  here : w0.heap.size ≤ p
  row : ∃ a cap, W.heap[p]? = some (.cells #[.slice a xs.length cap] 22 (0, 0)) ∧ W.ownsRow w0.heap.size 5 1 (.slice a xs.length cap) xs.length (xs.map (Value.int .u8))

theorem row_apart {W : World} {base p : Nat} {v u : Value} {n : Nat} {xs : List Value} (h : W.ownsRow base 5 1 v n xs) (hp : W.heap[p]? = some (.cells #[u] 22 (0, 0))) : v.ownBlock ≠ some p := by
  intro e
  rcases h.2 with ⟨rfl, _⟩ | ⟨g, cap, cur, rfl, _, hg, _⟩
  · cases e
  · simp only [Value.ownBlock] at e
    cases e
    rw [hg] at hp
    simp at hp

set_option maxHeartbeats 1000000 in
theorem put_any (f : Nat) (hf : f = 59) (w0 W : World) (p : Nat) (xs : List Int) (h : Enc w0 W p xs) (hn : xs.length ≤ 1000000) (v : Int) (hv : 0 ≤ v ∧ v ≤ 18446744073709551615) (s : Nat) (hs : s ≤ 8) :
    Calls Try.prog f #[.int .u64 v, .int .i64 s, .pointer (some ⟨p, 0, none⟩)] W fun e w' => e = .returned (.tuple #[]) ∧ Enc w0 w' p (xs ++ be v s) := by
  subst hf
  obtain ⟨hb, hp, a, cap, hc, ho⟩ := h
  have hc0 := cell_of_one hc
  have hf0 := free_of_one hc
  have HC : Hid _ := hc
  have HO : Hid _ := ho
  have HB : Hid _ := hb
  clear hc ho hb
  go_enter Try.func59, Try.ntmps59
  go_wp2_with fail
  refine (appendNumber_any w0.heap.size W a xs.length cap xs HO.out HB.out.size hn v hv s hs).mono ?_
  rintro e w1 ⟨a', cap', rfl, hr⟩
  have hap := row_apart HO.out HC.out
  have hc1 : w1.heap[p]? = some (.cells #[.slice a xs.length cap] 22 (0, 0)) := (hr.grown.block p (lt_of_block HC.out) (fun e => hap e.symm)).trans HC.out
  have hc1' := cell_of_one hc1
  have hf1 := free_of_one hc1
  have HC1 : Hid _ := hc1
  have HR : Hid _ := hr
  clear hc1 hr hap hc0 hf0
  go_wp2
  go_end0
  refine ⟨rfl, ?_, hp, a', cap', ?_, ?_⟩
  · exact (HB.out.grown HR.out.grown HB.out.size (fun k hk => (World.ownsRow.lt HO.out k hk).1)).setCell hp _
  · rw [one_setCell HC1.out]; simp [be_len]
  · rw [show (xs ++ be v s).length = xs.length + s from by simp [be_len]]
    exact ownsRow_setCell_other HR.out.own (row_apart HR.out.own HC1.out) _

def wordB (v : Int) : Bool := decide (0 ≤ v ∧ v ≤ 65535)
theorem wordB_yes {v : Int} (h : wordB v = true) : 0 ≤ v ∧ v ≤ 65535 := of_decide_eq_true h

theorem isWord_any (v : Int) (w : World) : Calls Try.prog 77 #[.int .i64 v, .int .u64 16] w fun e w' => e = .returned (.bool (wordB v)) ∧ w' = w := by
  have e : (v / 65536 == 0) = wordB v := by
    unfold wordB; rw [Bool.eq_iff_iff]; simp; omega
  go_enter Try.func77, Try.ntmps77
  go_wp2
  go_ret
  exact ⟨rfl, rfl⟩

theorem sixteen_any (v : Int) (w : World) : Calls Try.prog 64 #[.int .i64 v] w fun e w' => e = .returned (.bool (wordB v)) ∧ w' = w := by
  by_cases h1 : 0 ≤ v
  · by_cases h2 : v ≤ 65535
    · have e : wordB v = true := by simp [wordB, h1, h2]
      rw [e]
      go_enter Try.func64, Try.ntmps64
      go_wp2
      go_ret
      exact ⟨by first | (simp; done) | (simp; omega), rfl⟩
    · have e : wordB v = false := by simp [wordB, h2]
      rw [e]
      go_enter Try.func64, Try.ntmps64
      go_wp2
      go_ret
      exact ⟨by first | (simp; done) | (simp; omega), rfl⟩
  · have e : wordB v = false := by simp [wordB, h1]
    rw [e]
    go_enter Try.func64, Try.ntmps64
    go_wp2
    go_ret
    exact ⟨by simp, rfl⟩

/-- Does a head fit? -/
def fitsB (d s : Int) (tg : Bool) (tag ty : Int) : Bool := decide (d ≤ 281474976710655) && decide (s ≤ 281474976710655) && wordB tag && wordB ty && (ty != 33024) && (tg || tag == 0)

theorem fits_any (d s : Int) (tg : Bool) (tag ty : Int) (w : World) :
    Calls Try.prog 58 #[.agg #[.int .u64 d, .int .u64 s, .bool tg, .int .i64 tag, .int .i64 ty]] w fun e w' => e = .returned (.bool (fitsB d s tg tag ty)) ∧ w' = w.alloc (.cells #[.int .u64 d, .int .u64 s, .bool tg, .int .i64 tag, .int .i64 ty] 25) := by
  by_cases c1 : 281474976710655 < d
  · have e : fitsB d s tg tag ty = false := by simp [fitsB]; omega
    rw [e]
    go_enter Try.func58, Try.ntmps58
    go_wp2_with (go_at_call 77; refine (isWord_any _ _).mono ?_; rintro e w' ⟨rfl, rfl⟩)
    go_ret
    exact ⟨rfl, rfl⟩
  by_cases c2 : 281474976710655 < s
  · have e : fitsB d s tg tag ty = false := by simp [fitsB]; omega
    rw [e]
    go_enter Try.func58, Try.ntmps58
    go_wp2_with (go_at_call 77; refine (isWord_any _ _).mono ?_; rintro e w' ⟨rfl, rfl⟩)
    go_ret
    exact ⟨rfl, rfl⟩
  cases c3 : wordB tag
  · have e : fitsB d s tg tag ty = false := by simp [fitsB, c3]
    rw [e]
    go_enter Try.func58, Try.ntmps58
    go_wp2_with (go_at_call 77; refine (isWord_any _ _).mono ?_; rintro e w' ⟨rfl, rfl⟩)
    go_ret
    exact ⟨rfl, rfl⟩
  cases c4 : wordB ty
  · have e : fitsB d s tg tag ty = false := by simp [fitsB, c4]
    rw [e]
    go_enter Try.func58, Try.ntmps58
    go_wp2_with (go_at_call 77; refine (isWord_any _ _).mono ?_; rintro e w' ⟨rfl, rfl⟩)
    go_ret
    exact ⟨rfl, rfl⟩
  have e : fitsB d s tg tag ty = ((ty != 33024) && (tg || tag == 0)) := by
    have h1 : d ≤ 281474976710655 := by omega
    have h2 : s ≤ 281474976710655 := by omega
    simp [fitsB, c3, c4, h1, h2]
  rw [e]
  cases c5 : (ty != 33024)
  · go_enter Try.func58, Try.ntmps58
    go_wp2_with (go_at_call 77; refine (isWord_any _ _).mono ?_; rintro e w' ⟨rfl, rfl⟩)
    go_ret
    exact ⟨rfl, rfl⟩
  cases tg
  · go_enter Try.func58, Try.ntmps58
    go_wp2_with (go_at_call 77; refine (isWord_any _ _).mono ?_; rintro e w' ⟨rfl, rfl⟩)
    go_ret
    exact ⟨rfl, rfl⟩
  · go_enter Try.func58, Try.ntmps58
    go_wp2_with (go_at_call 77; refine (isWord_any _ _).mono ?_; rintro e w' ⟨rfl, rfl⟩)
    go_ret
    exact ⟨rfl, rfl⟩

/-- A head's bytes. -/
def headBytes (d s : Int) (tg : Bool) (tag ty : Int) : List Int := be d 6 ++ be s 6 ++ (if tg then be 33024 2 ++ be tag 2 else []) ++ be ty 2

theorem encodeHead_no (d s : Int) (tg : Bool) (tag ty : Int) (w : World) (h : fitsB d s tg tag ty = false) :
    Calls Try.prog 29 #[.agg #[.int .u64 d, .int .u64 s, .bool tg, .int .i64 tag, .int .i64 ty]] w fun e w' => e = .returned (.tuple #[.slice none 0 0, .int .i64 1]) ∧ Below w.heap.size w w' := by
  go_enter Try.func29, Try.ntmps29
  go_wp2_with (go_at_call 58; refine (fits_any _ _ _ _ _ _).mono ?_; rintro e w' ⟨rfl, rfl⟩)
  go_ret2
  exact ⟨rfl, below2 w _ _⟩

theorem box_cells {w W : World} {d s : Int} {tg : Bool} {tag ty : Int} {o : Obj} (h : Below (w.heap.size + 1 + 1) ((w.alloc (.cells #[.int .u64 d, .int .u64 s, .bool tg, .int .i64 tag, .int .i64 ty] 25)).alloc o) W) :
    W.cell? ⟨w.heap.size, 0, none⟩ = some (.int .u64 d) ∧ W.cell? ⟨w.heap.size, 1, none⟩ = some (.int .u64 s) ∧ W.cell? ⟨w.heap.size, 2, none⟩ = some (.bool tg) ∧ W.cell? ⟨w.heap.size, 3, none⟩ = some (.int .i64 tag) ∧ W.cell? ⟨w.heap.size, 4, none⟩ = some (.int .i64 ty) := by
  refine ⟨?_, ?_, ?_, ?_, ?_⟩ <;> (rw [h.cell (by simp; omega)]; simp [go_sem])

theorem enc_start (w2 : World) (arr : Array Value) (c p g : Nat) (hp : p = w2.heap.size + 1) (hg : g = w2.heap.size) (hc : arr.size = c) (hm : c ≤ 1000000) :
    Enc w2 ((w2.alloc (.cells arr 5)).alloc (.cells #[.slice (some ⟨g, 0, none⟩) 0 c] 22)) p [] := by
  subst hp
  subst hg
  refine ⟨below2 w2 _ _, by omega, some ⟨w2.heap.size, 0, none⟩, c, ?_, ?_⟩
  · have := heap_alloc_new (w2.alloc (.cells arr 5)) (.cells #[.slice (some ⟨w2.heap.size, 0, none⟩) 0 c] 22)
    simpa using this
  · exact (World.ownsRow_made w2 arr c (Nat.le_refl _) (by unfold maxLen; omega) (by simpa using hc)).alloc _

theorem put_lit (w0 W : World) (p : Nat) (xs : List Int) (h : Enc w0 W p xs) (hn : xs.length ≤ 1000000) (v : Int) (hv : 0 ≤ v ∧ v ≤ 18446744073709551615) (s : Int) (hs0 : 0 ≤ s) (hs : s ≤ 8) :
    Calls Try.prog 59 #[.int .u64 v, .int .i64 s, .pointer (some ⟨p, 0, none⟩)] W fun e w' => e = .returned (.tuple #[]) ∧ Enc w0 w' p (xs ++ be v s.toNat) := by
  obtain ⟨s, rfl⟩ := Int.eq_ofNat_of_zero_le hs0
  exact put_any 59 rfl w0 W p xs h hn v hv s (by omega)

set_option maxHeartbeats 2000000 in
theorem encodeHead_plain (d s : Int) (tag ty : Int) (w : World) (hd : 0 ≤ d) (hs : 0 ≤ s) (h : fitsB d s false tag ty = true) :
    Calls Try.prog 29 #[.agg #[.int .u64 d, .int .u64 s, .bool false, .int .i64 tag, .int .i64 ty]] w fun e w' => ∃ a cap, e = .returned (.tuple #[.slice a (headBytes d s false tag ty).length cap, .int .i64 0]) ∧ w'.ownsRow w.heap.size 5 1 (.slice a (headBytes d s false tag ty).length cap) (headBytes d s false tag ty).length ((headBytes d s false tag ty).map (Value.int .u8)) ∧ Below w.heap.size w w' := by
  have hmk : ∀ w, (Instr.makeSlice 22 (.int .i64 0) (.int .i64 18)).run Try.prog w = .ok (.slice (some ⟨w.heap.size, 0, none⟩) 0 18) (w.alloc (.cells #[.int .u8 0, .int .u8 0, .int .u8 0, .int .u8 0, .int .u8 0, .int .u8 0, .int .u8 0, .int .u8 0, .int .u8 0, .int .u8 0, .int .u8 0, .int .u8 0, .int .u8 0, .int .u8 0, .int .u8 0, .int .u8 0, .int .u8 0, .int .u8 0] 5)) := fun _ => by kernel_rfl
  have hfit := h
  simp only [fitsB, Bool.and_eq_true, decide_eq_true_eq] at hfit
  obtain ⟨⟨⟨⟨⟨f1, f2⟩, f3⟩, f4⟩, _⟩, _⟩ := hfit
  have f3' := wordB_yes f3
  have f4' := wordB_yes f4
  clear f3 f4
  go_enter Try.func29, Try.ntmps29
  go_wp2_with (first | (go_at_call 58; refine (fits_any _ _ _ _ _ _).mono ?_; rintro e w' ⟨rfl, rfl⟩))
  clear hmk
  have he := enc_start ((w.alloc (.cells #[.int .u64 d, .int .u64 s, .bool false, .int .i64 tag, .int .i64 ty] 25)).alloc (.cells #[.int .u64 d, .int .u64 s, .bool false, .int .i64 tag, .int .i64 ty] 25)) #[.int .u8 0, .int .u8 0, .int .u8 0, .int .u8 0, .int .u8 0, .int .u8 0, .int .u8 0, .int .u8 0, .int .u8 0, .int .u8 0, .int .u8 0, .int .u8 0, .int .u8 0, .int .u8 0, .int .u8 0, .int .u8 0, .int .u8 0, .int .u8 0] 18 (w.heap.size + 1 + 1 + 1) (w.heap.size + 1 + 1) (by simp) (by simp) rfl (by omega)
  refine (put_lit _ _ _ _ he (by simp) d (by omega) 6 (by omega) (by omega)).mono ?_
  clear he
  rintro e W1 ⟨rfl, h1⟩
  have E1 : Hid _ := h1
  obtain ⟨x0, x1, x2, x3, x4⟩ := box_cells (by simpa using h1.bel)
  clear h1
  go_wp2_with fail
  clear x0 x1 x2 x3 x4
  refine (put_lit _ _ _ _ E1.out (by simp [be_len]) s (by omega) 6 (by omega) (by omega)).mono ?_
  clear E1
  rintro e W2 ⟨rfl, h2⟩
  have E2 : Hid _ := h2
  obtain ⟨x0, x1, x2, x3, x4⟩ := box_cells (by simpa using h2.bel)
  clear h2
  go_wp2_with fail
  clear x0 x1 x2 x3 x4
  refine (put_lit _ _ _ _ E2.out (by simp [be_len]) ty (by omega) 2 (by omega) (by omega)).mono ?_
  clear E2
  rintro e W3 ⟨rfl, h3⟩
  have ex : [] ++ be d (6 : Int).toNat ++ be s (6 : Int).toNat ++ be ty (2 : Int).toNat = headBytes d s false tag ty := by simp [headBytes]
  rw [ex] at h3
  clear ex
  have hb := h3.bel
  obtain ⟨a, cap, hc, ho⟩ := h3.row
  have hl := cell_of_one hc
  have HO : Hid _ := ho
  have HB : Hid _ := hb
  clear h3 hc ho hb
  go_wp2
  go_ret2
  refine ⟨a, cap, rfl, ?_, ?_⟩
  · have := HO.out
    obtain ⟨o1, o2⟩ := this
    refine ⟨o1, ?_⟩
    rcases o2 with o2 | ⟨g, c, cur, e1, e2, e3⟩
    · exact .inl o2
    · exact .inr ⟨g, c, cur, e1, by have := e2; simp at this; omega, e3⟩
  · exact (below2 w _ _).trans (HB.out.mono (by simp; omega))

set_option maxHeartbeats 2000000 in
theorem encodeHead_tagged (d s : Int) (tag ty : Int) (w : World) (hd : 0 ≤ d) (hs : 0 ≤ s) (h : fitsB d s true tag ty = true) :
    Calls Try.prog 29 #[.agg #[.int .u64 d, .int .u64 s, .bool true, .int .i64 tag, .int .i64 ty]] w fun e w' => ∃ a cap, e = .returned (.tuple #[.slice a (headBytes d s true tag ty).length cap, .int .i64 0]) ∧ w'.ownsRow w.heap.size 5 1 (.slice a (headBytes d s true tag ty).length cap) (headBytes d s true tag ty).length ((headBytes d s true tag ty).map (Value.int .u8)) ∧ Below w.heap.size w w' := by
  have hmk : ∀ w, (Instr.makeSlice 22 (.int .i64 0) (.int .i64 18)).run Try.prog w = .ok (.slice (some ⟨w.heap.size, 0, none⟩) 0 18) (w.alloc (.cells #[.int .u8 0, .int .u8 0, .int .u8 0, .int .u8 0, .int .u8 0, .int .u8 0, .int .u8 0, .int .u8 0, .int .u8 0, .int .u8 0, .int .u8 0, .int .u8 0, .int .u8 0, .int .u8 0, .int .u8 0, .int .u8 0, .int .u8 0, .int .u8 0] 5)) := fun _ => by kernel_rfl
  have hfit := h
  simp only [fitsB, Bool.and_eq_true, decide_eq_true_eq] at hfit
  obtain ⟨⟨⟨⟨⟨f1, f2⟩, f3⟩, f4⟩, _⟩, _⟩ := hfit
  have f3' := wordB_yes f3
  have f4' := wordB_yes f4
  clear f3 f4
  go_enter Try.func29, Try.ntmps29
  go_wp2_with (first | (go_at_call 58; refine (fits_any _ _ _ _ _ _).mono ?_; rintro e w' ⟨rfl, rfl⟩))
  clear hmk
  have he := enc_start ((w.alloc (.cells #[.int .u64 d, .int .u64 s, .bool true, .int .i64 tag, .int .i64 ty] 25)).alloc (.cells #[.int .u64 d, .int .u64 s, .bool true, .int .i64 tag, .int .i64 ty] 25)) #[.int .u8 0, .int .u8 0, .int .u8 0, .int .u8 0, .int .u8 0, .int .u8 0, .int .u8 0, .int .u8 0, .int .u8 0, .int .u8 0, .int .u8 0, .int .u8 0, .int .u8 0, .int .u8 0, .int .u8 0, .int .u8 0, .int .u8 0, .int .u8 0] 18 (w.heap.size + 1 + 1 + 1) (w.heap.size + 1 + 1) (by simp) (by simp) rfl (by omega)
  refine (put_lit _ _ _ _ he (by simp) d (by omega) 6 (by omega) (by omega)).mono ?_
  clear he
  rintro e W1 ⟨rfl, h1⟩
  have E1 : Hid _ := h1
  obtain ⟨x0, x1, x2, x3, x4⟩ := box_cells (by simpa using h1.bel)
  clear h1
  go_wp2_with fail
  clear x0 x1 x2 x3 x4
  refine (put_lit _ _ _ _ E1.out (by simp [be_len]) s (by omega) 6 (by omega) (by omega)).mono ?_
  clear E1
  rintro e W2 ⟨rfl, h2⟩
  have E2 : Hid _ := h2
  obtain ⟨x0, x1, x2, x3, x4⟩ := box_cells (by simpa using h2.bel)
  clear h2
  go_wp2_with fail
  clear x0 x1 x2 x3 x4
  refine (put_lit _ _ _ _ E2.out (by simp [be_len]) 33024 (by omega) 2 (by omega) (by omega)).mono ?_
  clear E2
  rintro e W3 ⟨rfl, h3⟩
  have E3 : Hid _ := h3
  obtain ⟨x0, x1, x2, x3, x4⟩ := box_cells (by simpa using h3.bel)
  clear h3
  go_wp2_with fail
  clear x0 x1 x2 x3 x4
  refine (put_lit _ _ _ _ E3.out (by simp [be_len]) tag (by omega) 2 (by omega) (by omega)).mono ?_
  clear E3
  rintro e W4 ⟨rfl, h4⟩
  have E4 : Hid _ := h4
  obtain ⟨x0, x1, x2, x3, x4⟩ := box_cells (by simpa using h4.bel)
  clear h4
  go_wp2_with fail
  clear x0 x1 x2 x3 x4
  refine (put_lit _ _ _ _ E4.out (by simp [be_len]) ty (by omega) 2 (by omega) (by omega)).mono ?_
  clear E4
  rintro e W5 ⟨rfl, h5⟩
  have ex : [] ++ be d (6 : Int).toNat ++ be s (6 : Int).toNat ++ be 33024 (2 : Int).toNat ++ be tag (2 : Int).toNat ++ be ty (2 : Int).toNat = headBytes d s true tag ty := by simp [headBytes]
  rw [ex] at h5
  clear ex
  have hb := h5.bel
  obtain ⟨a, cap, hc, ho⟩ := h5.row
  have hl := cell_of_one hc
  have HO : Hid _ := ho
  have HB : Hid _ := hb
  clear h5 hc ho hb
  go_wp2
  go_ret2
  refine ⟨a, cap, rfl, ?_, ?_⟩
  · have := HO.out
    obtain ⟨o1, o2⟩ := this
    refine ⟨o1, ?_⟩
    rcases o2 with o2 | ⟨g, c, cur, e1, e2, e3⟩
    · exact .inl o2
    · exact .inr ⟨g, c, cur, e1, by have := e2; simp at this; omega, e3⟩
  · exact (below2 w _ _).trans (HB.out.mono (by simp; omega))
end Go.Proofs.Ytpiokeidcnbmbaa.Eth
