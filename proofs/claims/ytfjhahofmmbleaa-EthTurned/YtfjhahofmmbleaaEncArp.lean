/- What EncodeArp of package eth answers: the bytes of any ARP packet that fits, or an error. Condition: numbers that are not negative. -/
import Derived.Test.YtfjhahofmmbleaaArp
import Derived.OneCell
namespace Go.Proofs.Ytfjhahofmmbleaa
open Go.RowKit

/-- Does an ARP packet fit? -/
def arpFits (op sha tha : Int) : Bool := decide (sha ≤ 281474976710655) && decide (tha ≤ 281474976710655) && wordB op
def arpBytes (op sha spa tha tpa : Int) : List Int := [0, 1, 8, 0, 6, 4] ++ be op 2 ++ be sha 6 ++ be spa 4 ++ be tha 6 ++ be tpa 4

theorem encodeArp_no (op sha spa tha tpa : Int) (w : World) (h : arpFits op sha tha = false) :
    Calls Try.prog 15 #[.agg #[.int .i64 op, .int .u64 sha, .int .u32 spa, .int .u64 tha, .int .u32 tpa]] w fun e w' => e = .returned (.tuple #[.slice none 0 0, .int .i64 1]) ∧ Below w.heap.size w w' := by
  by_cases c1 : 281474976710655 < sha
  · clear h
    go_enter Try.func15, Try.ntmps15
    go_wp2_with (go_at_call 27; refine (isWord_any _ _).mono ?_; rintro e w' ⟨rfl, rfl⟩)
    go_ret2
    exact ⟨rfl, below1 w _⟩
  by_cases c2 : 281474976710655 < tha
  · clear h
    go_enter Try.func15, Try.ntmps15
    go_wp2_with (go_at_call 27; refine (isWord_any _ _).mono ?_; rintro e w' ⟨rfl, rfl⟩)
    go_ret2
    exact ⟨rfl, below1 w _⟩
  have c3 : wordB op = false := by
    have h1 : sha ≤ 281474976710655 := by omega
    have h2 : tha ≤ 281474976710655 := by omega
    simpa [arpFits, h1, h2] using h
  clear h
  go_enter Try.func15, Try.ntmps15
  go_wp2_with (go_at_call 27; refine (isWord_any _ _).mono ?_; rintro e w' ⟨rfl, rfl⟩)
  go_ret2
  exact ⟨rfl, below1 w _⟩

theorem rencodeArp_no (op sha spa tha tpa : Int) (w : World) (h : arpFits op sha tha = false) :
    Calls Try.prog 16 #[.agg #[.int .i64 op, .int .u64 sha, .int .u32 spa, .int .u64 tha, .int .u32 tpa]] w fun e w' => e = .returned (.tuple #[.slice none 0 0, .int .i64 1]) ∧ Below w.heap.size w w' := by
  by_cases c1 : 281474976710656 ≤ sha
  · clear h
    go_enter Try.func16, Try.ntmps16
    go_wp2_with (go_at_call 24; refine (sixteen_any _ _).mono ?_; rintro e w' ⟨rfl, rfl⟩)
    go_ret2
    exact ⟨rfl, below1 w _⟩
  by_cases c2 : 281474976710656 ≤ tha
  · clear h
    go_enter Try.func16, Try.ntmps16
    go_wp2_with (go_at_call 24; refine (sixteen_any _ _).mono ?_; rintro e w' ⟨rfl, rfl⟩)
    go_ret2
    exact ⟨rfl, below1 w _⟩
  have c3 : wordB op = false := by
    have h1 : sha ≤ 281474976710655 := by omega
    have h2 : tha ≤ 281474976710655 := by omega
    simpa [arpFits, h1, h2] using h
  clear h
  go_enter Try.func16, Try.ntmps16
  go_wp2_with (go_at_call 24; refine (sixteen_any _ _).mono ?_; rintro e w' ⟨rfl, rfl⟩)
  go_ret2
  exact ⟨rfl, below1 w _⟩

set_option maxHeartbeats 1000000 in
theorem putA_any (f : Nat) (hf : f = 28) (w0 W : World) (p : Nat) (xs : List Int) (h : Enc w0 W p xs) (hn : xs.length ≤ 1000000) (v : Int) (hv : 0 ≤ v ∧ v ≤ 18446744073709551615) (s : Nat) (hs : s ≤ 8) :
    Calls Try.prog f #[.int .u64 v, .int .i64 s, .pointer (some ⟨p, 0, none⟩)] W fun e w' => e = .returned (.tuple #[]) ∧ Enc w0 w' p (xs ++ be v s) := by
  subst hf
  obtain ⟨hb, hp, a, cap, hc, ho⟩ := h
  have hc0 := cell_of_one hc
  have hf0 := free_of_one hc
  have HC : Hid _ := hc
  have HO : Hid _ := ho
  have HB : Hid _ := hb
  clear hc ho hb
  go_enter Try.func28, Try.ntmps28
  go_wp2_with fail
  refine (appendNumber_any w0.heap.size W a xs.length cap xs HO.out HB.out.size hn v hv s hs).mono ?_
  rintro e w1 ⟨a', cap', rfl, hr⟩
  have hap := row_apart HO.out HC.out
  have hc1 : w1.heap[p]? = some (.cells #[.slice a xs.length cap] 22 (0, 0)) := (hr.grown.block p (lt_of_block HC.out) (fun e => hap e.symm)).trans HC.out
  have hc1' := cell_of_one hc1
  have hf1 := free_of_one hc1
  have HC1 : Hid _ := hc1
  have HR : Hid _ := hr
  clear hc1 hr hap hc0 hf0
  go_wp2
  go_end0
  refine ⟨rfl, ?_, hp, a', cap', ?_, ?_⟩
  · exact (HB.out.grown HR.out.grown HB.out.size (fun k hk => (World.ownsRow.lt HO.out k hk).1)).setCell hp _
  · rw [one_setCell HC1.out]; simp [be_len]
  · rw [show (xs ++ be v s).length = xs.length + s from by simp [be_len]]
    exact ownsRow_setCell_other HR.out.own (row_apart HR.out.own HC1.out) _

theorem putA_lit (w0 W : World) (p : Nat) (xs : List Int) (h : Enc w0 W p xs) (hn : xs.length ≤ 1000000) (v : Int) (hv : 0 ≤ v ∧ v ≤ 18446744073709551615) (s : Int) (hs0 : 0 ≤ s) (hs : s ≤ 8) :
    Calls Try.prog 28 #[.int .u64 v, .int .i64 s, .pointer (some ⟨p, 0, none⟩)] W fun e w' => e = .returned (.tuple #[]) ∧ Enc w0 w' p (xs ++ be v s.toNat) := by
  obtain ⟨s, rfl⟩ := Int.eq_ofNat_of_zero_le hs0
  exact putA_any 28 rfl w0 W p xs h hn v hv s (by omega)

theorem enc_start_n (w2 : World) (arr : Array Value) (xs : List Int) (c p g : Nat) (hp : p = w2.heap.size + 1) (hg : g = w2.heap.size) (hc : arr.size = c) (hm : c ≤ 1000000) (hn : xs.length ≤ c) (hx : arr.toList.take xs.length = xs.map (Value.int .u8)) :
    Enc w2 ((w2.alloc (.cells arr 5)).alloc (.cells #[.slice (some ⟨g, 0, none⟩) xs.length c] 22)) p xs := by
  subst hp
  subst hg
  refine ⟨below2 w2 _ _, by omega, some ⟨w2.heap.size, 0, none⟩, c, ?_, ?_⟩
  · have := heap_alloc_new (w2.alloc (.cells arr 5)) (.cells #[.slice (some ⟨w2.heap.size, 0, none⟩) xs.length c] 22)
    simpa using this
  · refine World.ownsRow.alloc (w := w2.alloc (.cells arr 5)) ⟨by simp, .inr ⟨w2.heap.size, c, arr, rfl, Nat.le_refl _, heap_alloc_new w2 _, hn, by unfold maxLen; omega, by simpa using hc, by simpa using hx⟩⟩ _

theorem arp_cells {w W : World} {op sha spa tha tpa : Int} (h : Below (w.heap.size + 1) (w.alloc (.cells #[.int .i64 op, .int .u64 sha, .int .u32 spa, .int .u64 tha, .int .u32 tpa] 36)) W) :
    W.cell? ⟨w.heap.size, 0, none⟩ = some (.int .i64 op) ∧ W.cell? ⟨w.heap.size, 1, none⟩ = some (.int .u64 sha) ∧ W.cell? ⟨w.heap.size, 2, none⟩ = some (.int .u32 spa) ∧ W.cell? ⟨w.heap.size, 3, none⟩ = some (.int .u64 tha) ∧ W.cell? ⟨w.heap.size, 4, none⟩ = some (.int .u32 tpa) := by
  refine ⟨?_, ?_, ?_, ?_, ?_⟩ <;> (rw [h.cell (by simp)]; simp [go_sem])

set_option maxHeartbeats 2000000 in
theorem encodeArp_yes (op sha spa tha tpa : Int) (w : World) (h1 : 0 ≤ sha) (h2 : 0 ≤ spa ∧ spa ≤ 4294967295) (h3 : 0 ≤ tha) (h4 : 0 ≤ tpa ∧ tpa ≤ 4294967295) (h : arpFits op sha tha = true) :
    Calls Try.prog 15 #[.agg #[.int .i64 op, .int .u64 sha, .int .u32 spa, .int .u64 tha, .int .u32 tpa]] w fun e w' => ∃ a cap, e = .returned (.tuple #[.slice a 28 cap, .int .i64 0]) ∧ w'.ownsRow w.heap.size 5 1 (.slice a 28 cap) 28 ((arpBytes op sha spa tha tpa).map (Value.int .u8)) ∧ Below w.heap.size w w' := by
  have hmk : ∀ w, (Instr.makeSlice 22 (.int .i64 0) (.int .i64 28)).run Try.prog w = .ok (.slice (some ⟨w.heap.size, 0, none⟩) 0 28) (w.alloc (.cells #[.int .u8 0, .int .u8 0, .int .u8 0, .int .u8 0, .int .u8 0, .int .u8 0, .int .u8 0, .int .u8 0, .int .u8 0, .int .u8 0, .int .u8 0, .int .u8 0, .int .u8 0, .int .u8 0, .int .u8 0, .int .u8 0, .int .u8 0, .int .u8 0, .int .u8 0, .int .u8 0, .int .u8 0, .int .u8 0, .int .u8 0, .int .u8 0, .int .u8 0, .int .u8 0, .int .u8 0, .int .u8 0] 5)) := fun _ => by kernel_rfl
  have hfit := h
  simp only [arpFits, Bool.and_eq_true, decide_eq_true_eq] at hfit
  obtain ⟨⟨f1, f2⟩, f3⟩ := hfit
  have f3' := wordB_yes f3
  have g1 : ¬ 281474976710655 < sha := by omega
  have g2 : ¬ 281474976710655 < tha := by omega
  go_enter Try.func15, Try.ntmps15
  go_wp2_with (first | (go_at_call 27; refine (isWord_any _ _).mono ?_; rintro e w' ⟨rfl, rfl⟩))
  clear hmk
  have he := enc_start_n (w.alloc (.cells #[.int .i64 op, .int .u64 sha, .int .u32 spa, .int .u64 tha, .int .u32 tpa] 36)) #[.int .u8 0, .int .u8 1, .int .u8 8, .int .u8 0, .int .u8 6, .int .u8 4, .int .u8 0, .int .u8 0, .int .u8 0, .int .u8 0, .int .u8 0, .int .u8 0, .int .u8 0, .int .u8 0, .int .u8 0, .int .u8 0, .int .u8 0, .int .u8 0, .int .u8 0, .int .u8 0, .int .u8 0, .int .u8 0, .int .u8 0, .int .u8 0, .int .u8 0, .int .u8 0, .int .u8 0, .int .u8 0] [0, 1, 8, 0, 6, 4] 28 (w.heap.size + 1 + 1) (w.heap.size + 1) (by simp) (by simp) rfl (by omega) (by simp) rfl
  refine (putA_lit _ _ _ _ he (by simp) op (by omega) 2 (by omega) (by omega)).mono ?_
  clear he
  rintro e W1 ⟨rfl, e1⟩
  have E1 : Hid _ := e1
  obtain ⟨x0, x1, x2, x3, x4⟩ := arp_cells (by simpa using e1.bel)
  clear e1
  go_wp2_with fail
  clear x0 x1 x2 x3 x4
  refine (putA_lit _ _ _ _ E1.out (by simp [be_len]) sha (by omega) 6 (by omega) (by omega)).mono ?_
  clear E1
  rintro e W2 ⟨rfl, e2⟩
  have E2 : Hid _ := e2
  obtain ⟨x0, x1, x2, x3, x4⟩ := arp_cells (by simpa using e2.bel)
  clear e2
  go_wp2_with fail
  clear x0 x1 x2 x3 x4
  refine (putA_lit _ _ _ _ E2.out (by simp [be_len]) spa (by omega) 4 (by omega) (by omega)).mono ?_
  clear E2
  rintro e W3 ⟨rfl, e3⟩
  have E3 : Hid _ := e3
  obtain ⟨x0, x1, x2, x3, x4⟩ := arp_cells (by simpa using e3.bel)
  clear e3
  go_wp2_with fail
  clear x0 x1 x2 x3 x4
  refine (putA_lit _ _ _ _ E3.out (by simp [be_len]) tha (by omega) 6 (by omega) (by omega)).mono ?_
  clear E3
  rintro e W4 ⟨rfl, e4⟩
  have E4 : Hid _ := e4
  obtain ⟨x0, x1, x2, x3, x4⟩ := arp_cells (by simpa using e4.bel)
  clear e4
  go_wp2_with fail
  clear x0 x1 x2 x3 x4
  refine (putA_lit _ _ _ _ E4.out (by simp [be_len]) tpa (by omega) 4 (by omega) (by omega)).mono ?_
  clear E4
  rintro e W5 ⟨rfl, e5⟩
  have ex : [0, 1, 8, 0, 6, 4] ++ be op (2 : Int).toNat ++ be sha (6 : Int).toNat ++ be spa (4 : Int).toNat ++ be tha (6 : Int).toNat ++ be tpa (4 : Int).toNat = arpBytes op sha spa tha tpa := rfl
  rw [ex] at e5
  clear ex
  have hlen : (arpBytes op sha spa tha tpa).length = 28 := by simp [arpBytes, be_len]
  have hb := e5.bel
  obtain ⟨a, cap, hc, ho⟩ := e5.row
  rw [hlen] at hc ho
  have hl := cell_of_one hc
  have HO : Hid _ := ho
  have HB : Hid _ := hb
  clear e5 hc ho hb hlen
  go_wp2
  go_ret2
  refine ⟨a, cap, rfl, ?_, ?_⟩
  · obtain ⟨o1, o2⟩ := HO.out
    refine ⟨o1, ?_⟩
    rcases o2 with o2 | ⟨g, c, cur, e1, e2, e3⟩
    · exact .inl o2
    · exact .inr ⟨g, c, cur, e1, by have := e2; simp at this; omega, e3⟩
  · exact (below1 w _).trans (HB.out.mono (by simp))
end Go.Proofs.Ytfjhahofmmbleaa
