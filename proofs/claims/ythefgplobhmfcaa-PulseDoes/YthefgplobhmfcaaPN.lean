/- The document's pulse: Of, At, Fourth, Parts; asks. Conditions: what is read can be read. -/
import Derived.Test.YthefgplobhmfcaaPK
namespace Go.Proofs.Ythefgplobhmfcaa
open Go.RowKit Ieee
theorem rat_any (b : Nat) (a : Option Addr) (n c : Nat) (L : List Int) (t : Int) (w : World) (h : PR w b a n c L) :
    Calls Try.prog 16 #[.pointer (some ⟨b, 0, none⟩), .int .i64 t] w fun e w' => e = .returned (.int .i64 (atL L t)) ∧ w' = w := by
  have hc := h.cell
  have hle := h.le
  have hlen := h.is.len
  have H : Hid _ := h
  clear h
  go_enter Try.func16, Try.ntmps16
  rcases (by omega : t < 0 ∨ 0 ≤ t) with ht | ht
  · go_wp2
    go_ret
    exact ⟨by simp [atL, ht], rfl⟩
  · rcases (by omega : (n : Int) ≤ t ∨ t < n) with hn | hn
    · go_wp2
      go_ret
      refine ⟨?_, rfl⟩
      rw [atL, if_neg (by omega), List.getD_eq_getElem?_getD, List.getElem?_eq_none (by omega)]; rfl
    · obtain ⟨k, rfl⟩ : ∃ k : Nat, t = k := ⟨t.toNat, by omega⟩
      obtain ⟨x, hx⟩ := getK (os := L) (k := k) (by omega)
      obtain ⟨g, off, rfl, hcell, _⟩ := H.out.is.at hx
      have hkn : k < n := by omega
      go_wp2
      go_ret
      refine ⟨?_, rfl⟩
      rw [atL, if_neg (by omega), List.getD_eq_getElem?_getD, Int.toNat_natCast, hx]; rfl
/-- Fourth, of any number. -/
def F4z (L : List Int) (k : Int) : Int := if 0 ≤ k ∧ k < 4 then F4 L k.toNat else 0
def S4z (L : List Int) (k : Int) (n : Nat) : Int := if 0 ≤ k ∧ k < 4 then S4 L k.toNat n else 0
theorem S4z_succ (L : List Int) (k : Int) (n : Nat) : S4z L k (n + 1) = S4z L k n + (if ((n : Int) % 4) = k then L.getD n 0 else 0) := by
  unfold S4z
  by_cases h : 0 ≤ k ∧ k < 4
  · rw [if_pos h, if_pos h, S4]
    have : (n % 4 = k.toNat) ↔ ((n : Int) % 4) = k := by omega
    simp only [this]
  · rw [if_neg h, if_neg h, if_neg (by omega)]; rfl
theorem S4z_bd {L : List Int} (h : Cnt L) (k : Int) (n : Nat) : 0 ≤ S4z L k n ∧ S4z L k n ≤ 1048576 * n := by
  unfold S4z
  split
  · exact S4_bd h _ n
  · omega
theorem rfourth_any (b : Nat) (a : Option Addr) (n c : Nat) (L : List Int) (k : Int) (w : World) (h : PR w b a n c L) (hL : Cnt L) :
    Calls Try.prog 19 #[.pointer (some ⟨b, 0, none⟩), .int .i64 k] w fun e w' => e = .returned (.int .i64 (F4z L k)) ∧ w' = w := by
  have hc := h.cell
  have hle := h.le
  have hlen := h.is.len
  have hfew : n ≤ 1048576 := by have := hL.few; omega
  have H : Hid _ := h
  have HL : Hid _ := hL
  clear h hL
  go_enter Try.func19, Try.ntmps19
  go_wp2_with fail
  go_loopw [5, 6] (fun s i wr => ∃ t : Nat, t ≤ n ∧ i = .int .i64 t ∧ s = .int .i64 (S4z L k t) ∧ wr = w) (fun s i _ => n - (intOf i).toNat)
  case atStart => exact ⟨0, by omega, rfl, by simp [S4z, S4], rfl⟩
  case round =>
    obtain ⟨t, htn, rfl, rfl, rfl⟩ := hrel
    have hbd := S4z_bd HL.out k t
    rcases (by omega : t < n ∨ t = n) with hlt | rfl
    · have hltI : (t : Int) < n := by omega
      obtain ⟨x, hx⟩ := getK (os := L) (k := t) (by omega)
      have hx' : L.getD t 0 = x := by rw [List.getD_eq_getElem?_getD, hx]; rfl
      have hxb := HL.out.get t
      rw [hx'] at hxb
      obtain ⟨g, off, rfl, hcell, _⟩ := H.out.is.at hx
      have hstep := S4z_succ L k t
      rw [hx'] at hstep
      have HS : Hid _ := hstep
      clear hstep
      have htm : Int.tmod (t : Int) 4 = (t : Int) % 4 := Int.tmod_eq_emod_of_nonneg (by omega)
      have hw1 : IntKind.i64.wrap (S4z L k t + x) = S4z L k t + x := by simp [IntKind.wrap, IntKind.bits, IntKind.signed]; omega
      generalize S4z L k t = s0 at *
      by_cases hk : ((t : Int) % 4) = k
      · rw [if_pos hk] at HS
        have hk' : ((t : Int) % 4 == k) = true := by simpa using hk
        clear hk htm
        go_wp2
        go_roundw
        case rel => exact ⟨t + 1, by omega, by go_num, by rw [HS.out], trivial⟩
        case measure => simp [intOf]; omega
      · rw [if_neg hk] at HS
        have hk' : ((t : Int) % 4 == k) = false := by simpa using hk
        clear hk htm
        go_wp2
        go_roundw
        case rel => exact ⟨t + 1, by omega, by go_num, by rw [HS.out]; simp, trivial⟩
        case measure => simp [intOf]; omega
    · have HE : Hid (S4z L k t = F4z L k) := by unfold S4z F4z F4; rw [hlen]; rfl
      go_wp2
      go_ret
      exact ⟨by rw [HE.out]; rfl, rfl⟩
/-- Of a number that is no remainder: none. -/
theorem fourthz_any (b : Nat) (a : Option Addr) (n c : Nat) (L : List Int) (k : Int) (w : World) (h : PR w b a n c L) (hL : Cnt L) :
    Calls Try.prog 18 #[.pointer (some ⟨b, 0, none⟩), .int .i64 k] w fun e w' => e = .returned (.int .i64 (F4z L k)) ∧ w' = w := by
  unfold F4z
  by_cases hk : 0 ≤ k ∧ k < 4
  · rw [if_pos hk]; exact fourth_int b a n c L k hk.1 hk.2 w h hL
  · rw [if_neg hk]; exact fourth_out _ k (by omega) w
theorem wrong_yes {x : Int} (h : wrongB x = true) : x < 0 ∨ 0 ≤ x ∧ 1048576 < x := by
  simp only [wrongB, Bool.or_eq_true, decide_eq_true_eq] at h; omega
theorem wrong_no {x : Int} (h : wrongB x = false) : 0 ≤ x ∧ x ≤ 1048576 := by
  simp only [wrongB, Bool.or_eq_false_iff, decide_eq_false_iff_not] at h; omega
/-- What the document's Of gives. -/
def RofPost (n : Nat) (L : List Int) (w : World) (e : Ending) (w' : World) : Prop :=
  (okL L = false ∧ e = .returned (.tuple #[.pointer none, .int .i64 1]) ∧ w' = w) ∨ (Cnt L ∧ ∃ b a' c', e = .returned (.tuple #[.pointer (some ⟨b, 0, none⟩), .int .i64 0]) ∧ PR w' b a' n c' L ∧ Below w.heap.size w w')
set_option maxHeartbeats 1000000 in
theorem rof_any (a : Option Addr) (n c : Nat) (L : List Int) (w : World) (h : IS w a n L) : Calls Try.prog 22 #[.slice a n c] w fun e w' => RofPost n L w e w' := by
  have hno : okL L = false → RofPost n L w (.returned (.tuple #[.pointer none, .int .i64 1])) w := fun h => .inl ⟨h, rfl, rfl⟩
  have hyes : Cnt L → ∀ b a' c' w', PR w' b a' n c' L → Below w.heap.size w w' → RofPost n L w (.returned (.tuple #[.pointer (some ⟨b, 0, none⟩), .int .i64 0])) w' := fun hc b a' c' w' h1 h2 => .inr ⟨hc, b, a', c', rfl, h1, h2⟩
  have H : Hid _ := h
  have hl := h.len
  have HNO : Hid _ := hno
  have HYES : Hid _ := hyes
  clear h hno hyes
  go_enter Try.func22, Try.ntmps22
  rcases (by omega : n = 0 ∨ 1048576 < n ∨ 1 ≤ n ∧ n ≤ 1048576) with rfl | hn | ⟨hn, hn'⟩
  · have hno : Hid (okL L = false) := (by show okL L = false; rw [okL, hl]; rfl)
    clear HNO HYES
    go_wp2
    go_ret2
    exact .inl ⟨hno.out, rfl, rfl⟩
  · have hno : Hid (okL L = false) := (by show okL L = false; rw [okL, hl, decide_eq_false (show ¬ n ≤ 1048576 by omega), Bool.and_false]; rfl)
    clear HNO HYES
    go_wp2
    go_ret2
    exact .inl ⟨hno.out, rfl, rfl⟩
  · go_wp2_with fail
    go_loopw [4] (fun i wr => ∃ k : Nat, k ≤ n ∧ i = .int .i64 k ∧ Hid ((L.drop k).any wrongB = L.any wrongB) ∧ wr = w) (fun i _ => n - (intOf i).toNat)
    case atStart => exact ⟨0, by omega, rfl, rfl, rfl⟩
    case round =>
      obtain ⟨k, hk, rfl, hF, rfl⟩ := hrel
      by_cases hlt : k < n
      · have hkI : (k : Int) < n := by omega
        obtain ⟨o, ho⟩ := getK (os := L) (k := k) (by omega)
        obtain ⟨b, off, rfl, c0, hbl⟩ := H.out.at ho
        have hD := drop_cons ho
        cases hw : wrongB o
        · have HF : Hid ((L.drop (k + 1)).any wrongB = L.any wrongB) := by show _ = _; rw [← hF.out, hD, List.any_cons, hw, Bool.false_or]
          have ho2 := wrong_no hw
          clear hF hD ho hw
          go_wp2
          go_roundw
          case rel => exact ⟨k + 1, by omega, by go_num, HF, trivial⟩
          case measure => simp [intOf]; omega
        · have hany : L.any wrongB = true := by rw [← hF.out, hD, List.any_cons, hw, Bool.true_or]
          have hno : Hid (okL L = false) := (by show okL L = false; rw [okL, hany, Bool.not_true, Bool.and_false])
          have ho2 := wrong_yes hw
          clear hF hD ho hw hany HNO HYES
          rcases ho2 with ho2 | ⟨ho2, ho3⟩
          · go_wp2
            go_ret2
            exact .inl ⟨hno.out, rfl, rfl⟩
          · go_wp2
            go_ret2
            exact .inl ⟨hno.out, rfl, rfl⟩
      · obtain rfl : n = k := by omega
        have hany : L.any wrongB = false := by rw [← hF.out, List.drop_of_length_le (by omega)]; rfl
        have hC : Cnt L := Cnt.of (by rw [okL, hany, hl, decide_eq_true hn, decide_eq_true hn']; rfl)
        have h1 := H.out.below (below1 wr (.cells #[] 3))
        obtain ⟨a1, c1, w1, hap, hrow, hgr⟩ := run_append_is _ wr.heap.size _ [] (empty_i wr wr.heap.size (Nat.le_refl _)) a n c L h1 (by simp; omega) (by simp)
        simp only [List.length_nil, Nat.zero_add, List.nil_append] at hap hrow
        have HAP : Hid _ := hap
        have hb1 : Below wr.heap.size wr w1 := (below1 _ _).grown hgr (by simp) (fun q hq => (World.ownsRow.lt (empty_i wr wr.heap.size (Nat.le_refl _)) q hq).1)
        obtain ⟨his, hle⟩ := own_is hrow
        have HPOST : Hid _ := HYES.out hC w1.heap.size a1 c1 (w1.alloc (.cells #[.slice a1 n c1] 28)) ⟨cell_row (heap_alloc_new _ _) 0, hle, his.below (below1 _ _)⟩ (hb1.trans ((below1 _ _).mono hb1.size))
        clear HNO HYES hap hb1 his hle hrow hgr h1 hC hany hF
        go_wp2_with (first
          | (at_builtin; refine wpList_append_run rfl _ _ 26 rfl _ _ rfl rfl _ HAP.out ?_)
          | fail)
        go_ret2
        exact HPOST.out
end Go.Proofs.Ythefgplobhmfcaa
