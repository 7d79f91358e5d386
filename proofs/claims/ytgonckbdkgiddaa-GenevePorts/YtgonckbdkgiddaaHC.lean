/- check, sizeOf, flagsOf of package geneve. Conditions: the options can be read. -/
import Derived.Test.YtgonckbdkgiddaaHB
namespace Go.Proofs.Ytgonckbdkgiddaa
open Go.RowKit
set_option maxRecDepth 20000
set_option linter.unusedSimpArgs false
/-- How many bytes options have. -/
def szO (os : List Opt) : Int := (os.map fun o => 4 + (o.data.length : Int)).sum
theorem szO_snoc (os : List Opt) (o : Opt) : szO (os ++ [o]) = szO os + (4 + (o.data.length : Int)) := by simp [szO]
theorem szO_nn (os : List Opt) : 0 ≤ szO os := by
  induction os with
  | nil => decide
  | cons o r ih => simp only [szO, List.map_cons, List.sum_cons] at ih ⊢; omega
theorem szO_bd (os : List Opt) (h : ∀ o ∈ os, o.data.length ≤ 124) : szO os ≤ 128 * os.length := by
  induction os with
  | nil => simp [szO]
  | cons o r ih =>
    have h1 := h o (by simp)
    have h2 := ih (fun x hx => h x (by simp [hx]))
    simp only [szO, List.map_cons, List.sum_cons, List.length_cons] at h2 ⊢
    omega
theorem take_snocO {os : List Opt} {k : Nat} {o : Opt} (h : os[k]? = some o) : os.take (k + 1) = os.take k ++ [o] := by
  obtain ⟨hk, rfl⟩ := List.getElem?_eq_some_iff.1 h
  exact List.take_succ_eq_append_getElem hk
/-- Has an option room? -/
def optG (o : Opt) : Bool := fit16 o.cls && (fit8 o.code && (decide (o.data.length ≤ 124) && decide (o.data.length % 4 = 0)))
set_option maxHeartbeats 2000000 in
theorem gsize_any (a : Option Addr) (n cap : Nat) (os : List Opt) (w : World) (h : OS w a n os) (h124 : ∀ o ∈ os, o.data.length ≤ 124) :
    Calls Try.prog 35 #[.slice a n cap] w fun e w' => e = .returned (.int .i64 (szO os)) ∧ Below w.heap.size w w' := by
  have hl := h.len
  have hr := h.room
  have H : Hid _ := h
  have H1 : Hid _ := h124
  clear h h124
  go_enter Try.func35, Try.ntmps35
  go_wp2_with fail
  go_loopw [3, 8] (fun s i wr => ∃ k : Nat, k ≤ n ∧ i = .int .i64 k ∧ s = .int .i64 (szO (os.take k)) ∧ Below w.heap.size w wr) (fun _ i _ => n - (intOf i).toNat)
  case atStart => exact ⟨0, by omega, rfl, rfl, Below.refl _ _⟩
  case round =>
    obtain ⟨k, hk, rfl, rfl, hb⟩ := hrel
    have HB : Hid _ := hb
    by_cases hlt : k = n
    · have e0 : ¬ (k : Int) < (n : Int) := by omega
      have HS : Hid (os.take k = os) := List.take_of_length_le (by omega)
      clear hlt hb
      go_wp2
      go_ret
      rw [HS.out]
      exact ⟨rfl, HB.out⟩
    · have hkI : (k : Int) < (n : Int) := by omega
      obtain ⟨o, b, off, ho, rfl, c0, c1, c2, hbl, hfit, hlen⟩ := os_cell (H.out.below hb) (show k < n by omega)
      have hs := strOfNums_size o.data
      have hT := szO_snoc (os.take k) o
      rw [← take_snocO ho] at hT
      have h1 := szO_bd (os.take k) (fun x hx => H1.out x (List.mem_of_mem_take hx))
      have h2 := szO_nn (os.take k)
      have h3 : (os.take k).length ≤ n := by rw [List.length_take]; omega
      have h4 := H1.out o (List.mem_of_getElem? ho)
      have HT : Hid _ := hT
      have hne : ¬ b = wr.heap.size := by omega
      generalize szO (os.take k) = S at *
      generalize o.cls = oc at *
      generalize o.code = od at *
      generalize o.data = ds at *
      clear hT ho hfit hlen hb
      have w1 : IntKind.i64.wrap (4 + ((strOfNums ds).size : Int)) = 4 + (ds.length : Int) := by rw [hs]; simp [IntKind.wrap, IntKind.bits, IntKind.signed]; omega
      have w2 : IntKind.i64.wrap (S + (4 + (ds.length : Int))) = S + (4 + (ds.length : Int)) := by simp [IntKind.wrap, IntKind.bits, IntKind.signed]; omega
      go_wp2
      go_roundw
      case rel => exact ⟨k + 1, by omega, by go_num, by rw [HT.out], HB.out.alloc HB.out.size _⟩
      case measure => simp [intOf]; omega
def critB (o : Opt) : Bool := bits .and .i64 o.code 128 != 0
def flV (oam c : Bool) : Int := (if oam then 128 else 0) + (if c then 64 else 0)
def tnC (src dst sp vni : Int) (oam : Bool) (a : Option Addr) (n cap : Nat) (fr : List Int) : Array Value := #[.int .u32 src, .int .u32 dst, .int .i64 sp, .int .i64 vni, .bool oam, .slice a n cap, .string (strOfNums fr)]
theorem fl_or (oam c : Bool) : bits BinOp.or IntKind.i64 (flV oam c) 64 = flV oam true := by cases oam <;> cases c <;> decide +kernel
set_option maxHeartbeats 2000000 in
theorem gflags_any (src dst sp vni : Int) (oam : Bool) (a : Option Addr) (n cap : Nat) (os : List Opt) (fr : List Int) (w : World) (h : OS w a n os) :
    Calls Try.prog 37 #[.agg (tnC src dst sp vni oam a n cap fr)] w fun e w' => e = .returned (.int .i64 (flV oam (os.any critB))) ∧ Below w.heap.size w w' := by
  unfold tnC
  have hl := h.len
  have hr := h.room
  have H : Hid _ := h
  clear h
  go_enter Try.func37, Try.ntmps37
  have hor : bits BinOp.or IntKind.i64 0 128 = 128 := by decide +kernel
  cases oam
  · go_wp2_with fail
    go_loopw [3, 13] (fun s i wr => ∃ k : Nat, k ≤ n ∧ i = .int .i64 k ∧ s = .int .i64 (flV false ((os.take k).any critB)) ∧ Below w.heap.size w wr) (fun _ i _ => n - (intOf i).toNat)
    case atStart => exact ⟨0, by omega, rfl, rfl, below1 w _⟩
    case round =>
      obtain ⟨k, hk, rfl, rfl, hb⟩ := hrel
      have HB : Hid _ := hb
      by_cases hlt : k = n
      · have e0 : ¬ (k : Int) < (n : Int) := by omega
        have HS : Hid (os.take k = os) := List.take_of_length_le (by omega)
        clear hlt hb
        go_wp2
        go_ret
        rw [HS.out]
        exact ⟨rfl, HB.out⟩
      · have hkI : (k : Int) < (n : Int) := by omega
        obtain ⟨o, b, off, ho, rfl, c0, c1, c2, hbl, hfit, hlen⟩ := os_cell (H.out.below hb) (show k < n by omega)
        have hT : (os.take (k + 1)).any critB = ((os.take k).any critB || critB o) := by rw [take_snocO ho, List.any_append]; simp
        have HT : Hid _ := hT
        have hne : ¬ b = wr.heap.size := by omega
        have hor2 := fl_or false ((os.take k).any critB)
        cases hcr : critB o
        · have e1 : (bits BinOp.and IntKind.i64 o.code 128 != 0) = false := hcr
          rw [hcr, Bool.or_false] at HT
          generalize (os.take k).any critB = cb at *
          generalize o.cls = oc at *
          generalize o.code = od at *
          generalize o.data = ds at *
          clear hT ho hfit hlen hb hor2 hor hcr
          go_wp2
          go_roundw
          case rel => exact ⟨k + 1, by omega, by go_num, by rw [HT.out], HB.out.alloc HB.out.size _⟩
          case measure => simp [intOf]; omega
        · have e1 : (bits BinOp.and IntKind.i64 o.code 128 != 0) = true := hcr
          rw [hcr, Bool.or_true] at HT
          generalize (os.take k).any critB = cb at *
          generalize o.cls = oc at *
          generalize o.code = od at *
          generalize o.data = ds at *
          clear hT ho hfit hlen hb hor hcr
          go_wp2
          go_roundw
          case rel => exact ⟨k + 1, by omega, by go_num, by rw [HT.out], HB.out.alloc HB.out.size _⟩
          case measure => simp [intOf]; omega
  · go_wp2_with fail
    go_loopw [3, 13] (fun s i wr => ∃ k : Nat, k ≤ n ∧ i = .int .i64 k ∧ s = .int .i64 (flV true ((os.take k).any critB)) ∧ Below w.heap.size w wr) (fun _ i _ => n - (intOf i).toNat)
    case atStart => exact ⟨0, by omega, rfl, rfl, below1 w _⟩
    case round =>
      obtain ⟨k, hk, rfl, rfl, hb⟩ := hrel
      have HB : Hid _ := hb
      by_cases hlt : k = n
      · have e0 : ¬ (k : Int) < (n : Int) := by omega
        have HS : Hid (os.take k = os) := List.take_of_length_le (by omega)
        clear hlt hb
        go_wp2
        go_ret
        rw [HS.out]
        exact ⟨rfl, HB.out⟩
      · have hkI : (k : Int) < (n : Int) := by omega
        obtain ⟨o, b, off, ho, rfl, c0, c1, c2, hbl, hfit, hlen⟩ := os_cell (H.out.below hb) (show k < n by omega)
        have hT : (os.take (k + 1)).any critB = ((os.take k).any critB || critB o) := by rw [take_snocO ho, List.any_append]; simp
        have HT : Hid _ := hT
        have hne : ¬ b = wr.heap.size := by omega
        have hor2 := fl_or true ((os.take k).any critB)
        cases hcr : critB o
        · have e1 : (bits BinOp.and IntKind.i64 o.code 128 != 0) = false := hcr
          rw [hcr, Bool.or_false] at HT
          generalize (os.take k).any critB = cb at *
          generalize o.cls = oc at *
          generalize o.code = od at *
          generalize o.data = ds at *
          clear hT ho hfit hlen hb hor2 hor hcr
          go_wp2
          go_roundw
          case rel => exact ⟨k + 1, by omega, by go_num, by rw [HT.out], HB.out.alloc HB.out.size _⟩
          case measure => simp [intOf]; omega
        · have e1 : (bits BinOp.and IntKind.i64 o.code 128 != 0) = true := hcr
          rw [hcr, Bool.or_true] at HT
          generalize (os.take k).any critB = cb at *
          generalize o.cls = oc at *
          generalize o.code = od at *
          generalize o.data = ds at *
          clear hT ho hfit hlen hb hor hcr
          go_wp2
          go_roundw
          case rel => exact ⟨k + 1, by omega, by go_num, by rw [HT.out], HB.out.alloc HB.out.size _⟩
          case measure => simp [intOf]; omega
end Go.Proofs.Ytgonckbdkgiddaa
