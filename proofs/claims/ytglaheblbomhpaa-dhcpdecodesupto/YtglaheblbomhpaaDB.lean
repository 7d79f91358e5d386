/- What number, answerKind, asksOther of package dhcp answer. Conditions: the options can be read; numbers of 32 bits. -/
import Derived.Test.YtglaheblbomhpaaDA
namespace Go.Proofs.Ytglaheblbomhpaa
open Go.RowKit

/-- A number's four bytes as a string. -/
def fourS (v : Int) : ByteArray := strOfNums (be v 4)
theorem fourS_size (v : Int) : (fourS v).size = 4 := by unfold fourS; rw [strOfNums_size, be_len]

theorem own_nil (w : World) (base : Nat) (e : TypeId) (size : Nat) : w.ownsRow base e size (.slice none 0 0) 0 [] := ⟨by simp, .inl ⟨rfl, rfl⟩⟩

set_option maxHeartbeats 400000 in
theorem numstr_any (v : Int) (hv : 0 ≤ v ∧ v ≤ 4294967295) (w : World) :
    Calls Try.prog 38 #[.int .u32 v] w fun e w' => e = .returned (.string (fourS v)) ∧ Below w.heap.size w w' := by
  go_enter Try.func38, Try.ntmps38
  go_wp2_with fail
  refine (appendNumber_any w.heap.size w none 0 0 [] (own_nil _ _ _ _) (Nat.le_refl _) (by omega) v (by omega) 4 (by omega)).mono ?_
  rintro e w1 ⟨a', cap', rfl, hrow⟩
  have hb : Below w.heap.size w w1 := (Below.refl _ _).grown hrow.grown (Nat.le_refl _) (fun k hk => by simp [Value.ownBlock] at hk)
  have hbs : BS w1 a' 4 (be v 4) := own_bs (by simpa using hrow.own) (be_bd _ _) (by omega)
  have hcv := run_conv_bs (P := Try.prog) cap' hbs 22 9 5 Try.underlying22 Try.underlying5 Try.underlying9
  have hb' : Hid _ := hb
  clear hrow hbs hb
  go_wp2
  go_ret
  exact ⟨rfl, hb'.out⟩

/-- What the data of option 53 ask for: 2 an offer, 5 an ack. -/
def kindS (s : ByteArray) : Int := if s = ⟨#[1]⟩ then 2 else if s = ⟨#[3]⟩ then 5 else 0
def optS (os : List Opt) (c : Int) : ByteArray := (findO os c).getD ⟨#[]⟩
theorem findV_optS (os : List Opt) (c : Int) : ∃ b, findV os c = .tuple #[.string (optS os c), .bool b] ∧ (b = false → optS os c = ⟨#[]⟩) := by
  unfold findV optS
  cases findO os c with
  | none => exact ⟨false, rfl, fun _ => rfl⟩
  | some s => exact ⟨true, rfl, by simp⟩
theorem one_byte {s : ByteArray} (h : s.size = 1) : ∃ x : UInt8, s = ⟨#[x]⟩ := by
  obtain ⟨⟨l⟩⟩ := s
  match l, h with
  | [x], _ => exact ⟨x, rfl⟩

set_option maxHeartbeats 400000 in
theorem kind_any (op xid secs flags ci yi si gi ch : Int) (a : Option Addr) (n cap : Nat) (os : List Opt) (w : World) (h : OS w a n os) :
    Calls Try.prog 28 #[dhcpV op xid secs flags ci yi si gi ch (.slice a n cap)] w fun e w' => e = .returned (.int .i64 (kindS (optS os 53))) ∧ Below w.heap.size w w' := by
  obtain ⟨b, hfv, _⟩ := findV_optS os 53
  have HF : Hid _ := hfv
  clear hfv
  have B := below2 w (.cells #[.int .i64 op, .int .u32 xid, .int .i64 secs, .int .i64 flags, .int .u32 ci, .int .u32 yi, .int .u32 si, .int .u32 gi, .int .u64 ch, .slice a n cap] 27) (.cells #[.int .i64 op, .int .u32 xid, .int .i64 secs, .int .i64 flags, .int .u32 ci, .int .u32 yi, .int .u32 si, .int .u32 gi, .int .u64 ch, .slice a n cap] 27)
  have HB : Hid _ := B
  have H : Hid _ := h.below (below1 w (.cells #[.int .i64 op, .int .u32 xid, .int .i64 secs, .int .i64 flags, .int .u32 ci, .int .u32 yi, .int .u32 si, .int .u32 gi, .int .u64 ch, .slice a n cap] 27))
  clear h B
  generalize optS os 53 = s at *
  unfold dhcpV
  by_cases hs : s.size = 1
  · obtain ⟨x, rfl⟩ := one_byte hs
    have hx : ∀ y : UInt8, ((⟨#[x]⟩ : ByteArray) = ⟨#[y]⟩) = (x = y) := fun y => by simp
    have hlt := x.toNat_lt
    by_cases h1 : x = 1
    · subst h1
      rw [show kindS ⟨#[1]⟩ = 2 from by unfold kindS; rw [if_pos rfl]]
      go_enter Try.func28, Try.ntmps28
      go_wp2_with fail
      refine (find_any op xid secs flags ci yi si gi ch 53 a n cap os _ H.out).mono ?_
      rintro e w1 ⟨rfl, rfl⟩
      rw [HF.out]
      go_wp2
      go_ret
      exact ⟨rfl, HB.out⟩
    by_cases h3 : x = 3
    · subst h3
      rw [show kindS ⟨#[3]⟩ = 5 from by unfold kindS; rw [if_neg (by simp [hx]), if_pos rfl]]
      go_enter Try.func28, Try.ntmps28
      go_wp2_with fail
      refine (find_any op xid secs flags ci yi si gi ch 53 a n cap os _ H.out).mono ?_
      rintro e w1 ⟨rfl, rfl⟩
      rw [HF.out]
      go_wp2
      go_ret
      exact ⟨rfl, HB.out⟩
    · rw [show kindS ⟨#[x]⟩ = 0 from by unfold kindS; rw [if_neg (by simp [hx, h1]), if_neg (by simp [hx, h3])]]
      have g1 : ((x.toNat : Int) == 1) = false := by
        have : x.toNat ≠ 1 := fun h => h1 (UInt8.toNat_inj.1 h)
        simp; omega
      have g3 : ((x.toNat : Int) == 3) = false := by
        have : x.toNat ≠ 3 := fun h => h3 (UInt8.toNat_inj.1 h)
        simp; omega
      have g1' : (((⟨#[x]⟩ : ByteArray)[0].toNat : Int) == 1) = false := g1
      have g3' : (((⟨#[x]⟩ : ByteArray)[0].toNat : Int) == 3) = false := g3
      clear hx h1 h3
      go_enter Try.func28, Try.ntmps28
      go_wp2_with fail
      refine (find_any op xid secs flags ci yi si gi ch 53 a n cap os _ H.out).mono ?_
      rintro e w1 ⟨rfl, rfl⟩
      rw [HF.out]
      go_wp2
      go_ret
      exact ⟨rfl, HB.out⟩
  · rw [show kindS s = 0 from by
      unfold kindS
      rw [if_neg (by rintro rfl; exact hs rfl), if_neg (by rintro rfl; exact hs rfl)]]
    have hsI : ((s.size : Int) == 1) = false := by simp; omega
    clear hs
    go_enter Try.func28, Try.ntmps28
    go_wp2_with fail
    refine (find_any op xid secs flags ci yi si gi ch 53 a n cap os _ H.out).mono ?_
    rintro e w1 ⟨rfl, rfl⟩
    rw [HF.out]
    go_wp2
    go_ret
    exact ⟨rfl, HB.out⟩

/-- Does an option of four bytes say another number? -/
def otherB (os : List Opt) (c v : Int) : Bool := decide ((optS os c).size = 4) && !((optS os c).toList == (fourS v).toList)

set_option maxHeartbeats 400000 in
theorem asks_any (op xid secs flags ci yi si gi ch code v : Int) (hv : 0 ≤ v ∧ v ≤ 4294967295) (a : Option Addr) (n cap : Nat) (os : List Opt) (w : World) (h : OS w a n os) :
    Calls Try.prog 29 #[dhcpV op xid secs flags ci yi si gi ch (.slice a n cap), .int .i64 code, .int .u32 v] w fun e w' => e = .returned (.bool (otherB os code v)) ∧ Below w.heap.size w w' := by
  obtain ⟨b, hfv, _⟩ := findV_optS os code
  have HF : Hid _ := hfv
  clear hfv
  have B := below2 w (.cells #[.int .i64 op, .int .u32 xid, .int .i64 secs, .int .i64 flags, .int .u32 ci, .int .u32 yi, .int .u32 si, .int .u32 gi, .int .u64 ch, .slice a n cap] 27) (.cells #[.int .i64 op, .int .u32 xid, .int .i64 secs, .int .i64 flags, .int .u32 ci, .int .u32 yi, .int .u32 si, .int .u32 gi, .int .u64 ch, .slice a n cap] 27)
  have HB : Hid _ := B
  have H : Hid _ := h.below (below1 w (.cells #[.int .i64 op, .int .u32 xid, .int .i64 secs, .int .i64 flags, .int .u32 ci, .int .u32 yi, .int .u32 si, .int .u32 gi, .int .u64 ch, .slice a n cap] 27))
  clear h B
  unfold otherB
  generalize optS os code = s at *
  unfold dhcpV
  by_cases hs : s.size = 4
  · have hsI : ((s.size : Int) == 4) = true := by simp; omega
    rw [show (decide (s.size = 4) && !(s.toList == (fourS v).toList)) = !(s.toList == (fourS v).toList) from by simp [hs]]
    clear hs
    go_enter Try.func29, Try.ntmps29
    go_wp2_with fail
    refine (find_any op xid secs flags ci yi si gi ch code a n cap os _ H.out).mono ?_
    rintro e w1 ⟨rfl, rfl⟩
    rw [HF.out]
    go_wp2_with fail
    refine (numstr_any v hv _).mono ?_
    rintro e w2 ⟨rfl, hb2⟩
    go_wp2
    go_ret
    exact ⟨rfl, HB.out.trans (hb2.mono (by simp; omega))⟩
  · have hsI : ((s.size : Int) == 4) = false := by simp; omega
    rw [show (decide (s.size = 4) && !(s.toList == (fourS v).toList)) = false from by simp [hs]]
    clear hs
    go_enter Try.func29, Try.ntmps29
    go_wp2_with fail
    refine (find_any op xid secs flags ci yi si gi ch code a n cap os _ H.out).mono ?_
    rintro e w1 ⟨rfl, rfl⟩
    rw [HF.out]
    go_wp2
    go_ret
    exact ⟨rfl, HB.out⟩
end Go.Proofs.Ytglaheblbomhpaa
