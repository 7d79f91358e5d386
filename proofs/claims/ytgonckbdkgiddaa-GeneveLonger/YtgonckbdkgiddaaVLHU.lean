/- Parts of the proof, in one text. -/
import Derived.Test.YtgonckbdkgiddaaVLHN
import Derived.Test.YtgonckbdkgiddaaVLHA
import Derived.Deep.QuietTactic
import Derived.Test.YtgonckbdkgiddaaVLHG
namespace Go.Proofs.Ytgonckbdkgiddaa
open Go.RowKit
set_option maxRecDepth 20000
theorem enc_first (src dst sp vni : Int) (oam : Bool) (os : List Opt) (fr : List Int) : (encB src dst sp vni oam os fr).getD 0 0 = 69 ∧ (encB src dst sp vni oam os fr).getD 2 0 * 256 + (encB src dst sp vni oam os fr).getD 3 0 = ((encB src dst sp vni oam os fr).length : Int) := by
  have hl := encB_len src dst sp vni oam os fr
  have hu := udpB_len sp vni oam os fr
  constructor
  · show (64 + (20 + ((0 : Nat) : Int)) / 4 : Int) = 69
    decide
  · have := Ip.ipB_total 0 0 16384 64 17 src dst [] ((udpB sp vni oam os fr).length : Int) (udpB sp vni oam os fr)
    have e : encB src dst sp vni oam os fr = Ip.ipB 0 0 16384 64 17 src dst [] ((udpB sp vni oam os fr).length : Int) ++ udpB sp vni oam os fr := rfl
    rw [← e] at this
    rw [this]
    simp
    omega
theorem getD_take9 (zs : List Int) (k i : Nat) (h : i < k) : (zs.take k).getD i 0 = zs.getD i 0 := by
  rw [List.getD_eq_getElem?_getD, List.getElem?_take, if_pos h, ← List.getD_eq_getElem?_getD]
theorem msr_short (src dst sp vni : Int) (oam : Bool) (os : List Opt) (fr : List Int) (k : Nat) (hk : k < (encB src dst sp vni oam os fr).length) : Ip.msr ((encB src dst sp vni oam os fr).take k) k = (0, 0, 20) := by
  obtain ⟨h1, h2⟩ := enc_first src dst sp vni oam os fr
  have hl : ((encB src dst sp vni oam os fr).take k).length = k := by rw [List.length_take]; omega
  unfold Ip.msr
  by_cases hc : (k : Int) < 20
  · rw [if_pos (by rw [hl]; exact hc)]
  · rw [if_neg (by rw [hl]; exact hc), getD_take9 _ _ 0 (by omega), getD_take9 _ _ 2 (by omega), getD_take9 _ _ 3 (by omega), h1, h2, if_neg (by omega), if_pos (by right; omega)]
/-- Too few bytes. -/
theorem decap_short (w : World) (a : Option Addr) (k cap : Nat) (src dst sp vni : Int) (oam : Bool) (os : List Opt) (fr : List Int) (h : BS w a k ((encB src dst sp vni oam os fr).take k)) (hk : k < (encB src dst sp vni oam os fr).length) (hcap : k ≤ cap) :
    Calls Try.prog 10 #[.slice a k cap] w fun e w' => e = .returned (.tuple #[.agg #[.int .u32 0, .int .u32 0, .int .i64 0, .int .i64 0, .bool false, .slice none 0 0, .string ⟨#[]⟩], .int .i64 20]) ∧ Below w.heap.size w w' :=
  decap_ipbad w a k cap _ h 20 rfl 0 0 (fun W hB => (Ip.decode_any W a k cap _ hB hcap).1 20 (.inl rfl) (msr_short src dst sp vni oam os fr k hk))
end Go.Proofs.Ytgonckbdkgiddaa

namespace Go.Proofs.Ytgonckbdkgiddaa
open Go.RowKit
set_option maxRecDepth 20000
set_option linter.unusedSimpArgs false
set_option maxHeartbeats 4000000 in
theorem same_any (src dst sp vni : Int) (oam : Bool) (s : ByteArray) (a1 a2 : Option Addr) (n c1 c2 : Nat) (os : List Opt) (w : World) (h1 : OS w a1 n os) (h2 : OS w a2 n os) :
    Calls Try.prog 11 #[.agg #[.int .u32 src, .int .u32 dst, .int .i64 sp, .int .i64 vni, .bool oam, .slice a1 n c1, .string s], .agg #[.int .u32 src, .int .u32 dst, .int .i64 sp, .int .i64 vni, .bool oam, .slice a2 n c2, .string s]] w fun e w' => e = .returned (.bool true) ∧ Below w.heap.size w w' := by
  have H1 : Hid _ := h1
  have H2 : Hid _ := h2
  have hr := h1.room
  have e1 : (src != src) = false := by simp
  have e2 : (dst != dst) = false := by simp
  have e3 : (sp != sp) = false := by simp
  have e4 : (vni != vni) = false := by simp
  have e5 : (oam != oam) = false := by simp
  have e6 : (s.toList == s.toList) = true := by simp
  have B0 : Hid (Below w.heap.size w ((w.alloc (.cells #[.int .u32 src, .int .u32 dst, .int .i64 sp, .int .i64 vni, .bool oam, .slice a1 n c1, .string s] 25)).alloc (.cells #[.int .u32 src, .int .u32 dst, .int .i64 sp, .int .i64 vni, .bool oam, .slice a2 n c2, .string s] 25))) := below2 w _ _
  clear h1 h2
  go_enter Try.func11, Try.ntmps11
  go_wp2_with fail
  go_loopw [5] (fun i wr => ∃ k nq : Nat, k ≤ n ∧ i = .int .i64 k ∧ wr = World.drewN ((w.alloc (.cells #[.int .u32 src, .int .u32 dst, .int .i64 sp, .int .i64 vni, .bool oam, .slice a1 n c1, .string s] 25)).alloc (.cells #[.int .u32 src, .int .u32 dst, .int .i64 sp, .int .i64 vni, .bool oam, .slice a2 n c2, .string s] 25)) nq) (fun i _ => n - (intOf i).toNat)
  case atStart => exact ⟨0, 0, by omega, rfl, rfl⟩
  case round =>
    obtain ⟨k, nq, hk, rfl, rfl⟩ := hrel
    by_cases hlt : k = n
    · have e0 : ¬ (k : Int) < (n : Int) := by omega
      clear hlt
      go_wp2
      go_ret
      exact ⟨rfl, below_drewN B0.out _⟩
    · have hkI : (k : Int) < (n : Int) := by omega
      obtain ⟨o, b1, o1, ho, rfl, c0, c1', c2', hbl1, _⟩ := os_cell (H1.out.below B0.out) (show k < n by omega)
      obtain ⟨o', b2, o2, ho2, rfl, d0, d1, d2, hbl2, _⟩ := os_cell (H2.out.below B0.out) (show k < n by omega)
      obtain rfl : o = o' := by rw [ho] at ho2; exact Option.some.inj ho2
      generalize o.cls = oc at *
      generalize o.code = od at *
      generalize strOfNums o.data = ds at *
      have hneq : ∀ W, (binOp .neq 38 (.agg #[.int .i64 oc, .int .i64 od, .string ds]) (.agg #[.int .i64 oc, .int .i64 od, .string ds])).run Try.prog W = .ok (.bool false) W := fun W => by simp [go_sem]
      clear ho ho2
      go_wp2_with fail
      go_quiet (fail)
      go_wp2
      go_roundw
      case rel => exact ⟨k + 1, _, by omega, by go_num, rfl⟩
      case measure => simp [intOf]; omega
end Go.Proofs.Ytgonckbdkgiddaa

namespace Go.Proofs.Ytgonckbdkgiddaa
open Go.RowKit
set_option maxRecDepth 20000
set_option linter.unusedSimpArgs false
set_option maxHeartbeats 4000000 in
theorem longer_no (src dst sp vni : Int) (oam : Bool) (a : Option Addr) (n cap : Nat) (os : List Opt) (fr : List Int) (am : Value) (less : Int) (w : World) (h : OS w a n os) (f : Int) (hE : chkE sp vni os fr.length = f) (hf : (f != 0) = true) :
    Calls Try.prog 6 #[.agg (tnC src dst sp vni oam a n cap fr), am, .int .i64 less] w fun e w' => e = .returned (.bool true) ∧ Below w.heap.size w w' := by
  have hC : Hid _ := fun W (h : OS W a n os) => encap_no src dst sp vni oam a n cap os fr W h f hE hf
  unfold tnC at hC ⊢
  have H : Hid _ := h
  clear h hE
  go_enter Try.func6, Try.ntmps6
  go_wp2_with fail
  refine (hC.out _ (H.out.below (below1 w _))).mono ?_
  rintro e W1 ⟨rfl, hb⟩
  have HB : Hid (Below w.heap.size w W1) := (below1 w _).trans (hb.mono (by simp))
  clear hb hC
  go_wp2_with fail
  refine (glives_any _).mono ?_
  rintro e W2 ⟨rfl, hb⟩
  have HB2 : Hid (Below w.heap.size w W2) := HB.out.trans (hb.mono HB.out.size)
  clear hb HB
  go_wp2
  go_ret
  exact ⟨rfl, HB2.out⟩
end Go.Proofs.Ytgonckbdkgiddaa
