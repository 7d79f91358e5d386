/- The document's Encode of a tunnel's datagram. Conditions: as said. -/
import Derived.Test.YtgonckbdkgiddaaL4c2
import Derived.Test.YtgonckbdkgiddaaQM4e3
import Derived.Test.YtgonckbdkgiddaaQHF
namespace Go.Proofs.Ytgonckbdkgiddaa
open Go.RowKit
theorem rOk_ok9 (k ty co re sp dp : Int) (ns : Bool) (sq ak fl wi ur : Int) (os ds : List Int) (size : Int) (ho : ownOk k ty co re sp dp ns sq ak fl wi ur (strOfNums os) = true) (hs : size = fixV k + os.length) :
    rOk (toB ty 255) (toB co 255) (toB sp 65535) (toB dp 65535) (toB wi 65535) (toB ur 65535) (toB fl 4095) os.length ds.length size = l4Ok k ty co re sp dp ns sq ak fl wi ur (strOfNums os) (strOfNums ds) := by
  subst hs
  unfold l4Ok rOk numsOk
  rw [ho, strOfNums_size, strOfNums_size]
  have e8 : ∀ v, fitN 8 v = toB v 255 := fun v => rfl
  have e12 : ∀ v, fitN 12 v = toB v 4095 := fun v => rfl
  have e16 : ∀ v, fitN 16 v = toB v 65535 := fun v => rfl
  have hz : decide (65515 - (fixV k + (os.length : Int)) < (ds.length : Int)) = decide (65515 < fixV k + (os.length : Int) + ds.length) := by
    rw [Bool.eq_iff_iff]; simp; omega
  have hm : ((os.length : Int) % 4 == 0) = !((os.length : Int) % 4 != 0) := by simp [bne]
  rw [e8, e8, e12, e16, e16, e16, e16, hz, hm]
  generalize toB ty 255 = b0
  generalize toB co 255 = b1
  generalize toB sp 65535 = b2
  generalize toB dp 65535 = b3
  generalize toB wi 65535 = b4
  generalize toB ur 65535 = b5
  generalize toB fl 4095 = b6
  generalize decide (40 < os.length) = b7
  generalize ((os.length : Int) % 4 != 0) = b8
  generalize decide (65515 < fixV k + (os.length : Int) + ds.length) = b9
  revert b0 b1 b2 b3 b4 b5 b6 b7 b8 b9
  decide +kernel
theorem udp_enc (sp : Int) (pay : List Int) : (udpR sp pay).body = be sp 2 ++ be 6081 2 ++ be (8 + (pay.length : Int)) 2 ++ [0, 0] ++ pay := by
  show headL 2 0 0 0 sp 6081 0 0 0 0 0 0 pay.length ++ [] ++ pay = _
  unfold headL
  rw [if_neg (by omega), if_pos rfl, show be 0 (2 : Int).toNat = [0, 0] from by decide +kernel, List.append_nil]
  rfl
theorem rcheck_udp (sp : Int) (pay : List Int) (hl : pay.length ≤ 10000) (hok : (udpR sp pay).ok = true) (w : World) :
    Calls Try.prog 47 #[(udpR sp pay).v] w fun e w' => e = .returned (.int .i64 0) ∧ Below w.heap.size w w' := by
  have hq : ∀ W, (binOp .neq 48 (.agg #[.int .i64 2, .int .i64 0, .int .i64 0, .int .u32 0, .int .i64 sp, .int .i64 6081, .bool true, .int .u32 0, .int .u32 0, .int .i64 0, .int .i64 0, .int .i64 0, .string (strOfNums []), .string (strOfNums pay)]) (.agg #[.int .i64 2, .int .i64 0, .int .i64 0, .int .u32 0, .int .i64 sp, .int .i64 6081, .bool true, .int .u32 0, .int .u32 0, .int .i64 0, .int .i64 0, .int .i64 0, .string ⟨#[]⟩, .string (strOfNums pay)])).run Try.prog W = .ok (.bool (!(ownOk 2 0 0 0 sp 6081 true 0 0 0 0 0 (strOfNums [])))) W := by
    intro W
    rw [neq14]
    congr 3
    simp [ownOk]
  have ho : ownOk 2 0 0 0 sp 6081 true 0 0 0 0 0 (strOfNums []) = true := by kernel_rfl
  rw [ho] at hq
  have hr := rOk_ok9 2 0 0 0 sp 6081 true 0 0 0 0 0 [] pay 8 ho rfl
  have := rcheck2_b 0 0 0 sp 6081 true 0 0 0 0 0 [] pay w (by omega) (by simp) hq
  rw [hr, show l4Ok 2 0 0 0 sp 6081 true 0 0 0 0 0 (strOfNums []) (strOfNums pay) = true from hok] at this
  exact this
theorem rencode_udp (src dst sp : Int) (pay : List Int) (_hs : 0 ≤ src ∧ src ≤ 4294967295) (_hd : 0 ≤ dst ∧ dst ≤ 4294967295) (hsp : fit16 sp = true) (hf : Fit pay) (hl : pay.length ≤ 10000) (w : World) :
    Calls Try.prog 22 #[.int .u32 src, .int .u32 dst, .agg #[.int .i64 2, .int .i64 0, .int .i64 0, .int .u32 0, .int .i64 sp, .int .i64 6081, .bool true, .int .u32 0, .int .u32 0, .int .i64 0, .int .i64 0, .int .i64 0, .string ⟨#[]⟩, .string (strOfNums pay)]] w fun e w' => ∃ a cap, e = .returned (.tuple #[.slice a (udpR sp pay).body.length cap, .int .i64 0]) ∧ BS w' a (udpR sp pay).body.length (udpR sp pay).body ∧ Below w.heap.size w w' := by
  have hb := fit16_bd hsp
  rw [udp_body_len, udp_enc]
  refine (renf_udn src dst 0 0 0 sp 6081 true rfl 0 0 0 0 0 [] pay hb (by omega) (by omega) hf w (fun W => rcheck_udp sp pay hl (udp_ok hsp pay hl) W)).mono ?_
  rintro e w' ⟨a, cap, rfl, hB, hq, hl⟩
  exact ⟨a, cap, rfl, hB, hl⟩
end Go.Proofs.Ytgonckbdkgiddaa
