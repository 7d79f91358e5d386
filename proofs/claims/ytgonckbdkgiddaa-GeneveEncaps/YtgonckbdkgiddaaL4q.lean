/- A packet that was encoded reads as it was: plain facts. No condition. -/
import Derived.Test.YtgonckbdkgiddaaL4m
namespace Go.Proofs.Ytgonckbdkgiddaa
open Go.RowKit

/-- The bytes of a UDP packet, of whatever check sum. -/
def udpL (sp dp n c : Int) (ds : List Int) : List Int := [sp / 256 % 256, sp % 256, dp / 256 % 256, dp % 256, n / 256 % 256, n % 256, c / 256, c % 256] ++ ds
def icmpL (ty co re c : Int) (ds : List Int) : List Int := [ty % 256, co % 256, c / 256, c % 256, re / 16777216 % 256, re / 65536 % 256, re / 256 % 256, re % 256] ++ ds
def tcpL (sp dp sq ak u wi ur c : Int) (os ds : List Int) : List Int := [sp / 256 % 256, sp % 256, dp / 256 % 256, dp % 256, sq / 16777216 % 256, sq / 65536 % 256, sq / 256 % 256, sq % 256, ak / 16777216 % 256, ak / 65536 % 256, ak / 256 % 256, ak % 256, u / 256 % 256, u % 256, wi / 256 % 256, wi % 256, c / 256, c % 256, ur / 256 % 256, ur % 256] ++ (os ++ ds)
theorem be1 (v : Int) : be v (1 : Int).toNat = [v % 256] := by
  show [v / 2 ^ (8 * 0) % 256] = _
  rw [show (2 : Int) ^ (8 * 0) = 1 by decide]; simp
theorem be2 (v : Int) : be v (2 : Int).toNat = [v / 256 % 256, v % 256] := by
  show [v / 2 ^ (8 * 1) % 256, v / 2 ^ (8 * 0) % 256] = _
  rw [show (2 : Int) ^ (8 * 0) = 1 by decide, show (2 : Int) ^ (8 * 1) = 256 by decide]; simp
theorem be4 (v : Int) : be v (4 : Int).toNat = [v / 16777216 % 256, v / 65536 % 256, v / 256 % 256, v % 256] := by
  show [v / 2 ^ (8 * 3) % 256, v / 2 ^ (8 * 2) % 256, v / 2 ^ (8 * 1) % 256, v / 2 ^ (8 * 0) % 256] = _
  rw [show (2 : Int) ^ (8 * 0) = 1 by decide, show (2 : Int) ^ (8 * 1) = 256 by decide, show (2 : Int) ^ (8 * 2) = 65536 by decide, show (2 : Int) ^ (8 * 3) = 16777216 by decide]; simp
theorem body_icmp (ty co re sp dp : Int) (ns : Bool) (sq ak fl wi ur : Int) (ds : List Int) : (L4R.mk 1 ty co re sp dp ns sq ak fl wi ur [] ds).body = icmpL ty co re 0 ds := by
  unfold L4R.body L4R.head headL
  simp only [be1, be2, be4]
  rfl
theorem body_udp (ty co re sp dp : Int) (ns : Bool) (sq ak fl wi ur : Int) (ds : List Int) : (L4R.mk 2 ty co re sp dp ns sq ak fl wi ur [] ds).body = udpL sp dp (8 + (ds.length : Int)) 0 ds := by
  unfold L4R.body L4R.head headL
  simp only [be2]
  rfl
theorem body_tcp (ty co re sp dp : Int) (ns : Bool) (sq ak fl wi ur : Int) (os ds : List Int) : (L4R.mk 3 ty co re sp dp ns sq ak fl wi ur os ds).body = tcpL sp dp sq ak ((20 + (os.length : Int)) / 4 * 4096 + fl) wi ur 0 os ds := by
  unfold L4R.body L4R.head headL
  simp only [be2, be4]
  rw [List.append_assoc]
  rfl
theorem setC_icmp (src dst ty co re : Int) (ds : List Int) : setC src dst 1 (icmpL ty co re 0 ds) = icmpL ty co re (chkC src dst 1 (icmpL ty co re 0 ds)) ds := rfl
theorem setC_udp (src dst sp dp n : Int) (ds : List Int) : setC src dst 2 (udpL sp dp n 0 ds) = udpL sp dp n (chkC src dst 2 (udpL sp dp n 0 ds)) ds := rfl
theorem setC_tcp (src dst sp dp sq ak u wi ur : Int) (os ds : List Int) : setC src dst 3 (tcpL sp dp sq ak u wi ur 0 os ds) = tcpL sp dp sq ak u wi ur (chkC src dst 3 (tcpL sp dp sq ak u wi ur 0 os ds)) os ds := rfl

theorem read_icmpL (ty co re c : Int) (ds : List Int) (h1 : 0 ≤ ty ∧ ty ≤ 255) (h2 : 0 ≤ co ∧ co ≤ 255) (h3 : 0 ≤ re ∧ re ≤ 4294967295) : readR 1 (icmpL ty co re c ds) = ⟨1, ty, co, re, 0, 0, false, 0, 0, 0, 0, 0, [], ds⟩ := by
  have e1 : num (((icmpL ty co re c ds).drop 0).take 1) = ty := by
    show num [ty % 256] = ty
    simp [num]; omega
  have e2 : num (((icmpL ty co re c ds).drop 1).take 1) = co := by
    show num [co % 256] = co
    simp [num]; omega
  have e3 : num (((icmpL ty co re c ds).drop 4).take 4) = re := by
    show num [re / 16777216 % 256, re / 65536 % 256, re / 256 % 256, re % 256] = re
    simp [num]; omega
  unfold readR
  rw [if_pos rfl, e1, e2, e3]
  rfl
theorem read_udpL (sp dp n c : Int) (ds : List Int) (h1 : 0 ≤ sp ∧ sp ≤ 65535) (h2 : 0 ≤ dp ∧ dp ≤ 65535) : readR 2 (udpL sp dp n c ds) = ⟨2, 0, 0, 0, sp, dp, c == 0, 0, 0, 0, 0, 0, [], ds⟩ := by
  have e1 : num (((udpL sp dp n c ds).drop 0).take 2) = sp := by
    show num [sp / 256 % 256, sp % 256] = sp
    simp [num]; omega
  have e2 : num (((udpL sp dp n c ds).drop 2).take 2) = dp := by
    show num [dp / 256 % 256, dp % 256] = dp
    simp [num]; omega
  have e3 : num (((udpL sp dp n c ds).drop 6).take 2) = c := by
    show num [c / 256, c % 256] = c
    simp [num]; omega
  unfold readR
  rw [if_neg (by decide), if_pos rfl, e1, e2, e3]
  rfl
theorem read_tcpL (sp dp sq ak fl wi ur c : Int) (os ds : List Int) (h1 : 0 ≤ sp ∧ sp ≤ 65535) (h2 : 0 ≤ dp ∧ dp ≤ 65535) (h3 : 0 ≤ sq ∧ sq ≤ 4294967295) (h4 : 0 ≤ ak ∧ ak ≤ 4294967295) (h5 : 0 ≤ fl ∧ fl ≤ 4095) (h6 : 0 ≤ wi ∧ wi ≤ 65535) (h7 : 0 ≤ ur ∧ ur ≤ 65535) (ho : os.length ≤ 40) (h4' : os.length % 4 = 0) :
    readR 3 (tcpL sp dp sq ak ((20 + (os.length : Int)) / 4 * 4096 + fl) wi ur c os ds) = ⟨3, 0, 0, 0, sp, dp, false, sq, ak, fl, wi, ur, os, ds⟩ := by
  have hu : 5 ≤ (20 + (os.length : Int)) / 4 ∧ (20 + (os.length : Int)) / 4 ≤ 15 ∧ (20 + (os.length : Int)) / 4 * 4 = 20 + os.length := by omega
  generalize (20 + (os.length : Int)) / 4 = q at *
  have e1 : num (((tcpL sp dp sq ak (q * 4096 + fl) wi ur c os ds).drop 0).take 2) = sp := by
    show num [sp / 256 % 256, sp % 256] = sp
    simp [num]; omega
  have e2 : num (((tcpL sp dp sq ak (q * 4096 + fl) wi ur c os ds).drop 2).take 2) = dp := by
    show num [dp / 256 % 256, dp % 256] = dp
    simp [num]; omega
  have e3 : num (((tcpL sp dp sq ak (q * 4096 + fl) wi ur c os ds).drop 4).take 4) = sq := by
    show num [sq / 16777216 % 256, sq / 65536 % 256, sq / 256 % 256, sq % 256] = sq
    simp [num]; omega
  have e4 : num (((tcpL sp dp sq ak (q * 4096 + fl) wi ur c os ds).drop 8).take 4) = ak := by
    show num [ak / 16777216 % 256, ak / 65536 % 256, ak / 256 % 256, ak % 256] = ak
    simp [num]; omega
  have e5 : num (((tcpL sp dp sq ak (q * 4096 + fl) wi ur c os ds).drop 12).take 2) % 4096 = fl := by
    show num [(q * 4096 + fl) / 256 % 256, (q * 4096 + fl) % 256] % 4096 = fl
    simp [num]; omega
  have e6 : num (((tcpL sp dp sq ak (q * 4096 + fl) wi ur c os ds).drop 14).take 2) = wi := by
    show num [wi / 256 % 256, wi % 256] = wi
    simp [num]; omega
  have e7 : num (((tcpL sp dp sq ak (q * 4096 + fl) wi ur c os ds).drop 18).take 2) = ur := by
    show num [ur / 256 % 256, ur % 256] = ur
    simp [num]; omega
  have e8 : (tcpL sp dp sq ak (q * 4096 + fl) wi ur c os ds).getD 12 0 / 16 * 4 = 20 + os.length := by
    show (q * 4096 + fl) / 256 % 256 / 16 * 4 = _
    omega
  have e9 : (20 + (os.length : Int)).toNat = 20 + os.length := by omega
  unfold readR
  rw [if_neg (by decide), if_neg (by decide), if_pos rfl, e1, e2, e3, e4, e5, e6, e7, e8, e9]
  have d1 : ((tcpL sp dp sq ak (q * 4096 + fl) wi ur c os ds).drop 20).take (20 + os.length - 20) = os := by
    show (os ++ ds).take (20 + os.length - 20) = os
    rw [show 20 + os.length - 20 = os.length by omega]; simp
  have d2 : (tcpL sp dp sq ak (q * 4096 + fl) wi ur c os ds).drop (20 + os.length) = ds := by
    rw [← List.drop_drop]
    show (os ++ ds).drop os.length = ds
    simp
  rw [d1, d2]
  rfl
theorem msr_icmpL (ty co re c : Int) (ds : List Int) : msrV 1 (icmpL ty co re c ds) = 0 := by
  have hl : (icmpL ty co re c ds).length = 8 + ds.length := by simp [icmpL]; omega
  unfold msrV
  rw [hl, show fixV 1 = 8 from rfl, if_neg (by omega), if_neg (by decide), if_neg (by decide)]
theorem msr_udpL (sp dp c : Int) (ds : List Int) (hd : ds.length ≤ 65507) : msrV 2 (udpL sp dp (8 + (ds.length : Int)) c ds) = 0 := by
  have hl : (udpL sp dp (8 + (ds.length : Int)) c ds).length = 8 + ds.length := by simp [udpL]; omega
  unfold msrV
  rw [hl, show fixV 2 = 8 from rfl, if_neg (by omega), if_pos rfl, if_pos]
  show (8 + (ds.length : Int)) / 256 % 256 * 256 + (8 + (ds.length : Int)) % 256 = _
  omega
theorem msr_tcpL (sp dp sq ak fl wi ur c : Int) (os ds : List Int) (h5 : 0 ≤ fl ∧ fl ≤ 4095) (ho : os.length ≤ 40) (h4' : os.length % 4 = 0) : msrV 3 (tcpL sp dp sq ak ((20 + (os.length : Int)) / 4 * 4096 + fl) wi ur c os ds) = 0 := by
  have hl : (tcpL sp dp sq ak ((20 + (os.length : Int)) / 4 * 4096 + fl) wi ur c os ds).length = 20 + os.length + ds.length := by simp [tcpL]; omega
  have e8 : (tcpL sp dp sq ak ((20 + (os.length : Int)) / 4 * 4096 + fl) wi ur c os ds).getD 12 0 / 16 * 4 = 20 + os.length := by
    show ((20 + (os.length : Int)) / 4 * 4096 + fl) / 256 % 256 / 16 * 4 = _
    omega
  unfold msrV
  rw [hl, show fixV 3 = 20 from rfl, if_neg (by omega), if_neg (by decide), if_pos rfl, e8, if_neg (by omega), if_neg (by omega)]
end Go.Proofs.Ytgonckbdkgiddaa
