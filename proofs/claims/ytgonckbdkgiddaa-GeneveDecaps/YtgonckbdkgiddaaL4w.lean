/- What Decode of package l4 answers, of any bytes. Condition: a slice of at most 2^47 bytes. -/
import Derived.Test.YtgonckbdkgiddaaL4v
import Derived.Test.YtgonckbdkgiddaaL4r
import Derived.Test.YtgonckbdkgiddaaL4t
namespace Go.Proofs.Ytgonckbdkgiddaa
open Go.RowKit

/-- A packet's numbers. -/
structure L4R where
  k : Int
  ty : Int
  co : Int
  re : Int
  sp : Int
  dp : Int
  ns : Bool
  sq : Int
  ak : Int
  fl : Int
  wi : Int
  ur : Int
  os : List Int
  ds : List Int
def L4R.v (x : L4R) : Value := l4V x.k x.ty x.co x.re x.sp x.dp x.ns x.sq x.ak x.fl x.wi x.ur x.os x.ds
def zeroR : L4R := ⟨0, 0, 0, 0, 0, 0, false, 0, 0, 0, 0, 0, [], []⟩
/-- What measure answers. -/
def msrV (k : Int) (zs : List Int) : Int :=
  if (zs.length : Int) < fixV k then 20
  else if k = 2 then (if zs.getD 4 0 * 256 + zs.getD 5 0 = zs.length then 0 else 21)
  else if k = 3 then (if (zs.length : Int) < zs.getD 12 0 / 16 * 4 then 20 else if zs.getD 12 0 / 16 * 4 < 20 then 21 else 0)
  else 0
/-- Is the check sum right, or none asked? -/
def rightV (src dst k : Int) (zs : List Int) : Bool :=
  if k = 0 then true else if k = 2 ∧ zs.getD 6 0 * 256 + zs.getD 7 0 = 0 then true else sumV src dst k zs == 65535
def readR (k : Int) (zs : List Int) : L4R :=
  if k = 1 then { zeroR with k := 1, ty := num ((zs.drop 0).take 1), co := num ((zs.drop 1).take 1), re := num ((zs.drop 4).take 4), ds := zs.drop 8 }
  else if k = 2 then { zeroR with k := 2, sp := num ((zs.drop 0).take 2), dp := num ((zs.drop 2).take 2), ns := num ((zs.drop 6).take 2) == 0, ds := zs.drop 8 }
  else if k = 3 then { zeroR with k := 3, sp := num ((zs.drop 0).take 2), dp := num ((zs.drop 2).take 2), sq := num ((zs.drop 4).take 4), ak := num ((zs.drop 8).take 4), fl := num ((zs.drop 12).take 2) % 4096, wi := num ((zs.drop 14).take 2), ur := num ((zs.drop 18).take 2), os := (zs.drop 20).take ((zs.getD 12 0 / 16 * 4).toNat - 20), ds := zs.drop (zs.getD 12 0 / 16 * 4).toNat }
  else { zeroR with ds := zs }
def decE (src dst k : Int) (zs : List Int) : Int := if msrV k zs = 0 then (if rightV src dst k zs then 0 else 30) else msrV k zs
def decR (src dst k : Int) (zs : List Int) : L4R := if msrV k zs = 0 ∧ rightV src dst k zs = true then readR k zs else zeroR

theorem kindV_cases (p : Int) : kindV p = 0 ∨ kindV p = 1 ∨ kindV p = 2 ∨ kindV p = 3 := by
  unfold kindV
  repeat' split
  all_goals omega

theorem measure_any (k : Int) (hk : k = 0 ∨ k = 1 ∨ k = 2 ∨ k = 3) (a : Option Addr) (n cap : Nat) (zs : List Int) (hcap : n ≤ cap) (W : World) (h : BS W a n zs) :
    Calls Try.prog 58 #[.int .i64 k, .slice a n cap] W fun e w' => e = .returned (.int .i64 (msrV k zs)) ∧ w' = W := by
  have hl := h.len
  unfold msrV
  rw [hl]
  by_cases hs : (n : Int) < fixV k
  · rw [if_pos hs]
    exact measure_short W a n cap k hs
  rw [if_neg hs]
  rcases hk with rfl | rfl | rfl | rfl
  · rw [if_neg (by decide), if_neg (by decide)]
    exact measure_opaque W a n cap
  · rw [if_neg (by decide), if_neg (by decide)]
    rw [show fixV 1 = 8 from rfl] at hs
    exact measure_icmp_ok W a n cap (by omega)
  · rw [if_pos rfl]
    rw [show fixV 2 = 8 from rfl] at hs
    obtain ⟨b, off, rfl, _⟩ : ∃ b off, a = some ⟨b, off, none⟩ ∧ True := by
      rcases h.cells with h0 | ⟨b, off, e, _⟩
      · omega
      · exact ⟨b, off, e, trivial⟩
    by_cases he : zs.getD 4 0 * 256 + zs.getD 5 0 = n
    · rw [if_pos he]; exact measure_udp_ok W b off n cap zs h hcap (by omega) he
    · rw [if_neg he]; exact measure_udp_form W b off n cap zs h hcap (by omega) he
  · rw [if_neg (by decide), if_pos rfl]
    rw [show fixV 3 = 20 from rfl] at hs
    obtain ⟨b, off, rfl, _⟩ : ∃ b off, a = some ⟨b, off, none⟩ ∧ True := by
      rcases h.cells with h0 | ⟨b, off, e, _⟩
      · omega
      · exact ⟨b, off, e, trivial⟩
    by_cases h1 : (n : Int) < zs.getD 12 0 / 16 * 4
    · rw [if_pos h1]; exact measure_tcp_big W b off n cap zs h (by omega) h1
    rw [if_neg h1]
    by_cases h2 : zs.getD 12 0 / 16 * 4 < 20
    · rw [if_pos h2]; exact measure_tcp_form W b off n cap zs h (by omega) (by omega) h2
    · rw [if_neg h2]; exact measure_tcp_ok W b off n cap zs h (by omega) (by omega) (by omega)

theorem msr_size (k : Int) (zs : List Int) (h : msrV k zs = 0) : fixV k ≤ zs.length := by
  unfold msrV at h
  split at h
  · omega
  · omega

theorem right_any (src dst k : Int) (hk : k = 0 ∨ k = 1 ∨ k = 2 ∨ k = 3) (hs : 0 ≤ src ∧ src ≤ 4294967295) (ht : 0 ≤ dst ∧ dst ≤ 4294967295) (a : Option Addr) (n cap : Nat) (zs : List Int) (hcap : n ≤ cap) (hm : msrV k zs = 0) (W : World) (h : BS W a n zs) :
    Calls Try.prog 59 #[.int .u32 src, .int .u32 dst, .int .i64 k, .slice a n cap] W fun e w' => e = .returned (.bool (rightV src dst k zs)) ∧ ∃ nq, w' = W.drewN nq := by
  have hl := h.len
  have hz := msr_size k zs hm
  unfold rightV
  rcases hk with rfl | rfl | rfl | rfl
  · rw [if_pos rfl]; exact right_opaque src dst W a n cap
  · rw [if_neg (by decide), if_neg (by omega)]; exact right_sum 1 (by omega) src dst hs ht W a n cap zs h
  · rw [if_neg (by decide)]
    rw [show fixV 2 = 8 from rfl] at hz
    obtain ⟨b, off, rfl, _⟩ : ∃ b off, a = some ⟨b, off, none⟩ ∧ True := by
      rcases h.cells with h0 | ⟨b, off, e, _⟩
      · omega
      · exact ⟨b, off, e, trivial⟩
    by_cases he : zs.getD 6 0 * 256 + zs.getD 7 0 = 0
    · rw [if_pos ⟨rfl, he⟩]; exact right_udp0 src dst W b off n cap zs h hcap (by omega) he
    · rw [if_neg (by omega)]; exact right_udp src dst hs ht W b off n cap zs h hcap (by omega) he
  · rw [if_neg (by decide), if_neg (by omega)]; exact right_sum 3 (by omega) src dst hs ht W a n cap zs h

theorem read_any (k : Int) (hk : k = 0 ∨ k = 1 ∨ k = 2 ∨ k = 3) (a : Option Addr) (n cap : Nat) (zs : List Int) (hcap : n ≤ cap) (ha : ∀ x, a = some x → ∃ b off, x = ⟨b, off, none⟩) (h0 : a = none → cap = 0) (hm : msrV k zs = 0) (W : World) (h : BS W a n zs) :
    Calls Try.prog 60 #[.int .i64 k, .slice a n cap] W fun e w' => e = .returned (readR k zs).v ∧ ∃ A B C D, w' = (((W.alloc A).alloc B).alloc C).alloc D := by
  have hl := h.len
  have hz := msr_size k zs hm
  rcases hk with rfl | rfl | rfl | rfl
  · exact read_opaque W a n cap zs h hcap ha h0
  · rw [show fixV 1 = 8 from rfl] at hz
    obtain ⟨b, off, rfl, _⟩ : ∃ b off, a = some ⟨b, off, none⟩ ∧ True := by
      rcases h.cells with h0 | ⟨b, off, e, _⟩
      · omega
      · exact ⟨b, off, e, trivial⟩
    exact read_icmp W b off n cap zs h hcap (by omega) (by omega)
  · rw [show fixV 2 = 8 from rfl] at hz
    obtain ⟨b, off, rfl, _⟩ : ∃ b off, a = some ⟨b, off, none⟩ ∧ True := by
      rcases h.cells with h0 | ⟨b, off, e, _⟩
      · omega
      · exact ⟨b, off, e, trivial⟩
    exact read_udp W b off n cap zs h hcap (by omega) (by omega)
  · rw [show fixV 3 = 20 from rfl] at hz
    obtain ⟨b, off, rfl, _⟩ : ∃ b off, a = some ⟨b, off, none⟩ ∧ True := by
      rcases h.cells with h0 | ⟨b, off, e, _⟩
      · omega
      · exact ⟨b, off, e, trivial⟩
    have f12 := h.fits 12
    have f13 := h.fits (12 + 1)
    have hU : num ((zs.drop 12).take 2) / 4096 * 4 = (((zs.getD 12 0 / 16 * 4).toNat : Nat) : Int) := by
      rw [num_two zs 12 (by omega)]; omega
    have h20 : 20 ≤ zs.getD 12 0 / 16 * 4 ∧ zs.getD 12 0 / 16 * 4 ≤ zs.length := by
      unfold msrV at hm
      rw [show fixV 3 = 20 from rfl, if_neg (by omega), if_neg (by decide), if_pos rfl] at hm
      split at hm
      · omega
      · split at hm
        · omega
        · omega
    exact read_tcp W b off n cap (zs.getD 12 0 / 16 * 4).toNat zs h hcap (by omega) (by omega) (by omega) hU

theorem decode_any (src dst p : Int) (hs : 0 ≤ src ∧ src ≤ 4294967295) (ht : 0 ≤ dst ∧ dst ≤ 4294967295) (a : Option Addr) (n cap : Nat) (zs : List Int) (hcap : n ≤ cap) (ha : ∀ x, a = some x → ∃ b off, x = ⟨b, off, none⟩) (h0 : a = none → cap = 0) (w : World) (h : BS w a n zs) :
    Calls Try.prog 25 #[.int .u32 src, .int .u32 dst, .int .i64 p, .slice a n cap] w fun e w' => e = .returned (.tuple #[(decR src dst (kindV p) zs).v, .int .i64 (decE src dst (kindV p) zs)]) ∧ Below w.heap.size w w' := by
  have hk := kindV_cases p
  have hM := measure_any (kindV p) hk a n cap zs hcap
  unfold decR decE
  by_cases hm : msrV (kindV p) zs = 0
  · rw [if_pos hm]
    rw [hm] at hM
    have hR := right_any src dst (kindV p) hk hs ht a n cap zs hcap hm
    cases hr : rightV src dst (kindV p) zs
    · rw [hr] at hR
      rw [if_neg (by simp), if_neg (by simp)]
      exact decode_sum src dst p (kindV p) rfl w a n cap zs h hM hR
    · rw [hr] at hR
      rw [if_pos ⟨hm, rfl⟩, if_pos rfl]
      exact decode_ok src dst p (kindV p) rfl w a n cap zs h _ _ _ _ _ _ _ _ _ _ _ _ _ _ hM hR (read_any (kindV p) hk a n cap zs hcap ha h0 hm)
  · rw [if_neg (by rintro ⟨h1, _⟩; exact hm h1), if_neg hm]
    exact decode_bad src dst p (kindV p) _ rfl (by simp [hm]) w a n cap zs h hM
end Go.Proofs.Ytgonckbdkgiddaa
