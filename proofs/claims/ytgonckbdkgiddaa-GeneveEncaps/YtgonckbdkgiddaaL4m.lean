/- Check sums and fields of packets that were encoded: plain facts. No condition. -/
import Derived.Test.YtgonckbdkgiddaaL4n
namespace Go.Proofs.Ytgonckbdkgiddaa
open Go.RowKit

theorem fld_mod (t : Int) (_h : 0 ≤ t) : fld t % 65535 = t % 65535 := by
  unfold fld; split <;> omega
theorem fld_full (t : Int) (h : 0 < t) : fld t = 65535 ↔ t % 65535 = 0 := by
  unfold fld; rw [if_neg (by omega)]; omega
theorem fld_pos (t : Int) (h : 0 < t) : 0 < fld t := by
  unfold fld; rw [if_neg (by omega)]; omega

/-- What is added to the bytes' own sum. -/
def extra (src dst k : Int) (n : Int) : Int := if k = 1 then 0 else psd src dst (protoN k) n
theorem extra_nn (src dst k n : Int) (h1 : 0 ≤ src) (h2 : 0 ≤ dst) : 0 ≤ extra src dst k n := by
  unfold extra; split
  · omega
  · exact (psd_bd src dst _ n h1 h2).1
theorem sumV_extra (src dst k : Int) (zs : List Int) (hz : 0 ≤ wsum zs) (h1 : 0 ≤ src) (h2 : 0 ≤ dst) : sumV src dst k zs = fld (extra src dst k zs.length + wsum zs) := by
  unfold sumV extra
  split
  · rw [Int.zero_add]
  · have := fld_add (wsum zs) (psd src dst (protoN k) zs.length) hz (psd_bd src dst _ _ h1 h2).1
    rw [Int.add_comm, this, Int.add_comm]

theorem chkC_bd (src dst k : Int) (B : List Int) (h1 : 0 ≤ src) (h2 : 0 ≤ dst) (hB : ∀ i, 0 ≤ B.getD i 0 ∧ B.getD i 0 ≤ 255) : 0 ≤ chkC src dst k B ∧ chkC src dst k B ≤ 65535 := by
  have := sumV_bd src dst k B h1 h2 hB
  unfold chkC; split <;> omega
theorem chkC_udp (src dst : Int) (B : List Int) (h1 : 0 ≤ src) (h2 : 0 ≤ dst) (hB : ∀ i, 0 ≤ B.getD i 0 ∧ B.getD i 0 ≤ 255) : 0 < chkC src dst 2 B := by
  have := sumV_bd src dst 2 B h1 h2 hB
  unfold chkC; split
  · omega
  · rename_i h
    have : ¬ sumV src dst 2 B = 65535 := fun e => h ⟨rfl, e⟩
    omega

theorem setC_len (src dst k : Int) (B : List Int) : (setC src dst k B).length = B.length := by simp [setC]
theorem wsum_setC (src dst k : Int) (B : List Int) (h1 : chkAt k + 1 < B.length) (h2 : B.getD (chkAt k) 0 = 0) (h3 : B.getD (chkAt k + 1) 0 = 0) : wsum (setC src dst k B) = wsum B + chkC src dst k B := by
  obtain ⟨j, hj⟩ : ∃ j, chkAt k = 2 * j := by
    unfold chkAt; split
    · exact ⟨1, rfl⟩
    · split
      · exact ⟨3, rfl⟩
      · exact ⟨8, rfl⟩
  unfold setC
  rw [hj] at h1 h2 h3 ⊢
  rw [wsum_set j B _ _ h1, h2, h3]
  omega

/-- With its check sum in, a packet's sum is one that is right, of these addresses; and of others where they add up to the same. -/
theorem sum_setC (src dst k o : Int) (B : List Int) (s1 : 0 ≤ src) (d1 : 0 ≤ dst) (o1 : 0 ≤ o) (hB : ∀ i, 0 ≤ B.getD i 0 ∧ B.getD i 0 ≤ 255) (h1 : chkAt k + 1 < B.length) (h2 : B.getD (chkAt k) 0 = 0) (h3 : B.getD (chkAt k + 1) 0 = 0) (hp : 0 < wsum B ∨ 0 < chkC src dst k B ∨ 0 < extra o dst k B.length) :
    sumV o dst k (setC src dst k B) = 65535 ↔ extra o dst k B.length % 65535 = extra src dst k B.length % 65535 := by
  have hw := wsum_bd hB
  have hc := chkC_bd src dst k B s1 d1 hB
  have e1 := extra_nn src dst k B.length s1 d1
  have e2 := extra_nn o dst k B.length o1 d1
  have hs := wsum_setC src dst k B h1 h2 h3
  rw [sumV_extra o dst k _ (by omega) o1 d1, setC_len, hs, fld_full _ (by omega)]
  have hS := sumV_extra src dst k B hw s1 d1
  have hm := fld_mod (extra src dst k B.length + wsum B) (by omega)
  rw [← hS] at hm
  have hC : (chkC src dst k B + sumV src dst k B) % 65535 = 0 := by
    unfold chkC; split
    · rename_i h; rw [h.2]; omega
    · omega
  omega

theorem psd_mod (src dst p n : Int) (h1 : 0 ≤ src) (h2 : 0 ≤ dst) : psd src dst p n % 65535 = (src / 65536 + src % 65536 + (dst / 65536 + dst % 65536) + p % 256 + n % 65536) % 65535 := by
  unfold psd
  exact fld_mod _ (by omega)
theorem extra_same (src dst o k n : Int) (hk : k = 2 ∨ k = 3) (h1 : 0 ≤ src) (h2 : 0 ≤ dst) (h3 : 0 ≤ o) : extra o dst k n % 65535 = extra src dst k n % 65535 ↔ psd src dst 0 0 % 65535 = psd o dst 0 0 % 65535 := by
  unfold extra
  rw [if_neg (by omega), if_neg (by omega), psd_mod _ _ _ _ h3 h2, psd_mod _ _ _ _ h1 h2, psd_mod _ _ _ _ h1 h2, psd_mod _ _ _ _ h3 h2]
  omega
end Go.Proofs.Ytgonckbdkgiddaa
