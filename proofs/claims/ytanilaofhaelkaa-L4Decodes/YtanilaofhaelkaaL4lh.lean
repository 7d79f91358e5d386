/- The law L4Decodes, walked. Condition: a slice of at most 2^47 - 4096 bytes. -/
import Derived.Test.YtanilaofhaelkaaL4lg
namespace Go.Proofs.Ytanilaofhaelkaa
open Go.RowKit
theorem again_any (src dst p : Int) (hs : 0 ≤ src) (ht : 0 ≤ dst) (zs : List Int) (hf : ∀ i, 0 ≤ zs.getD i 0 ∧ zs.getD i 0 ≤ 255) (hl : zs.length ≤ 65515) (hE : decE src dst (kindV p) zs = 0) : Again src dst zs (decR src dst (kindV p) zs) := by
  have hm : msrV (kindV p) zs = 0 := by
    unfold decE at hE
    by_cases h : msrV (kindV p) zs = 0
    · exact h
    · rw [if_neg h] at hE; exact hE
  have hr : rightV src dst (kindV p) zs = true := by
    unfold decE at hE
    rw [if_pos hm] at hE
    cases h : rightV src dst (kindV p) zs
    · rw [h] at hE; exact absurd hE (by decide)
    · rfl
  have hz := msr_size _ zs hm
  have hR : decR src dst (kindV p) zs = readR (kindV p) zs := by unfold decR; rw [if_pos ⟨hm, hr⟩]
  rw [hR]
  rcases kindV_cases p with e | e | e | e
  · rw [e]; exact again_opaque src dst zs hf hl
  · rw [e] at hr hz ⊢
    rw [show fixV 1 = 8 from rfl] at hz
    unfold rightV at hr
    rw [if_neg (by decide), if_neg (by omega)] at hr
    exact again_icmp src dst hs ht zs hf (by omega) hl (by simpa using hr)
  · rw [e] at hr hm hz ⊢
    rw [show fixV 2 = 8 from rfl] at hz
    unfold msrV at hm
    rw [show fixV 2 = 8 from rfl, if_neg (by omega), if_pos rfl] at hm
    have hlen : zs.getD 4 0 * 256 + zs.getD 5 0 = zs.length := by
      by_cases h : zs.getD 4 0 * 256 + zs.getD 5 0 = zs.length
      · exact h
      · rw [if_neg h] at hm; exact absurd hm (by decide)
    refine again_udp src dst hs ht zs hf (by omega) hl hlen ?_
    by_cases h : zs.getD 6 0 * 256 + zs.getD 7 0 = 0
    · exact .inl h
    · right
      unfold rightV at hr
      rw [if_neg (by decide), if_neg (by rintro ⟨_, h2⟩; exact h h2)] at hr
      simpa using hr
  · rw [e] at hr hm hz ⊢
    rw [show fixV 3 = 20 from rfl] at hz
    unfold msrV at hm
    rw [show fixV 3 = 20 from rfl, if_neg (by omega), if_neg (by decide), if_pos rfl] at hm
    have h5 : 20 ≤ zs.getD 12 0 / 16 * 4 ∧ zs.getD 12 0 / 16 * 4 ≤ zs.length := by
      split at hm
      · omega
      · split at hm
        · omega
        · omega
    unfold rightV at hr
    rw [if_neg (by decide), if_neg (by omega)] at hr
    exact again_tcp src dst hs ht zs hf (by omega) hl h5.1 h5.2 (by simpa using hr)
theorem decodes_any (src dst p : Int) (hs : 0 ≤ src ∧ src ≤ 4294967295) (ht : 0 ≤ dst ∧ dst ≤ 4294967295) (w : World) (a : Option Addr) (n cap : Nat) (zs : List Int) (h : BS w a n zs) (hcap : n ≤ cap) (hm : n ≤ 140737488351232) :
    Calls Try.prog 3 #[.int .u32 src, .int .u32 dst, .int .i64 p, .slice a n cap] w fun e w' => e = .returned (.bool true) ∧ Below w.heap.size w w' := by
  have hA := again_any src dst p hs.1 ht.1 zs h.fits
  obtain ⟨x, hx⟩ : ∃ x, decR src dst (kindV p) zs = x := ⟨_, rfl⟩
  rw [hx] at hA
  obtain ⟨k, ty, co, re, sp, dp, ns, sq, ak, fl, wi, ur, os, ds⟩ := x
  by_cases hE : decE src dst (kindV p) zs = 0
  · by_cases hn : n ≤ 65515
    · exact decodes_yes src dst p hs ht w a n cap zs h hcap hm hn k ty co re sp dp ns sq ak fl wi ur os ds hx hE (hA (by rw [h.len]; exact hn) hE)
    · exact decodes_long src dst p hs ht w a n cap zs h hcap hm (by omega) k ty co re sp dp ns sq ak fl wi ur os ds hx hE
  · exact decodes_no src dst p hs ht w a n cap zs h hcap hm _ (by simp [hE]) k ty co re sp dp ns sq ak fl wi ur os ds hx rfl
end Go.Proofs.Ytanilaofhaelkaa
