/- The document's Decode, of any bytes. Condition: a slice of at most 2^47 bytes. -/
import Derived.Test.YtpiokeidcnbmbaaL4rb
import Derived.Test.YtpiokeidcnbmbaaL4rd
import Derived.Test.YtpiokeidcnbmbaaL4re
import Derived.Test.YtpiokeidcnbmbaaL4rf
import Derived.Test.YtpiokeidcnbmbaaL4rg
import Derived.Test.YtpiokeidcnbmbaaL4rh
import Derived.Test.YtpiokeidcnbmbaaL4w
namespace Go.Proofs.Ytpiokeidcnbmbaa
open Go.RowKit

theorem num_one (zs : List Int) (k : Nat) (h : k + 1 ≤ zs.length) : num ((zs.drop k).take 1) = zs.getD k 0 := by
  rw [List.drop_eq_getElem_cons (show k < zs.length by omega)]
  simp only [List.take_succ_cons, List.take_zero, List.getD_eq_getElem?_getD]
  rw [List.getElem?_eq_getElem (show k < zs.length by omega)]
  simp [num]

theorem rdecode_any (src dst p : Int) (hs : 0 ≤ src ∧ src ≤ 4294967295) (ht : 0 ≤ dst ∧ dst ≤ 4294967295) (a : Option Addr) (n cap : Nat) (zs : List Int) (hcap : n ≤ cap) (w : World) (h : BS w a n zs) :
    Calls Try.prog 26 #[.int .u32 src, .int .u32 dst, .int .i64 p, .slice a n cap] w fun e w' => e = .returned (.tuple #[(decR src dst (kindV p) zs).v, .int .i64 (decE src dst (kindV p) zs)]) ∧ Below w.heap.size w w' := by
  have hl := h.len
  unfold decR decE
  by_cases p1 : p = 1
  · subst p1
    rw [show kindV 1 = 1 from rfl]
    by_cases hn : n < 8
    · have hm : msrV 1 zs = 20 := by unfold msrV; rw [if_pos (by rw [hl, show fixV 1 = 8 from rfl]; omega)]
      rw [hm, if_neg (by simp), if_neg (by decide)]
      exact rdec_icmp_short src dst w a n cap hn
    have hm : msrV 1 zs = 0 := by unfold msrV; rw [if_neg (by rw [hl, show fixV 1 = 8 from rfl]; omega), if_neg (by decide), if_neg (by decide)]
    obtain ⟨b, off, rfl⟩ : ∃ b off, a = some ⟨b, off, none⟩ := by
      rcases h.cells with h0 | ⟨b, off, e, _⟩
      · omega
      · exact ⟨b, off, e⟩
    have hr : rightV src dst 1 zs = (sumV src dst 1 zs == 65535) := by unfold rightV; rw [if_neg (by decide), if_neg (by omega)]
    rw [hm, hr, if_pos rfl]
    by_cases hb : sumV src dst 1 zs = 65535
    · rw [if_pos ⟨rfl, by simp [hb]⟩, if_pos (by simp [hb])]
      have hF : fld (wsum zs) = 65535 := by
        have : sumV src dst 1 zs = fld (wsum zs) := by unfold sumV; rw [if_pos rfl]
        rw [← this]; exact hb
      have e0 := num_one zs 0 (by omega)
      have e1 := num_one zs 1 (by omega)
      unfold readR
      rw [if_pos rfl]
      by_cases hc : cap = 8
      · obtain rfl : n = 8 := by omega
        subst hc
        have hz : zs.drop 8 = [] := List.drop_eq_nil_of_le (by omega)
        rw [hz]
        exact rdec_icmp8 src dst w b off zs h _ _ _ e0.symm e1.symm rfl hF
      · exact rdec_icmp src dst w b off n cap zs h hcap (by omega) hc _ _ _ e0.symm e1.symm rfl hF
    · rw [if_neg (by rintro ⟨_, h2⟩; exact hb (by simpa using h2)), if_neg (by simp [hb])]
      exact rdec_icmp_sum src dst w b off n cap zs h (by omega) hb
  by_cases p2 : p = 17
  · subst p2
    rw [show kindV 17 = 2 from rfl]
    by_cases hn : n < 8
    · have hm : msrV 2 zs = 20 := by unfold msrV; rw [if_pos (by rw [hl, show fixV 2 = 8 from rfl]; omega)]
      rw [hm, if_neg (by simp), if_neg (by decide)]
      exact rdec_udp_short src dst w a n cap hn
    obtain ⟨b, off, rfl⟩ : ∃ b off, a = some ⟨b, off, none⟩ := by
      rcases h.cells with h0 | ⟨b, off, e, _⟩
      · omega
      · exact ⟨b, off, e⟩
    have h4 : num ((zs.drop 4).take 2) = zs.getD 4 0 * 256 + zs.getD 5 0 := num_two zs 4 (by omega)
    have h6 : num ((zs.drop 6).take 2) = zs.getD 6 0 * 256 + zs.getD 7 0 := num_two zs 6 (by omega)
    by_cases he : zs.getD 4 0 * 256 + zs.getD 5 0 = n
    · have hm : msrV 2 zs = 0 := by unfold msrV; rw [if_neg (by rw [hl, show fixV 2 = 8 from rfl]; omega), if_pos rfl, hl, if_pos he]
      rw [hm, if_pos rfl]
      have h4n : num ((zs.drop 4).take 2) = n := h4.trans he
      have hR : (readR 2 zs).v = .agg #[.int .i64 2, .int .i64 0, .int .i64 0, .int .u32 0, .int .i64 (num ((zs.drop 0).take 2)), .int .i64 (num ((zs.drop 2).take 2)), .bool (num ((zs.drop 6).take 2) == 0), .int .u32 0, .int .u32 0, .int .i64 0, .int .i64 0, .int .i64 0, .string ⟨#[]⟩, .string (strOfNums (zs.drop 8))] := rfl
      by_cases hz : zs.getD 6 0 * 256 + zs.getD 7 0 = 0
      · have hr : rightV src dst 2 zs = true := by unfold rightV; rw [if_neg (by decide), if_pos ⟨rfl, hz⟩]
        have h60 : num ((zs.drop 6).take 2) = 0 := h6.trans hz
        rw [hr, if_pos ⟨rfl, rfl⟩, if_pos rfl, hR, h60]
        by_cases hc : cap = 8
        · obtain rfl : n = 8 := by omega
          subst hc
          rw [show zs.drop 8 = [] from List.drop_eq_nil_of_le (by omega)]
          exact rdec_udp08 src dst w b off zs h _ _ rfl rfl h4n h60
        · exact rdec_udp0 src dst w b off n cap zs h hcap (by omega) hc _ _ rfl rfl h4n h60
      · have hr : rightV src dst 2 zs = (sumV src dst 2 zs == 65535) := by unfold rightV; rw [if_neg (by decide), if_neg (by rintro ⟨_, h2⟩; exact hz h2)]
        rw [hr]
        by_cases hb : sumV src dst 2 zs = 65535
        · rw [if_pos ⟨rfl, by simp [hb]⟩, if_pos (by simp [hb]), hR]
          have hz1 : (num ((zs.drop 6).take 2) == 0) = false := by rw [h6]; simp only [beq_eq_false_iff_ne, ne_eq]; exact hz
          rw [hz1]
          have hA : fld (psd src dst 17 n + fld (wsum zs)) = 65535 := by
            have : sumV src dst 2 zs = fld (psd src dst 17 n + fld (wsum zs)) := by unfold sumV; rw [if_neg (by decide), show protoN 2 = 17 from rfl, hl]
            rw [← this]; exact hb
          by_cases hc : cap = 8
          · obtain rfl : n = 8 := by omega
            subst hc
            rw [show zs.drop 8 = [] from List.drop_eq_nil_of_le (by omega)]
            exact rdec_udp8 src dst hs ht w b off zs h _ _ rfl rfl h4n _ rfl hz1 _ _ rfl rfl hA
          · exact rdec_udp src dst hs ht w b off n cap zs h hcap (by omega) hc _ _ rfl rfl h4n _ rfl hz1 _ _ rfl rfl hA
        · rw [if_neg (by rintro ⟨_, h2⟩; exact hb (by simpa using h2)), if_neg (by simp [hb])]
          exact rdec_udp_sum src dst hs ht w b off n cap zs h hcap (by omega) h4n (by rw [h6]; exact hz) hb
    · have hm : msrV 2 zs = 21 := by unfold msrV; rw [if_neg (by rw [hl, show fixV 2 = 8 from rfl]; omega), if_pos rfl, hl, if_neg he]
      rw [hm, if_neg (by simp), if_neg (by decide)]
      exact rdec_udp_form src dst w b off n cap zs h hcap (by omega) (by rw [h4]; exact he)
  by_cases p3 : p = 6
  · subst p3
    rw [show kindV 6 = 3 from rfl]
    by_cases hn : n < 20
    · have hm : msrV 3 zs = 20 := by unfold msrV; rw [if_pos (by rw [hl, show fixV 3 = 20 from rfl]; omega)]
      rw [hm, if_neg (by simp), if_neg (by decide)]
      exact rdec_tcp_short src dst w a n cap hn
    obtain ⟨b, off, rfl⟩ : ∃ b off, a = some ⟨b, off, none⟩ := by
      rcases h.cells with h0 | ⟨b, off, e, _⟩
      · omega
      · exact ⟨b, off, e⟩
    have f12 := h.fits 12
    by_cases h1 : (n : Int) < zs.getD 12 0 / 16 * 4
    · have hm : msrV 3 zs = 20 := by unfold msrV; rw [if_neg (by rw [hl, show fixV 3 = 20 from rfl]; omega), if_neg (by decide), if_pos rfl, hl, if_pos h1]
      rw [hm, if_neg (by simp), if_neg (by decide)]
      exact rdec_tcp_big src dst w b off n cap zs h (by omega) (by omega) h1
    by_cases h2 : zs.getD 12 0 / 16 * 4 < 20
    · have hm : msrV 3 zs = 21 := by unfold msrV; rw [if_neg (by rw [hl, show fixV 3 = 20 from rfl]; omega), if_neg (by decide), if_pos rfl, hl, if_neg h1, if_pos h2]
      rw [hm, if_neg (by simp), if_neg (by decide)]
      exact rdec_tcp_form src dst w b off n cap zs h (by omega) h2
    have hm : msrV 3 zs = 0 := by unfold msrV; rw [if_neg (by rw [hl, show fixV 3 = 20 from rfl]; omega), if_neg (by decide), if_pos rfl, hl, if_neg h1, if_neg h2]
    have hr : rightV src dst 3 zs = (sumV src dst 3 zs == 65535) := by unfold rightV; rw [if_neg (by decide), if_neg (by omega)]
    rw [hm, hr, if_pos rfl]
    by_cases hb : sumV src dst 3 zs = 65535
    · rw [if_pos ⟨rfl, by simp [hb]⟩, if_pos (by simp [hb])]
      have hA : fld (psd src dst 6 n + fld (wsum zs)) = 65535 := by
        have : sumV src dst 3 zs = fld (psd src dst 6 n + fld (wsum zs)) := by unfold sumV; rw [if_neg (by decide), show protoN 3 = 6 from rfl, hl]
        rw [← this]; exact hb
      obtain ⟨U, hU⟩ : ∃ U : Nat, (zs.getD 12 0 / 16 * 4).toNat = U := ⟨_, rfl⟩
      have hTU : 4 * (zs.getD 12 0 / 16) = (U : Int) := by omega
      have hR : (readR 3 zs).v = .agg #[.int .i64 3, .int .i64 0, .int .i64 0, .int .u32 0, .int .i64 (num ((zs.drop 0).take 2)), .int .i64 (num ((zs.drop 2).take 2)), .bool false, .int .u32 (num ((zs.drop 4).take 4)), .int .u32 (num ((zs.drop 8).take 4)), .int .i64 (num ((zs.drop 12).take 2) % 4096), .int .i64 (num ((zs.drop 14).take 2)), .int .i64 (num ((zs.drop 18).take 2)), .string (strOfNums ((zs.drop 20).take (U - 20))), .string (strOfNums (zs.drop U))] := by
        rw [← hU]; rfl
      rw [hR]
      by_cases hc1 : cap = 20
      · obtain rfl : n = 20 := by omega
        obtain rfl : U = 20 := by omega
        subst hc1
        rw [show zs.drop 20 = [] from List.drop_eq_nil_of_le (by omega)]
        exact rdec_tcp20 src dst hs ht w b off zs h _ _ _ _ _ _ _ _ _ _ rfl hTU rfl rfl rfl rfl rfl rfl rfl rfl rfl hA
      by_cases hc2 : cap = U
      · obtain rfl : n = U := by omega
        subst hc2
        rw [show zs.drop cap = [] from List.drop_eq_nil_of_le (by omega)]
        exact rdec_tcpU src dst hs ht w b off cap zs h hc1 (by omega) _ _ _ _ _ _ _ _ _ _ rfl hTU rfl rfl rfl rfl rfl rfl rfl rfl rfl hA
      · exact rdec_tcp src dst hs ht w b off n cap U zs h hcap (by omega) hc1 hc2 (by omega) _ _ _ _ _ _ _ _ _ _ rfl hTU rfl rfl rfl rfl rfl rfl rfl rfl rfl hA
    · rw [if_neg (by rintro ⟨_, h2⟩; exact hb (by simpa using h2)), if_neg (by simp [hb])]
      exact rdec_tcp_sum src dst hs ht w b off n cap zs h (by omega) (by omega) (by omega) hb
  · have hk : kindV p = 0 := by unfold kindV; rw [if_neg p1, if_neg p2, if_neg p3]
    rw [hk]
    have hm : msrV 0 zs = 0 := by unfold msrV; rw [show fixV 0 = 0 from rfl, if_neg (by omega), if_neg (by decide), if_neg (by decide)]
    have hr : rightV src dst 0 zs = true := by unfold rightV; rw [if_pos rfl]
    rw [hm, hr, if_pos ⟨rfl, rfl⟩, if_pos rfl, if_pos rfl]
    exact rdec_opaque src dst p (by simp [p1]) (by simp [p2]) (by simp [p3]) w a n cap zs h
end Go.Proofs.Ytpiokeidcnbmbaa
