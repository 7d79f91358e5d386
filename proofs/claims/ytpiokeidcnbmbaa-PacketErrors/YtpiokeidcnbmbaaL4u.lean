/- Decode of what Encode made: plain facts. No condition. -/
import Derived.Test.YtpiokeidcnbmbaaL4q
namespace Go.Proofs.Ytpiokeidcnbmbaa
open Go.RowKit

/-- The bytes of a packet with a check sum: its head's zeros there, its reading. -/
structure L4R.Shape (x : L4R) (src dst : Int) : Prop where
  at0 : x.body.getD (chkAt x.k) 0 = 0
  at1 : x.body.getD (chkAt x.k + 1) 0 = 0
  len : chkAt x.k + 1 < x.body.length
  msr : msrV x.k (x.enc src dst) = 0
  back : readR x.k (x.enc src dst) = x

theorem L4R.shape {x : L4R} (hf : x.Fine) (hok : x.ok = true) (hk : x.k ≠ 0) (src dst : Int) (hs : 0 ≤ src) (ht : 0 ≤ dst) : x.Shape src dst := by
  have o := L4R.okOf hok
  have hB := L4R.body_fits hf
  obtain ⟨k, ty, co, re, sp, dp, ns, sq, ak, fl, wi, ur, os, ds⟩ := x
  have hall : fixV k + (os.length : Int) + ds.length ≤ 65515 := o.all
  rcases o.kind with h | h | h | h
  · exact absurd h.1 hk
  · obtain ⟨h1, h2, h3, h4, h5, h6, h7, h8, h9, h10⟩ := h
    simp only at h1 h2 h3 h4 h5 h6 h7 h8 h9 h10
    subst h1 h2 h3 h4 h5 h6 h7 h8 h9 h10
    have hb := body_icmp ty co re 0 0 false 0 0 0 0 0 ds
    have he : (L4R.mk 1 ty co re 0 0 false 0 0 0 0 0 [] ds).enc src dst = icmpL ty co re (chkC src dst 1 (icmpL ty co re 0 ds)) ds := by
      unfold L4R.enc
      rw [if_neg (by simp), hb]
      exact setC_icmp _ _ _ _ _ _
    refine ⟨by rw [hb]; rfl, by rw [hb]; rfl, by rw [hb]; simp [icmpL, chkAt], ?_, ?_⟩
    · rw [he]; exact msr_icmpL _ _ _ _ _
    · rw [he]; exact read_icmpL ty co re _ ds o.ty o.co hf.re
  · obtain ⟨h1, h2, h3, h4, h5, h6, h7, h8, h9, h10⟩ := h
    simp only at h1 h2 h3 h4 h5 h6 h7 h8 h9 h10
    subst h1 h2 h3 h4 h5 h6 h7 h8 h9 h10
    have hb := body_udp 0 0 0 sp dp ns 0 0 0 0 0 ds
    have hd : ds.length ≤ 65507 := by
      rw [show fixV 2 = 8 from rfl] at hall
      simp at hall; omega
    have hc := chkC_udp src dst _ hs ht hB
    refine ⟨by rw [hb]; rfl, by rw [hb]; rfl, by rw [hb]; simp [udpL, chkAt], ?_, ?_⟩
    · unfold L4R.enc
      split
      · rw [hb]; exact msr_udpL sp dp 0 ds hd
      · rw [hb, setC_udp]; exact msr_udpL sp dp _ ds hd
    · unfold L4R.enc
      cases ns
      · rw [hb] at hc
        rw [if_neg (by simp), hb, setC_udp, read_udpL sp dp _ _ ds o.sp o.dp]
        have : (chkC src dst 2 (udpL sp dp (8 + (ds.length : Int)) 0 ds) == 0) = false := by simp; omega
        rw [this]
      · rw [if_pos (.inr rfl), hb, read_udpL sp dp _ _ ds o.sp o.dp]
        rfl
  · obtain ⟨h1, h2, h3, h4, h5⟩ := h
    simp only at h1 h2 h3 h4 h5
    subst h1 h2 h3 h4 h5
    have hb := body_tcp 0 0 0 sp dp false sq ak fl wi ur os ds
    have he : (L4R.mk 3 0 0 0 sp dp false sq ak fl wi ur os ds).enc src dst = tcpL sp dp sq ak ((20 + (os.length : Int)) / 4 * 4096 + fl) wi ur (chkC src dst 3 (tcpL sp dp sq ak ((20 + (os.length : Int)) / 4 * 4096 + fl) wi ur 0 os ds)) os ds := by
      unfold L4R.enc
      rw [if_neg (by simp), hb]
      exact setC_tcp _ _ _ _ _ _ _ _ _ _ _
    refine ⟨by rw [hb]; rfl, by rw [hb]; rfl, by rw [hb]; simp [tcpL, chkAt], ?_, ?_⟩
    · rw [he]; exact msr_tcpL sp dp sq ak fl wi ur _ os ds o.fl o.opts o.four
    · rw [he]; exact read_tcpL sp dp sq ak fl wi ur _ os ds o.sp o.dp hf.sq hf.ak o.fl o.wi o.ur o.opts o.four

theorem extra_pos (o dst n : Int) (ho : 0 ≤ o) (hd : 0 ≤ dst) (_h1 : 0 ≤ n) (_h2 : n ≤ 65535) : 0 < extra o dst 3 n := by
  unfold extra
  rw [if_neg (by decide)]
  unfold psd
  refine fld_pos _ ?_
  rw [show protoN 3 = 6 from rfl]
  omega

/-- A packet whose check sum is asked is right of these addresses, and of others where they add up to the same. -/
theorem L4R.right {x : L4R} (hf : x.Fine) (hok : x.ok = true) (hk : x.k ≠ 0) (hn : x.ns = false) (src dst o : Int) (hs : 0 ≤ src) (ht : 0 ≤ dst) (ho : 0 ≤ o) :
    rightV o dst x.k (x.enc src dst) = true ↔ extra o dst x.k x.body.length % 65535 = extra src dst x.k x.body.length % 65535 := by
  have hB := L4R.body_fits hf
  have s := L4R.shape hf hok hk src dst hs ht
  have q := L4R.okOf hok
  have he : x.enc src dst = setC src dst x.k x.body := by
    unfold L4R.enc; rw [if_neg (by rw [hn]; simp [hk])]
  have hp : 0 < wsum x.body ∨ 0 < chkC src dst x.k x.body ∨ 0 < extra o dst x.k x.body.length := by
    rcases q.kind with h | h | h | h
    · exact absurd h.1 hk
    · have hw := wsum_bd hB
      rcases (by omega : 0 < wsum x.body ∨ wsum x.body = 0) with h0 | h0
      · exact .inl h0
      · right; left
        unfold chkC
        rw [h.1, if_neg (by omega)]
        unfold sumV
        rw [if_pos rfl, h0]
        decide
    · right; left
      have := chkC_udp src dst x.body hs ht hB
      rw [h.1]; exact this
    · right; right
      have hl := x.body_len
      have ha := q.all
      rw [h.1]
      exact extra_pos o dst _ ho ht (by omega) (by omega)
  have hm := sum_setC src dst x.k o x.body hs ht ho hB s.len s.at0 s.at1 hp
  have hz : x.k = 2 → ¬ ((x.enc src dst).getD 6 0 * 256 + (x.enc src dst).getD 7 0 = 0) := by
    intro h2
    have hc := chkC_udp src dst x.body hs ht hB
    have hl := s.len
    rw [he, h2]
    rw [h2] at hl
    unfold setC
    rw [show chkAt 2 = 6 from rfl] at hl ⊢
    have g7 : ((x.body.set 6 (chkC src dst 2 x.body / 256)).set (6 + 1) (chkC src dst 2 x.body % 256)).getD 7 0 = chkC src dst 2 x.body % 256 := by
      simp [List.getD_eq_getElem?_getD, hl]
    have g6 : ((x.body.set 6 (chkC src dst 2 x.body / 256)).set (6 + 1) (chkC src dst 2 x.body % 256)).getD 6 0 = chkC src dst 2 x.body / 256 := by
      simp [List.getD_eq_getElem?_getD, (by omega : 6 < x.body.length)]
    rw [g6, g7]
    omega
  unfold rightV
  rw [if_neg hk, if_neg (by rintro ⟨h2, h3⟩; exact hz h2 h3), he]
  rw [beq_iff_eq]
  exact hm

theorem dec_own {x : L4R} (hf : x.Fine) (hok : x.ok = true) (src dst : Int) (hs : 0 ≤ src) (ht : 0 ≤ dst) : decE src dst x.k (x.enc src dst) = 0 ∧ decR src dst x.k (x.enc src dst) = x := by
  by_cases hk : x.k = 0
  · obtain ⟨k, ty, co, re, sp, dp, ns, sq, ak, fl, wi, ur, os, ds⟩ := x
    rcases (L4R.okOf hok).kind with h | h | h | h
    · obtain ⟨h1, h2, h3, h4, h5, h6, h7, h8, h9, h10, h11, h12, h13⟩ := h
      simp only at h1 h2 h3 h4 h5 h6 h7 h8 h9 h10 h11 h12 h13
      subst h1 h2 h3 h4 h5 h6 h7 h8 h9 h10 h11 h12 h13
      have he : (L4R.mk 0 0 0 0 0 0 false 0 0 0 0 0 [] ds).enc src dst = ds := by
        unfold L4R.enc; rw [if_pos (.inl rfl)]; rfl
      have hm : msrV 0 ds = 0 := by
        unfold msrV
        rw [show fixV 0 = 0 from rfl, if_neg (by omega), if_neg (by decide), if_neg (by decide)]
      have hr : rightV src dst 0 ds = true := by unfold rightV; rw [if_pos rfl]
      rw [he]
      unfold decE decR
      rw [if_pos hm, hr, if_pos rfl, if_pos ⟨hm, rfl⟩]
      exact ⟨rfl, rfl⟩
    · exact absurd (hk.symm.trans h.1) (by decide)
    · exact absurd (hk.symm.trans h.1) (by decide)
    · exact absurd (hk.symm.trans h.1) (by decide)
  · have s := L4R.shape hf hok hk src dst hs ht
    have hr : rightV src dst x.k (x.enc src dst) = true := by
      cases hn : x.ns
      · exact (L4R.right hf hok hk hn src dst src hs ht hs).2 rfl
      · rcases (L4R.okOf hok).kind with h | h | h | h
        · exact absurd h.1 hk
        · rw [hn] at h; exact absurd h.2.2.2.1 (by decide)
        · unfold rightV
          rw [if_neg hk, if_pos]
          refine ⟨h.1, ?_⟩
          have he : x.enc src dst = x.body := by unfold L4R.enc; rw [if_pos (.inr hn)]
          have a0 := s.at0
          have a1 := s.at1
          rw [h.1, show chkAt 2 = 6 from rfl] at a0 a1
          rw [he, a0]
          have a1' : x.body.getD 7 0 = 0 := a1
          rw [a1']; rfl
        · rw [hn] at h; exact absurd h.2.2.2.2 (by decide)
    unfold decE decR
    rw [if_pos s.msr, hr, if_pos rfl, if_pos ⟨s.msr, rfl⟩]
    exact ⟨rfl, s.back⟩

theorem dec_other {x : L4R} (hf : x.Fine) (hok : x.ok = true) (hk : x.k = 2 ∨ x.k = 3) (src dst o : Int) (hs : 0 ≤ src) (ht : 0 ≤ dst) (ho : 0 ≤ o) :
    if x.ns = true ∨ psd src dst 0 0 % 65535 = psd o dst 0 0 % 65535 then decE o dst x.k (x.enc src dst) = 0 ∧ decR o dst x.k (x.enc src dst) = x else decE o dst x.k (x.enc src dst) = 30 ∧ decR o dst x.k (x.enc src dst) = zeroR := by
  have hk0 : x.k ≠ 0 := by omega
  have s := L4R.shape hf hok hk0 src dst hs ht
  cases hn : x.ns
  · have hr := L4R.right hf hok hk0 hn src dst o hs ht ho
    rw [extra_same src dst o x.k _ hk hs ht ho] at hr
    by_cases hp : psd src dst 0 0 % 65535 = psd o dst 0 0 % 65535
    · rw [if_pos (.inr hp)]
      have hr2 := hr.2 hp
      unfold decE decR
      rw [if_pos s.msr, hr2, if_pos rfl, if_pos ⟨s.msr, rfl⟩]
      exact ⟨rfl, s.back⟩
    · rw [if_neg (by simp [hp])]
      have hr2 : rightV o dst x.k (x.enc src dst) = false := by
        cases e : rightV o dst x.k (x.enc src dst)
        · rfl
        · exact absurd (hr.1 e) hp
      unfold decE decR
      rw [if_pos s.msr, hr2, if_neg (by simp), if_neg (by simp)]
      exact ⟨rfl, rfl⟩
  · rw [if_pos (.inl rfl)]
    rcases (L4R.okOf hok).kind with h | h | h | h
    · exact absurd h.1 hk0
    · rw [hn] at h; exact absurd h.2.2.2.1 (by decide)
    · have hr : rightV o dst x.k (x.enc src dst) = true := by
        unfold rightV
        rw [if_neg hk0, if_pos]
        refine ⟨h.1, ?_⟩
        have he : x.enc src dst = x.body := by unfold L4R.enc; rw [if_pos (.inr hn)]
        have a0 := s.at0
        have a1 := s.at1
        rw [h.1, show chkAt 2 = 6 from rfl] at a0 a1
        rw [he, a0]
        have a1' : x.body.getD 7 0 = 0 := a1
        rw [a1']; rfl
      unfold decE decR
      rw [if_pos s.msr, hr, if_pos rfl, if_pos ⟨s.msr, rfl⟩]
      exact ⟨rfl, s.back⟩
    · rw [hn] at h; exact absurd h.2.2.2.2 (by decide)
end Go.Proofs.Ytpiokeidcnbmbaa
