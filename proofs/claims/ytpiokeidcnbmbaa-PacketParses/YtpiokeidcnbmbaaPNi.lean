/- Parts of the proof, in one text. -/
import Derived.Test.YtpiokeidcnbmbaaPLd
import Derived.Test.YtpiokeidcnbmbaaL4rk
namespace Go.Proofs.Ytpiokeidcnbmbaa
open Go.RowKit
set_option maxRecDepth 20000
theorem hb_alike (tos id fr ttl pr src dst : Int) (os : List Int) (data c c' : Int) (i : Nat) : (Ip.hb tos id fr ttl pr src dst os data c).getD i 0 = (Ip.hb tos id fr ttl pr src dst os data c').getD i 0 ∨ i / 2 = 5 := by
  by_cases h : i / 2 = 5
  · exact .inr h
  · left
    rw [← Ip.hb_set _ _ _ _ _ _ _ _ _ c, ← Ip.hb_set _ _ _ _ _ _ _ _ _ c']
    rw [getD_ne _ _ _ _ (by omega), getD_ne _ _ _ _ (by omega), getD_ne _ _ _ _ (by omega), getD_ne _ _ _ _ (by omega)]
theorem getD_out (xs : List Int) (i : Nat) (h : xs.length ≤ i) : xs.getD i 0 = 0 := by
  rw [List.getD_eq_getElem?_getD, List.getElem?_eq_none h]; rfl
theorem getD_app (xs ys : List Int) (i : Nat) : (xs ++ ys).getD i 0 = if i < xs.length then xs.getD i 0 else ys.getD (i - xs.length) 0 := by
  simp only [List.getD_eq_getElem?_getD]
  split
  · rename_i h
    rw [List.getElem?_append_left h]
  · rename_i h
    rw [List.getElem?_append_right (by omega)]
theorem alike_app {P Q : Nat} {X Z : List Int} (H R : List Int) (hl : X.length = Z.length) (h : ∀ i, X.getD i 0 = Z.getD i 0 ∨ (H.length + i) / 2 = P ∨ (H.length + i) / 2 = Q) : Alike P Q (H ++ X ++ R) (H ++ Z ++ R) := by
  refine ⟨by simp [hl], fun i => ?_⟩
  rw [getD_app (H ++ X) R, getD_app (H ++ Z) R, getD_app H X, getD_app H Z]
  simp only [List.length_append, hl]
  split
  · split
    · exact .inl rfl
    · rename_i h1 h2
      have := h (i - H.length)
      rw [show H.length + (i - H.length) = i by omega] at this
      exact this
  · exact .inl rfl
theorem good_ip {zs : List Int} (hz : ∀ i, 0 ≤ zs.getD i 0 ∧ zs.getD i 0 ≤ 255) {d s : Int} {tg : Bool} {tag : Int} {A : Nat} (hf : Eth.fitsB d s tg tag 2048 = true) (hd : 0 ≤ d) (hs : 0 ≤ s) (hb : Eth.headBytes d s tg tag 2048 = zs.take A) (hA : A ≤ zs.length) (hl : zs.length ≤ 9018) (e0 : ipE (zs.drop A) = 0) (l : L4R)
    (hag : Again (num (((zs.drop A).drop 12).take 4)) (num (((zs.drop A).drop 16).take 4)) (ipD (zs.drop A) (ipM (zs.drop A))) l)
    (hk : l.k = if wholeB (num (((zs.drop A).drop 6).take 2)) = true then kindV (num (((zs.drop A).drop 9).take 1)) else 0) : Good zs (ipR d s tg tag (zs.drop A) (ipM (zs.drop A)) l) := by
  have z := zeroPkR_fine
  have fb := fitsB_bd hf
  have hyz := Eth.fits_drop hz A
  have hyl : (zs.drop A).length = zs.length - A := List.length_drop ..
  have hh := headBytes_len d s tg tag 2048
  rw [hb, List.length_take, Nat.min_eq_left hA] at hh
  have hev : A % 2 = 0 := by rw [hh]; split <;> rfl
  have hsplit : zs = zs.take A ++ zs.drop A := (List.take_append_drop A zs).symm
  generalize hys : zs.drop A = ys at *
  rcases ip_cases ys hyz with ⟨e9, _⟩ | ⟨_, hmk, hT, hmT, hTl, h20⟩
  · exact absurd e0 e9
  obtain ⟨tos, id, fr, ttl, pr, src, dst, os, hF, hHF, bs, bd, fo, hm, htk⟩ := Ip.ip_back hmk hyz
  generalize hM : ipM ys = m at *
  rw [← hT] at hHF htk
  rw [ipFs] at hF
  unfold Ip.ipV at hF
  simp only [Value.agg.injEq, Array.mk.injEq, List.cons.injEq, Value.int.injEq, Value.string.injEq, true_and, and_true] at hF
  obtain ⟨r1, r2, r3, r4, r5, r6, r7, r8⟩ := hF
  have r8' : (ys.drop 20).take (m - 20) = os := Eth.str_inj (Eth.fits_take (Eth.fits_drop hyz 20) _) fo r8
  rw [r6, r7] at hag
  rw [r3, r5] at hk
  have hDl : (ipD ys m).length = ipT ys - m := by unfold ipD; rw [List.length_take, List.length_drop]; omega
  have hbl : l.body.length = ipT ys - m := by rw [hag.len, hDl]
  have hdata : ((ipT ys : Nat) : Int) - (m : Int) = (l.body.length : Int) := by omega
  rw [hdata] at hHF htk
  have hx : ipR d s tg tag ys m l = { zeroPkR with d := d, s := s, tg := tg, tag := tag, et := 2048, ii := true, tos := tos, id := id, fr := fr, ttl := ttl, pr := pr, src := src, dst := dst, io := os, l := l, pd := ys.drop (ipT ys) } := by
    unfold ipR; rw [r1, r2, r3, r4, r5, r6, r7, r8']
  rw [hx]
  have h4 := hHF.four
  refine ⟨⟨⟨hd, by show d ≤ _; omega⟩, ⟨hs, by show s ≤ _; omega⟩, z.sha, z.tha, z.spa, z.tpa, bs, bd, fo, z.bd, Eth.fits_drop hyz _, by show os.length ≤ _; omega, z.bdl, by show (ys.drop (ipT ys)).length ≤ _; rw [List.length_drop]; omega, hag.fine⟩, ⟨?_, hf, fun e => absurd (show (2048 : Int) = 2054 from e) (by decide), fun _ => hag.ok, fun _ => Ip.encOk_of hHF⟩, hl, (A + 10) / 2, if l.k = 1 then (A + m) / 2 + 1 else (A + m) / 2 + 8, ?_⟩
  · unfold PkR.own
    rw [if_neg (show ¬ (2048 : Int) = 2054 by decide), if_pos rfl]
    unfold PkR.ownI
    show _ = ({ zeroPkR with d := d, s := s, tg := tg, tag := tag, et := 2048, ii := true, tos := tos, id := id, fr := fr, ttl := ttl, pr := pr, src := src, dst := dst, io := os, l := { l with k := if wholeB fr = true then kindV pr else 0 }, pd := ys.drop (ipT ys) } : PkR)
    rw [← hk]
  · have hbytes : ({ zeroPkR with d := d, s := s, tg := tg, tag := tag, et := 2048, ii := true, tos := tos, id := id, fr := fr, ttl := ttl, pr := pr, src := src, dst := dst, io := os, l := l, pd := ys.drop (ipT ys) } : PkR).bytes = zs.take A ++ (Ip.ipB tos id fr ttl pr src dst os l.body.length ++ l.enc src dst) ++ ys.drop (ipT ys) := by
      unfold PkR.bytes PkR.inner
      rw [if_neg (show ¬ (2048 : Int) = 2054 by decide), if_pos rfl]
      show Eth.headBytes d s tg tag 2048 ++ (Ip.ipB tos id fr ttl pr src dst os l.body.length ++ l.enc src dst) ++ [] ++ ys.drop (ipT ys) = _
      rw [hb, List.append_nil]
    have hzs : zs = zs.take A ++ (ys.take m ++ ipD ys m) ++ ys.drop (ipT ys) := by
      conv => lhs; rw [hsplit]
      rw [List.append_assoc]
      congr 1
      unfold ipD
      have e1 : ys = ys.take m ++ ys.drop m := (List.take_append_drop m ys).symm
      have e2 : ys.drop m = (ys.drop m).take (ipT ys - m) ++ (ys.drop m).drop (ipT ys - m) := (List.take_append_drop _ _).symm
      rw [List.drop_drop, show m + (ipT ys - m) = ipT ys by omega] at e2
      rw [List.append_assoc, ← e2, ← e1]
    rw [hbytes]
    conv => rhs; rw [hzs]
    have hHl : (zs.take A).length = A := by rw [List.length_take, Nat.min_eq_left hA]
    have htl : (ys.take m).length = m := by rw [List.length_take]; omega
    have hil : (Ip.ipB tos id fr ttl pr src dst os l.body.length).length = m := by rw [Ip.ipB_len, hm]
    refine alike_app _ _ (by rw [List.length_append, List.length_append, hil, htl, L4R.enc_len, hbl, hDl]) (fun i => ?_)
    rw [hHl, getD_app, getD_app, hil, htl]
    split
    · rw [htk]
      unfold Ip.ipB
      rcases hb_alike tos id fr ttl pr src dst os l.body.length (Ip.hchk tos id fr ttl pr src dst os l.body.length) (ys.getD 10 0 * 256 + ys.getD 11 0) i with h | h
      · exact .inl h
      · right; left; omega
    · by_cases hi : i - m < (ipD ys m).length
      · rcases hag.same (i - m) hi with h | ⟨h, _⟩
        · exact .inl h
        · right; right
          rcases h with ⟨k1, h⟩ | ⟨k3, h⟩
          · rw [if_pos k1]; omega
          · rw [if_neg (by omega)]; omega
      · left
        rw [getD_out _ _ (by rw [L4R.enc_len, hbl]; omega), getD_out _ _ (by omega)]
end Go.Proofs.Ytpiokeidcnbmbaa

namespace Go.Proofs.Ytpiokeidcnbmbaa
open Go.RowKit
set_option maxRecDepth 20000
theorem again_any (src dst p : Int) (hs : 0 ≤ src) (ht : 0 ≤ dst) (zs : List Int) (hf : ∀ i, 0 ≤ zs.getD i 0 ∧ zs.getD i 0 ≤ 255) (hl : zs.length ≤ 65515) (hE : decE src dst (kindV p) zs = 0) : Again src dst zs (decR src dst (kindV p) zs) := by
  have hm : msrV (kindV p) zs = 0 := by
    unfold decE at hE
    by_cases h : msrV (kindV p) zs = 0
    · exact h
    · rw [if_neg h] at hE; exact hE
  have hr : rightV src dst (kindV p) zs = true := by
    unfold decE at hE
    rw [if_pos hm] at hE
    cases h : rightV src dst (kindV p) zs
    · rw [h] at hE; exact absurd hE (by decide)
    · rfl
  have hz := msr_size _ zs hm
  have hR : decR src dst (kindV p) zs = readR (kindV p) zs := by unfold decR; rw [if_pos ⟨hm, hr⟩]
  rw [hR]
  rcases kindV_cases p with e | e | e | e
  · rw [e]; exact again_opaque src dst zs hf hl
  · rw [e] at hr hz ⊢
    rw [show fixV 1 = 8 from rfl] at hz
    unfold rightV at hr
    rw [if_neg (by decide), if_neg (by omega)] at hr
    exact again_icmp src dst hs ht zs hf (by omega) hl (by simpa using hr)
  · rw [e] at hr hm hz ⊢
    rw [show fixV 2 = 8 from rfl] at hz
    unfold msrV at hm
    rw [show fixV 2 = 8 from rfl, if_neg (by omega), if_pos rfl] at hm
    have hlen : zs.getD 4 0 * 256 + zs.getD 5 0 = zs.length := by
      by_cases h : zs.getD 4 0 * 256 + zs.getD 5 0 = zs.length
      · exact h
      · rw [if_neg h] at hm; exact absurd hm (by decide)
    refine again_udp src dst hs ht zs hf (by omega) hl hlen ?_
    by_cases h : zs.getD 6 0 * 256 + zs.getD 7 0 = 0
    · exact .inl h
    · right
      unfold rightV at hr
      rw [if_neg (by decide), if_neg (by rintro ⟨_, h2⟩; exact h h2)] at hr
      simpa using hr
  · rw [e] at hr hm hz ⊢
    rw [show fixV 3 = 20 from rfl] at hz
    unfold msrV at hm
    rw [show fixV 3 = 20 from rfl, if_neg (by omega), if_neg (by decide), if_pos rfl] at hm
    have h5 : 20 ≤ zs.getD 12 0 / 16 * 4 ∧ zs.getD 12 0 / 16 * 4 ≤ zs.length := by
      split at hm
      · omega
      · split at hm
        · omega
        · omega
    unfold rightV at hr
    rw [if_neg (by decide), if_neg (by omega)] at hr
    exact again_tcp src dst hs ht zs hf (by omega) hl h5.1 h5.2 (by simpa using hr)
theorem decR_kind (src dst p : Int) (zs : List Int) (hE : decE src dst (kindV p) zs = 0) : (decR src dst (kindV p) zs).k = kindV p := by
  unfold decE at hE
  unfold decR
  by_cases hm : msrV (kindV p) zs = 0
  · rw [if_pos hm] at hE
    by_cases hr : rightV src dst (kindV p) zs = true
    · rw [if_pos ⟨hm, hr⟩]
      rcases kindV_cases p with e | e | e | e <;> rw [e] <;> rfl
    · rw [if_neg hr] at hE; omega
  · rw [if_neg hm] at hE
    exact absurd hE hm
theorem parse_good (zs : List Int) (hz : ∀ i, 0 ≤ zs.getD i 0 ∧ zs.getD i 0 ≤ 255) (x : PkR) (h : parseR zs = (x, 0)) : Good zs x := by
  obtain ⟨d, s, tg, tag, et, A, hr, hf, hd, hs, hb, hA, hl⟩ := head_parts zs hz x h
  have hyz := Eth.fits_drop hz A
  have hyl : (zs.drop A).length = zs.length - A := List.length_drop ..
  unfold restR at hr
  by_cases e1 : et = 2054
  · subst e1
    rw [if_pos rfl] at hr
    by_cases ea : arE (zs.drop A) = 0
    · rw [if_pos ea] at hr
      obtain rfl := (Prod.mk.inj hr).1
      exact good_arp hz hf hd hs hb hl ea
    · rw [if_neg ea] at hr
      exact absurd (Prod.mk.inj hr).2 ea
  rw [if_neg e1] at hr
  by_cases e2 : et = 2048
  · subst e2
    rw [if_pos rfl] at hr
    by_cases e0 : ipE (zs.drop A) = 0
    · rw [if_pos e0] at hr
      rcases ip_cases (zs.drop A) hyz with ⟨e9, _⟩ | ⟨_, hmk, hT, hmT, hTl, h20⟩
      · exact absurd e0 e9
      have hDf : ∀ i, 0 ≤ (ipD (zs.drop A) (ipM (zs.drop A))).getD i 0 ∧ (ipD (zs.drop A) (ipM (zs.drop A))).getD i 0 ≤ 255 := Eth.fits_take (Eth.fits_drop hyz _) _
      have hDl : (ipD (zs.drop A) (ipM (zs.drop A))).length ≤ 65515 := by unfold ipD; rw [List.length_take]; omega
      have hsrc := ip_b4 _ hyz 12 (by omega)
      have hdst := ip_b4 _ hyz 16 (by omega)
      unfold ipP at hr
      by_cases hw : wholeB (num (((zs.drop A).drop 6).take 2)) = true
      · rw [if_pos hw] at hr
        by_cases el : l4e (zs.drop A) (ipM (zs.drop A)) = 0
        · rw [if_pos el] at hr
          obtain rfl := (Prod.mk.inj hr).1
          refine good_ip hz hf hd hs hb hA hl e0 _ (again_any _ _ _ hsrc.1 hdst.1 _ hDf hDl el) ?_
          rw [if_pos hw]
          exact decR_kind _ _ _ _ el
        · rw [if_neg el] at hr
          exact absurd (Prod.mk.inj hr).2 el
      · rw [if_neg hw] at hr
        obtain rfl := (Prod.mk.inj hr).1
        refine good_ip hz hf hd hs hb hA hl e0 _ (again_opaque _ _ _ hDf hDl) ?_
        rw [if_neg hw]
        rfl
    · rw [if_neg e0] at hr
      exact absurd (Prod.mk.inj hr).2 e0
  · rw [if_neg e2] at hr
    obtain rfl := (Prod.mk.inj hr).1
    exact good_plain hz hf hd hs hb hl e1 e2
end Go.Proofs.Ytpiokeidcnbmbaa
