/- Parse of the document, of any bytes. Condition: a slice of at most 2^47 bytes. -/
import Derived.Test.YtpiokeidcnbmbaaPNe
import Derived.Test.YtpiokeidcnbmbaaL4rj
namespace Go.Proofs.Ytpiokeidcnbmbaa
open Go.RowKit
set_option maxRecDepth 20000
theorem ripR_ps (d s : Int) (tg : Bool) (tag : Int) (ys : List Int) (m : Nat) (k ty co re sp dp : Int) (ns : Bool) (sq ak fl wi ur : Int) (lo ds : List Int) : Ca.putC ((Ca.putC ((Ca.putC zeroPk 0 (#[.int .u64 d, .int .u64 s, .bool tg, .int .i64 tag, .int .i64 2048]).toList).setIfInBounds 11 (.bool true)) 12 (#[.int .i64 (num ((ys.drop 1).take 1)), .int .i64 (num ((ys.drop 4).take 2)), .int .i64 (num ((ys.drop 6).take 2)), .int .i64 (num ((ys.drop 8).take 1)), .int .i64 (num ((ys.drop 9).take 1)), .int .u32 (num ((ys.drop 12).take 4)), .int .u32 (num ((ys.drop 16).take 4)), .string (strOfNums ((ys.drop 20).take (m - 20)))]).toList).setIfInBounds 35 (.string (strOfNums (ys.drop (ipT ys))))) 20 (#[.int .i64 k, .int .i64 ty, .int .i64 co, .int .u32 re, .int .i64 sp, .int .i64 dp, .bool ns, .int .u32 sq, .int .u32 ak, .int .i64 fl, .int .i64 wi, .int .i64 ur, .string (strOfNums lo), .string (strOfNums ds)]).toList = (ipR d s tg tag ys m ⟨k, ty, co, re, sp, dp, ns, sq, ak, fl, wi, ur, lo, ds⟩).ps := by kernel_rfl
theorem rfragR_ps (d s : Int) (tg : Bool) (tag : Int) (ys : List Int) (m : Nat) (D : List Int) : ((Ca.putC ((Ca.putC zeroPk 0 (#[.int .u64 d, .int .u64 s, .bool tg, .int .i64 tag, .int .i64 2048]).toList).setIfInBounds 11 (.bool true)) 12 (#[.int .i64 (num ((ys.drop 1).take 1)), .int .i64 (num ((ys.drop 4).take 2)), .int .i64 (num ((ys.drop 6).take 2)), .int .i64 (num ((ys.drop 8).take 1)), .int .i64 (num ((ys.drop 9).take 1)), .int .u32 (num ((ys.drop 12).take 4)), .int .u32 (num ((ys.drop 16).take 4)), .string (strOfNums ((ys.drop 20).take (m - 20)))]).toList).setIfInBounds 35 (.string (strOfNums (ys.drop (ipT ys))))).setIfInBounds 33 (.string (strOfNums D)) = (ipR d s tg tag ys m { zeroR with ds := D }).ps := by kernel_rfl
set_option maxHeartbeats 2000000 in
theorem rparse_rest (w : World) (b off n cap A : Nat) (zs : List Int) (h : BS w (some ⟨b, off, none⟩) n zs) (hcap : n ≤ cap) (hm : cap ≤ 9223372036854775807) (hA0 : 0 < A) (hA : A ≤ n) (d s tag et : Int) (tg : Bool) (hv : Eth.headV zs = Eth.ethV d s tg tag et A 0) :
    Calls Try.prog 9 #[.slice (some ⟨b, off, none⟩) n cap] w fun e w' => e = .returned (pv (restR d s tg tag et (zs.drop A))) ∧ Below w.heap.size w w' := by
  have hl := h.len
  have hz := Eth.fits_drop h.fits A
  have HH : ∀ W, BS W (some ⟨b, off, none⟩) n zs → Calls Try.prog 22 #[.slice (some ⟨b, off, none⟩) n cap] W fun e w' => e = .returned (Eth.ethV d s tg tag et A 0) ∧ Below W.heap.size W w' := fun W hB => by
    rw [← hv]; exact Eth.rhead_any cap hB hcap hm
  have hyl : (zs.drop A).length = n - A := by rw [List.length_drop, hl]
  unfold restR
  by_cases e1 : et = 2054
  · subst e1
    rw [if_pos rfl]
    by_cases ea : arE (zs.drop A) = 0
    · rw [if_pos ea, pv_mk]
      obtain ⟨ho, h28⟩ := arpOf_ok _ ea
      have HI : ∀ W, BS W (some ⟨b, off + A, none⟩) (n - A) (zs.drop A) → Calls Try.prog 23 #[.slice (some ⟨b, off + A, none⟩) (n - A) (cap - A)] W fun e w' => e = .returned (Eth.arpOf (zs.drop A)) ∧ Below W.heap.size W w' := fun W hB => Eth.rarp_any (cap - A) hB (by omega)
      rw [ho] at HI
      have hpd : zs.drop (A + 28) = (zs.drop A).drop 28 := by rw [List.drop_drop]
      have hr := arpR_ps d s tg tag (zs.drop A)
      rw [← hpd] at hr
      by_cases hc : cap = A + 28
      · exact rparse_arpt w b off n cap A zs h hcap (by omega) hc hA0 d s tag tg _ _ _ _ _ _ rfl _ hr HH HI
      · exact rparse_arp w b off n cap A zs h hcap (by omega) hc hA0 d s tag tg _ _ _ _ _ _ rfl _ hr HH HI
    · rw [if_neg ea]
      have hf : (arE (zs.drop A) != 0) = true := by simpa using ea
      have ho := arpOf_bad _ ea
      rw [pv_mk, zeroPkR_ps]
      by_cases hc : cap = A
      · obtain rfl : n = A := by omega
        subst hc
        have hn : zs.drop cap = [] := List.drop_of_length_le (by omega)
        rw [hn] at ho hf ⊢
        refine rparse_arpbadt w b off cap zs h d s tag tg 0 0 0 0 0 _ hf HH (fun W hB => ?_)
        have := Eth.rarp_any 0 hB (Nat.le_refl _)
        rw [ho] at this
        exact this
      · refine rparse_arpbad w b off n cap A zs h hcap hA hc hA0 d s tag tg 0 0 0 0 0 _ hf HH (fun W hB => ?_)
        have := Eth.rarp_any (cap - A) hB (by omega)
        rw [ho] at this
        exact this
  rw [if_neg e1]
  by_cases e2 : et = 2048
  · subst e2
    rw [if_pos rfl]
    have hroom : ((n - A : Nat) : Int) = (zs.drop A).length := by rw [hyl]
    rcases ip_cases (zs.drop A) hz with ⟨e0, ef, he⟩ | ⟨e0, hmk, hT, hmT, hTl, h20⟩
    · rw [if_neg e0]
      have hf : (ipE (zs.drop A) != 0) = true := by simpa using e0
      rw [pv_mk, zeroPkR_ps]
      by_cases hc : cap = A
      · obtain rfl : n = A := by omega
        subst hc
        have hn : zs.drop cap = [] := List.drop_of_length_le (by omega)
        rw [hn] at he hf ef ⊢
        exact rparse_ipbadt w b off cap zs h d s tag tg 0 0 0 0 0 0 0 [] 0 0 _ hf HH (fun W hB => (Ip.rdec_any W _ 0 0 [] hB (Nat.le_refl _)).1 _ ef he)
      · refine rparse_ipbad w b off n cap A zs h hcap hA hc hA0 d s tag tg 0 0 0 0 0 0 0 [] 0 0 _ hf HH (fun W hB => (Ip.rdec_any W _ (n - A) (cap - A) _ hB (by omega)).1 _ ef ?_)
        rw [hroom]; exact he
    · rw [if_pos e0]
      generalize hM : ipM (zs.drop A) = m at *
      generalize hTT : ipT (zs.drop A) = T at *
      have HI : ∀ W, BS W (some ⟨b, off + A, none⟩) (n - A) (zs.drop A) → Calls Try.prog 24 #[.slice (some ⟨b, off + A, none⟩) (n - A) (cap - A)] W fun e w' => e = .returned (.tuple #[Ip.ipF (zs.drop A) m, .int .i64 m, .int .i64 T, .int .i64 0]) ∧ Below W.heap.size W w' := fun W hB => by
        have := (Ip.rdec_any W _ (n - A) (cap - A) _ hB (by omega)).2 m (by rw [hroom]; exact hmk)
        rw [← hT] at this
        exact this
      rw [ipFs] at HI
      have hsrc := ip_b4 _ hz 12 (by omega)
      have hdst := ip_b4 _ hz 16 (by omega)
      have hD : (zs.drop (A + m)).take (T - m) = ipD (zs.drop A) m := by
        unfold ipD; rw [hTT, List.drop_drop]
      have hP : zs.drop (A + T) = (zs.drop A).drop (ipT (zs.drop A)) := by rw [hTT, List.drop_drop]
      have HL : ∀ (a : Option Addr) (k c : Nat), k ≤ c → ∀ W, BS W a k (ipD (zs.drop A) m) → Calls Try.prog 26 #[.int .u32 (num (((zs.drop A).drop 12).take 4)), .int .u32 (num (((zs.drop A).drop 16).take 4)), .int .i64 (num (((zs.drop A).drop 9).take 1)), .slice a k c] W fun e w' => e = .returned (.tuple #[(l4r (zs.drop A) m).v, .int .i64 (l4e (zs.drop A) m)]) ∧ Below W.heap.size W w' :=
        fun a k c hk W hB => rdecode_any _ _ _ hsrc hdst a k c _ hk W hB
      have hlen : (ipD (zs.drop A) m).length = T - m := by unfold ipD; rw [hTT, List.length_take, List.length_drop, hyl]; omega
      have HW := fun W => rwhole_any (num (((zs.drop A).drop 1).take 1)) (num (((zs.drop A).drop 4).take 2)) (num (((zs.drop A).drop 6).take 2)) (num (((zs.drop A).drop 8).take 1)) (num (((zs.drop A).drop 9).take 1)) (num (((zs.drop A).drop 12).take 4)) (num (((zs.drop A).drop 16).take 4)) (((zs.drop A).drop 20).take (m - 20)) W
      unfold ipP
      by_cases hw : wholeB (num (((zs.drop A).drop 6).take 2)) = true
      · rw [if_pos hw]
        rw [hw] at HW
        by_cases el : l4e (zs.drop A) m = 0
        · rw [if_pos el, pv_mk]
          rw [el] at HL
          obtain ⟨L, hL4⟩ : ∃ L, l4r (zs.drop A) m = L := ⟨_, rfl⟩
          rw [hL4] at HL ⊢
          obtain ⟨k, ty, co, re, sp, dp, ns, sq, ak, fl, wi, ur, lo, ds⟩ := L
          have hr := ripR_ps d s tg tag (zs.drop A) m k ty co re sp dp ns sq ak fl wi ur lo ds
          rw [← hP] at hr
          by_cases hc2 : cap = A + T
          · by_cases hht : m = T
            · skip
              exact rparse_l4B w b off n cap A zs h hcap m T (by omega) hmT (by omega) hc2 (by omega) hA0 d s tag tg _ _ _ _ _ _ _ _ _ _ rfl rfl k ty co re sp dp ns sq ak fl wi ur lo ds 0 _ (fun _ => hr) (fun e => absurd rfl e) HH HI HW (fun W hB => HL (some ⟨b, off + A, none⟩) 0 0 (Nat.le_refl _) W (by rw [List.length_eq_zero_iff.1 (show (ipD (zs.drop A) m).length = 0 by omega)]; exact hB))
            · skip
              exact rparse_l4C w b off n cap A zs h hcap m T (by omega) hmT (by omega) hc2 (by omega) hA0 d s tag tg _ _ _ _ _ _ _ _ _ _ rfl rfl k ty co re sp dp ns sq ak fl wi ur lo ds 0 _ (fun _ => hr) (fun e => absurd rfl e) HH HI HW (fun W hB => HL (some ⟨b, off + A + m, none⟩) (T - m) (T - m) (Nat.le_refl _) W (by rw [← hD]; exact hB))
          · skip
            exact rparse_l4A w b off n cap A zs h hcap m T (by omega) hmT (by omega) hc2 hA0 d s tag tg _ _ _ _ _ _ _ _ _ _ rfl rfl k ty co re sp dp ns sq ak fl wi ur lo ds 0 _ (fun _ => hr) (fun e => absurd rfl e) HH HI HW (fun W hB => HL (some ⟨b, off + A + m, none⟩) (T - m) (cap - A - m) (by omega) W (by rw [← hD]; exact hB))
        · rw [if_neg el]
          have hf : (l4e (zs.drop A) m != 0) = true := by simpa using el
          rw [pv_mk, zeroPkR_ps]
          generalize l4e (zs.drop A) m = f at *
          obtain ⟨L, hL4⟩ : ∃ L, l4r (zs.drop A) m = L := ⟨_, rfl⟩
          rw [hL4] at HL
          obtain ⟨k, ty, co, re, sp, dp, ns, sq, ak, fl, wi, ur, lo, ds⟩ := L
          by_cases hc2 : cap = A + T
          · by_cases hht : m = T
            · skip
              exact rparse_l4B w b off n cap A zs h hcap m T (by omega) hmT (by omega) hc2 (by omega) hA0 d s tag tg _ _ _ _ _ _ _ _ _ _ rfl rfl k ty co re sp dp ns sq ak fl wi ur lo ds f _ (fun e => absurd e el) (fun _ => rfl) HH HI HW (fun W hB => HL (some ⟨b, off + A, none⟩) 0 0 (Nat.le_refl _) W (by rw [List.length_eq_zero_iff.1 (show (ipD (zs.drop A) m).length = 0 by omega)]; exact hB))
            · skip
              exact rparse_l4C w b off n cap A zs h hcap m T (by omega) hmT (by omega) hc2 (by omega) hA0 d s tag tg _ _ _ _ _ _ _ _ _ _ rfl rfl k ty co re sp dp ns sq ak fl wi ur lo ds f _ (fun e => absurd e el) (fun _ => rfl) HH HI HW (fun W hB => HL (some ⟨b, off + A + m, none⟩) (T - m) (T - m) (Nat.le_refl _) W (by rw [← hD]; exact hB))
          · skip
            exact rparse_l4A w b off n cap A zs h hcap m T (by omega) hmT (by omega) hc2 hA0 d s tag tg _ _ _ _ _ _ _ _ _ _ rfl rfl k ty co re sp dp ns sq ak fl wi ur lo ds f _ (fun e => absurd e el) (fun _ => rfl) HH HI HW (fun W hB => HL (some ⟨b, off + A + m, none⟩) (T - m) (cap - A - m) (by omega) W (by rw [← hD]; exact hB))
      · rw [if_neg hw, pv_mk]
        rw [Bool.eq_false_iff.2 hw] at HW
        have hr := rfragR_ps d s tg tag (zs.drop A) m (ipD (zs.drop A) m)
        rw [← hP, ← hD] at hr
        rw [← hD]
        by_cases hc2 : cap = A + T
        · by_cases hht : m = T
          · exact rparse_fragB w b off n cap A zs h hcap m T (by omega) hmT (by omega) hc2 hht hA0 d s tag tg _ _ _ _ _ _ _ _ _ _ rfl rfl _ hr HH HI HW
          · exact rparse_fragC w b off n cap A zs h hcap m T (by omega) hmT (by omega) hc2 hht hA0 d s tag tg _ _ _ _ _ _ _ _ _ _ rfl rfl _ hr HH HI HW
        · exact rparse_fragA w b off n cap A zs h hcap m T (by omega) hmT (by omega) hc2 hA0 d s tag tg _ _ _ _ _ _ _ _ _ _ rfl rfl _ hr HH HI HW
  · rw [if_neg e2, pv_mk]
    by_cases hc : cap = A
    · obtain rfl : n = A := by omega
      subst hc
      exact rparse_bodyt w b off cap zs h d s tag et tg (by simpa using e1) (by simpa using e2) (strOfNums (zs.drop cap)) rfl _ (bodyR_ps d s tg tag et (zs.drop cap)) HH
    · exact rparse_body w b off n cap A zs h hcap hA hc hA0 d s tag et tg (by simpa using e1) (by simpa using e2) (strOfNums (zs.drop A)) rfl _ (bodyR_ps d s tg tag et (zs.drop A)) HH
/-- Parse of the document, of any bytes. -/
theorem rparse_any (w : World) (a : Option Addr) (n cap : Nat) (zs : List Int) (h : BS w a n zs) (hcap : n ≤ cap) (hm : cap ≤ 9223372036854775807) :
    Calls Try.prog 9 #[.slice a n cap] w fun e w' => e = .returned (pv (parseR zs)) ∧ Below w.heap.size w w' := by
  have hl := h.len
  unfold parseR
  by_cases h0 : hdE zs = 0
  · rw [if_pos h0]
    obtain ⟨hv, h1, h2⟩ := headV_ok zs h0
    have h3 : 14 ≤ hdA zs := by unfold hdA; split <;> omega
    obtain ⟨b, off, rfl, _⟩ := h.cells.resolve_left (by omega)
    exact rparse_rest w b off n cap (hdA zs) zs h hcap hm (by omega) (by omega) _ _ _ _ _ hv
  · rw [if_neg h0, pv_mk, zeroPkR_ps]
    refine rparse_bad w a n cap zs h 0 0 0 0 0 _ false (by simpa using h0) (fun W hB => ?_)
    rw [← headV_bad zs h0]; exact Eth.rhead_any cap hB hcap hm
end Go.Proofs.Ytpiokeidcnbmbaa
