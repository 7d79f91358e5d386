/- Parse of package packet, of any bytes. Condition: a slice of at most 2^47 bytes. -/
import Derived.Test.YthodjgaaojmihaaDoorPV
import Derived.Test.YthodjgaaojmihaaDoorXN
import Derived.Test.YthodjgaaojmihaaDoorIF
import Derived.Test.YthodjgaaojmihaaDoorPKd
import Derived.Test.YthodjgaaojmihaaDoorPKf
namespace Go.Proofs.YthodjgaaojmihaaDoor
open Go.RowKit
set_option maxRecDepth 20000
/-- The error of a frame's head, and what it says. -/
def hdT (zs : List Int) : Bool := decide (num ((zs.drop 12).take 2) = 33024)
def hdA (zs : List Int) : Nat := if hdT zs = true then 18 else 14
def hdG (zs : List Int) : Int := if hdT zs = true then num ((zs.drop 14).take 2) else 0
def hdY (zs : List Int) : Int := if hdT zs = true then num ((zs.drop 16).take 2) else num ((zs.drop 12).take 2)
def hdE (zs : List Int) : Int :=
  if 9018 < zs.length then 3 else if zs.length < 14 then 20
  else if hdT zs = true then (if zs.length < 18 then 20 else if num ((zs.drop 16).take 2) = 33024 then 21 else 0) else 0
theorem headV_bad (zs : List Int) (h : hdE zs ≠ 0) : Eth.headV zs = Eth.ethV 0 0 false 0 0 0 (hdE zs) := by
  unfold hdE at h ⊢
  unfold Eth.headV
  by_cases h1 : 9018 < zs.length
  · rw [if_pos h1, if_pos h1]
  rw [if_neg h1, if_neg h1]
  rw [if_neg h1] at h
  by_cases h2 : zs.length < 14
  · rw [if_pos h2, if_pos h2]
  rw [if_neg h2, if_neg h2]
  rw [if_neg h2] at h
  by_cases h3 : num ((zs.drop 12).take 2) = 33024
  · have ht : hdT zs = true := by unfold hdT; exact decide_eq_true h3
    rw [if_pos ht] at h ⊢
    rw [if_neg (fun x => x h3)]
    by_cases h4 : zs.length < 18
    · rw [if_pos h4, if_pos h4]
    rw [if_neg h4, if_neg h4]
    rw [if_neg h4] at h
    by_cases h5 : num ((zs.drop 16).take 2) = 33024
    · rw [if_pos h5, if_pos h5]
    · rw [if_neg h5] at h; exact absurd rfl h
  · have ht : ¬ hdT zs = true := by unfold hdT; simpa using h3
    rw [if_neg ht] at h
    exact absurd rfl h
theorem headV_ok (zs : List Int) (h : hdE zs = 0) : Eth.headV zs = Eth.ethV (num (zs.take 6)) (num ((zs.drop 6).take 6)) (hdT zs) (hdG zs) (hdY zs) (hdA zs) 0 ∧ hdA zs ≤ zs.length ∧ zs.length ≤ 9018 := by
  unfold hdE at h
  unfold Eth.headV hdG hdY hdA
  by_cases h1 : 9018 < zs.length
  · rw [if_pos h1] at h; omega
  rw [if_neg h1] at h ⊢
  by_cases h2 : zs.length < 14
  · rw [if_pos h2] at h; omega
  rw [if_neg h2] at h ⊢
  by_cases h3 : num ((zs.drop 12).take 2) = 33024
  · have ht : hdT zs = true := by unfold hdT; exact decide_eq_true h3
    rw [if_pos ht] at h
    rw [if_neg (fun x => x h3), if_pos ht, if_pos ht, if_pos ht]
    by_cases h4 : zs.length < 18
    · rw [if_pos h4] at h; omega
    rw [if_neg h4] at h ⊢
    by_cases h5 : num ((zs.drop 16).take 2) = 33024
    · rw [if_pos h5] at h; omega
    · rw [if_neg h5, ht]; exact ⟨rfl, by omega, by omega⟩
  · have ht : ¬ hdT zs = true := by unfold hdT; simpa using h3
    rw [if_pos h3, if_neg ht, if_neg ht, if_neg ht, Bool.eq_false_iff.2 ht]
    exact ⟨rfl, by omega, by omega⟩
/-- The error of an ARP packet. -/
def arE (zs : List Int) : Int := if zs.length < 28 then 20 else if num (zs.take 6) ≠ 4429186564 then 21 else 0
theorem arpOf_bad (zs : List Int) (h : arE zs ≠ 0) : Eth.arpOf zs = Eth.arpV 0 0 0 0 0 (arE zs) := by
  unfold arE at h ⊢
  unfold Eth.arpOf
  by_cases h1 : zs.length < 28
  · rw [if_pos h1, if_pos h1]
  rw [if_neg h1, if_neg h1]
  rw [if_neg h1] at h
  by_cases h2 : num (zs.take 6) ≠ 4429186564
  · rw [if_pos h2, if_pos h2]
  · rw [if_neg h2] at h; exact absurd rfl h
theorem arpOf_ok (zs : List Int) (h : arE zs = 0) : Eth.arpOf zs = Eth.arpV (num ((zs.drop 6).take 2)) (num ((zs.drop 8).take 6)) (num ((zs.drop 14).take 4)) (num ((zs.drop 18).take 6)) (num ((zs.drop 24).take 4)) 0 ∧ 28 ≤ zs.length := by
  unfold arE at h
  unfold Eth.arpOf
  by_cases h1 : zs.length < 28
  · rw [if_pos h1] at h; omega
  rw [if_neg h1] at h ⊢
  by_cases h2 : num (zs.take 6) ≠ 4429186564
  · rw [if_pos h2] at h; omega
  · rw [if_neg h2]; exact ⟨rfl, by omega⟩
/-- The packet of a head and what stands behind it. -/
def bodyR (d s : Int) (tg : Bool) (tag et : Int) (ys : List Int) : PkR := { zeroPkR with d := d, s := s, tg := tg, tag := tag, et := et, bd := ys }
def arpR (d s : Int) (tg : Bool) (tag : Int) (ys : List Int) : PkR := { zeroPkR with d := d, s := s, tg := tg, tag := tag, et := 2054, ia := true, op := num ((ys.drop 6).take 2), sha := num ((ys.drop 8).take 6), spa := num ((ys.drop 14).take 4), tha := num ((ys.drop 18).take 6), tpa := num ((ys.drop 24).take 4), pd := ys.drop 28 }
def ipT (ys : List Int) : Nat := (ys.getD 2 0 * 256 + ys.getD 3 0).toNat
def ipD (ys : List Int) (m : Nat) : List Int := (ys.drop m).take (ipT ys - m)
def ipR (d s : Int) (tg : Bool) (tag : Int) (ys : List Int) (m : Nat) (l : L4R) : PkR := { zeroPkR with d := d, s := s, tg := tg, tag := tag, et := 2048, ii := true, tos := num ((ys.drop 1).take 1), id := num ((ys.drop 4).take 2), fr := num ((ys.drop 6).take 2), ttl := num ((ys.drop 8).take 1), pr := num ((ys.drop 9).take 1), src := num ((ys.drop 12).take 4), dst := num ((ys.drop 16).take 4), io := (ys.drop 20).take (m - 20), l := l, pd := ys.drop (ipT ys) }
def l4e (ys : List Int) (m : Nat) : Int := decE (num ((ys.drop 12).take 4)) (num ((ys.drop 16).take 4)) (kindV (num ((ys.drop 9).take 1))) (ipD ys m)
def l4r (ys : List Int) (m : Nat) : L4R := decR (num ((ys.drop 12).take 4)) (num ((ys.drop 16).take 4)) (kindV (num ((ys.drop 9).take 1))) (ipD ys m)
def ipP (d s : Int) (tg : Bool) (tag : Int) (ys : List Int) (m : Nat) : PkR × Int :=
  if wholeB (num ((ys.drop 6).take 2)) = true then (if l4e ys m = 0 then (ipR d s tg tag ys m (l4r ys m), 0) else (zeroPkR, l4e ys m))
  else (ipR d s tg tag ys m { zeroR with ds := ipD ys m }, 0)
def ipE (ys : List Int) : Int := (Ip.msr ys ys.length).2.2
def ipM (ys : List Int) : Nat := (Ip.msr ys ys.length).1.toNat
def restR (d s : Int) (tg : Bool) (tag et : Int) (ys : List Int) : PkR × Int :=
  if et = 2054 then (if arE ys = 0 then (arpR d s tg tag ys, 0) else (zeroPkR, arE ys))
  else if et = 2048 then (if ipE ys = 0 then ipP d s tg tag ys (ipM ys) else (zeroPkR, ipE ys))
  else (bodyR d s tg tag et ys, 0)
def parseR (zs : List Int) : PkR × Int :=
  if hdE zs = 0 then restR (num (zs.take 6)) (num ((zs.drop 6).take 6)) (hdT zs) (hdG zs) (hdY zs) (zs.drop (hdA zs)) else (zeroPkR, hdE zs)
def pv (x : PkR × Int) : Value := .tuple #[.agg x.1.ps, .int .i64 x.2]
theorem pv_mk (x : PkR) (e : Int) : pv (x, e) = .tuple #[.agg x.ps, .int .i64 e] := rfl
theorem bodyR_ps (d s : Int) (tg : Bool) (tag et : Int) (ys : List Int) : (Ca.putC zeroPk 0 (#[.int .u64 d, .int .u64 s, .bool tg, .int .i64 tag, .int .i64 et]).toList).setIfInBounds 34 (.string (strOfNums ys)) = (bodyR d s tg tag et ys).ps := by kernel_rfl
theorem arpR_ps (d s : Int) (tg : Bool) (tag : Int) (ys : List Int) : (Ca.putC ((Ca.putC zeroPk 0 (#[.int .u64 d, .int .u64 s, .bool tg, .int .i64 tag, .int .i64 2054]).toList).setIfInBounds 5 (.bool true)) 6 (#[.int .i64 (num ((ys.drop 6).take 2)), .int .u64 (num ((ys.drop 8).take 6)), .int .u32 (num ((ys.drop 14).take 4)), .int .u64 (num ((ys.drop 18).take 6)), .int .u32 (num ((ys.drop 24).take 4))]).toList).setIfInBounds 35 (.string (strOfNums (ys.drop 28))) = (arpR d s tg tag ys).ps := by kernel_rfl
theorem ipR_ps (d s : Int) (tg : Bool) (tag : Int) (ys : List Int) (m : Nat) (k ty co re sp dp : Int) (ns : Bool) (sq ak fl wi ur : Int) (lo ds : List Int) : (Ca.putC (Ca.putC ((Ca.putC zeroPk 0 (#[.int .u64 d, .int .u64 s, .bool tg, .int .i64 tag, .int .i64 2048]).toList).setIfInBounds 11 (.bool true)) 12 (#[.int .i64 (num ((ys.drop 1).take 1)), .int .i64 (num ((ys.drop 4).take 2)), .int .i64 (num ((ys.drop 6).take 2)), .int .i64 (num ((ys.drop 8).take 1)), .int .i64 (num ((ys.drop 9).take 1)), .int .u32 (num ((ys.drop 12).take 4)), .int .u32 (num ((ys.drop 16).take 4)), .string (strOfNums ((ys.drop 20).take (m - 20)))]).toList) 20 (#[.int .i64 k, .int .i64 ty, .int .i64 co, .int .u32 re, .int .i64 sp, .int .i64 dp, .bool ns, .int .u32 sq, .int .u32 ak, .int .i64 fl, .int .i64 wi, .int .i64 ur, .string (strOfNums lo), .string (strOfNums ds)]).toList).setIfInBounds 35 (.string (strOfNums (ys.drop (ipT ys)))) = (ipR d s tg tag ys m ⟨k, ty, co, re, sp, dp, ns, sq, ak, fl, wi, ur, lo, ds⟩).ps := by kernel_rfl
theorem fragR_ps (d s : Int) (tg : Bool) (tag : Int) (ys : List Int) (m : Nat) (D : List Int) : (Ca.putC (Ca.putC ((Ca.putC zeroPk 0 (#[.int .u64 d, .int .u64 s, .bool tg, .int .i64 tag, .int .i64 2048]).toList).setIfInBounds 11 (.bool true)) 12 (#[.int .i64 (num ((ys.drop 1).take 1)), .int .i64 (num ((ys.drop 4).take 2)), .int .i64 (num ((ys.drop 6).take 2)), .int .i64 (num ((ys.drop 8).take 1)), .int .i64 (num ((ys.drop 9).take 1)), .int .u32 (num ((ys.drop 12).take 4)), .int .u32 (num ((ys.drop 16).take 4)), .string (strOfNums ((ys.drop 20).take (m - 20)))]).toList) 20 (#[.int .i64 0, .int .i64 0, .int .i64 0, .int .u32 0, .int .i64 0, .int .i64 0, .bool false, .int .u32 0, .int .u32 0, .int .i64 0, .int .i64 0, .int .i64 0, .string ⟨#[]⟩, .string (strOfNums D)]).toList).setIfInBounds 35 (.string (strOfNums (ys.drop (ipT ys)))) = (ipR d s tg tag ys m { zeroR with ds := D }).ps := by kernel_rfl
/-- Lengths of an IPv4 packet: wrong, or right. -/
theorem ip_cases (ys : List Int) (hz : ∀ i, 0 ≤ ys.getD i 0 ∧ ys.getD i 0 ≤ 255) : (ipE ys ≠ 0 ∧ (ipE ys = 20 ∨ ipE ys = 21 ∨ ipE ys = 30) ∧ Ip.msr ys ys.length = (0, 0, ipE ys)) ∨ (ipE ys = 0 ∧ Ip.MOk ys ys.length (ipM ys) ∧ ((ipT ys : Nat) : Int) = ys.getD 2 0 * 256 + ys.getD 3 0 ∧ ipM ys ≤ ipT ys ∧ ipT ys ≤ ys.length ∧ 20 ≤ ipM ys) := by
  rcases Ip.msr_cases ys ys.length hz with ⟨f, hf, he⟩ | ⟨m, hm⟩
  · have : ipE ys = f := by unfold ipE; rw [he]
    rw [this]
    exact .inl ⟨by omega, hf, he⟩
  · have he := Ip.msr_yes hm
    have h1 : ipE ys = 0 := by unfold ipE; rw [he]
    have h2 : ipM ys = m := by unfold ipM; rw [he]; rfl
    have := hz 2
    have := hz 3
    have h3 : ((ipT ys : Nat) : Int) = ys.getD 2 0 * 256 + ys.getD 3 0 := by unfold ipT; omega
    have h4 := hm.total
    have h5 := hm.room
    rw [h2]
    exact .inr ⟨h1, hm, h3, by omega, by omega, hm.twenty⟩
theorem ipFs (ys : List Int) (m : Nat) : Ip.ipF ys m = .agg #[.int .i64 (num ((ys.drop 1).take 1)), .int .i64 (num ((ys.drop 4).take 2)), .int .i64 (num ((ys.drop 6).take 2)), .int .i64 (num ((ys.drop 8).take 1)), .int .i64 (num ((ys.drop 9).take 1)), .int .u32 (num ((ys.drop 12).take 4)), .int .u32 (num ((ys.drop 16).take 4)), .string (strOfNums ((ys.drop 20).take (m - 20)))] := rfl
theorem ip_b4 (ys : List Int) (hz : ∀ i, 0 ≤ ys.getD i 0 ∧ ys.getD i 0 ≤ 255) (k : Nat) (hk : k + 4 ≤ ys.length) : 0 ≤ num ((ys.drop k).take 4) ∧ num ((ys.drop k).take 4) ≤ 4294967295 :=
  Eth.num_bd4 (Eth.fits_take (Eth.fits_drop hz k) 4) (by simp; omega)

set_option maxHeartbeats 2000000 in
theorem parse_restA (w : World) (b off n cap A : Nat) (hA0 : 0 < A) (zs : List Int) (h : BS w (some ⟨b, off, none⟩) n zs) (hcap : n ≤ cap) (hm : cap ≤ 9223372036854775807) (hA : A ≤ n) (d s tag et : Int) (tg : Bool) (hv : Eth.headV zs = Eth.ethV d s tg tag et A 0) :
    Calls Tryd.prog 4 #[.slice (some ⟨b, off, none⟩) n cap] w fun e w' => e = .returned (pv (restR d s tg tag et (zs.drop A))) ∧ Below w.heap.size w w' := by
  have hl := h.len
  have hz := Eth.fits_drop h.fits A
  have HH : ∀ W, BS W (some ⟨b, off, none⟩) n zs → Calls Tryd.prog 9 #[.slice (some ⟨b, off, none⟩) n cap] W fun e w' => e = .returned (Eth.ethV d s tg tag et A 0) ∧ Below W.heap.size W w' := fun W hB => by
    rw [← hv]; exact Eth.head_any cap hB hcap hm
  have hyl : (zs.drop A).length = n - A := by rw [List.length_drop, hl]
  unfold restR
  by_cases e1 : et = 2054
  · subst e1
    rw [if_pos rfl]
    by_cases ea : arE (zs.drop A) = 0
    · rw [if_pos ea]
      obtain ⟨ho, h28⟩ := arpOf_ok _ ea
      have HI : ∀ W, BS W (some ⟨b, off + A, none⟩) (n - A) (zs.drop A) → Calls Tryd.prog 10 #[.slice (some ⟨b, off + A, none⟩) (n - A) (cap - A)] W fun e w' => e = .returned (Eth.arpOf (zs.drop A)) ∧ Below W.heap.size W w' := fun W hB => Eth.arp_any (cap - A) hB (by omega) (by omega)
      rw [ho] at HI
      have hpd : zs.drop (A + 28) = (zs.drop A).drop 28 := by rw [List.drop_drop]
      by_cases hc : cap = (A + 28)
      · obtain rfl : n = (A + 28) := by omega
        subst hc
        have := parse_arpAt w b off A _ zs h rfl hA0 d s tag tg _ _ _ _ _ (strOfNums (zs.drop (A + 28))) rfl HH HI
        rw [hpd, arpR_ps] at this
        rw [pv_mk]
        exact this
      · have := parse_arpA w b off n cap A zs h hcap _ rfl (by omega) hA0 d s tag tg hc _ _ _ _ _ (strOfNums (zs.drop (A + 28))) rfl HH HI
        rw [hpd, arpR_ps] at this
        rw [pv_mk]
        exact this
    · rw [if_neg ea]
      have hf : (arE (zs.drop A) != 0) = true := by simpa using ea
      have ho := arpOf_bad _ ea
      rw [pv_mk, zeroPkR_ps]
      by_cases hc : cap = A
      · obtain rfl : A = n := by omega
        obtain rfl : A = cap := hc.symm
        have hn : zs.drop A = [] := List.drop_of_length_le (by omega)
        rw [hn] at ho hf ⊢
        refine parse_arpbadAt w b off A zs h d s tag tg 0 0 0 0 0 _ hf HH (fun W hB => ?_)
        have := Eth.arp_any 0 hB (Nat.le_refl _) (by omega)
        rw [ho] at this
        exact this
      · refine parse_arpbadA w b off n cap A zs h hcap hA hA0 d s tag tg hc 0 0 0 0 0 _ hf HH (fun W hB => ?_)
        have := Eth.arp_any (cap - A) hB (by omega) (by omega)
        rw [ho] at this
        exact this
  rw [if_neg e1]
  by_cases e2 : et = 2048
  · subst e2
    rw [if_pos rfl]
    have hroom : ((n - A : Nat) : Int) = (zs.drop A).length := by rw [hyl]
    rcases ip_cases (zs.drop A) hz with ⟨e0, ef, he⟩ | ⟨e0, hmk, hT, hmT, hTl, h20⟩
    · rw [if_neg e0]
      have hf : (ipE (zs.drop A) != 0) = true := by simpa using e0
      rw [pv_mk, zeroPkR_ps]
      by_cases hc : cap = A
      · obtain rfl : A = n := by omega
        obtain rfl : A = cap := hc.symm
        have hn : zs.drop A = [] := List.drop_of_length_le (by omega)
        rw [hn] at he hf ef ⊢
        exact parse_ipbadAt w b off A zs h d s tag tg 0 0 0 0 0 0 0 [] 0 0 _ hf HH (fun W hB => (Ip.decode_any W _ 0 0 [] hB (Nat.le_refl _)).1 _ ef he)
      · refine parse_ipbadA w b off n cap A zs h hcap hA hA0 d s tag tg hc 0 0 0 0 0 0 0 [] 0 0 _ hf HH (fun W hB => (Ip.decode_any W _ (n - A) (cap - A) _ hB (by omega)).1 _ ef ?_)
        rw [hroom]; exact he
    · rw [if_pos e0]
      generalize hM : ipM (zs.drop A) = m at *
      generalize hTT : ipT (zs.drop A) = T at *
      have HI : ∀ W, BS W (some ⟨b, off + A, none⟩) (n - A) (zs.drop A) → Calls Tryd.prog 11 #[.slice (some ⟨b, off + A, none⟩) (n - A) (cap - A)] W fun e w' => e = .returned (.tuple #[Ip.ipF (zs.drop A) m, .int .i64 m, .int .i64 T, .int .i64 0]) ∧ Below W.heap.size W w' := fun W hB => by
        have := (Ip.decode_any W _ (n - A) (cap - A) _ hB (by omega)).2 m (by rw [hroom]; exact hmk)
        rw [← hT] at this
        exact this
      rw [ipFs] at HI
      have hsrc := ip_b4 _ hz 12 (by omega)
      have hdst := ip_b4 _ hz 16 (by omega)
      have hD : (zs.drop (A + m)).take (A + T - (A + m)) = ipD (zs.drop A) m := by
        unfold ipD; rw [hTT, List.drop_drop, show A + T - (A + m) = T - m by omega]
      have hP : zs.drop (A + T) = (zs.drop A).drop (ipT (zs.drop A)) := by rw [hTT, List.drop_drop]
      have HL : ∀ (a : Option Addr) (k c : Nat), k ≤ c → (∀ x, a = some x → ∃ b off, x = ⟨b, off, none⟩) → (a = none → c = 0) → ∀ W, BS W a k (ipD (zs.drop A) m) → Calls Tryd.prog 13 #[.int .u32 (num (((zs.drop A).drop 12).take 4)), .int .u32 (num (((zs.drop A).drop 16).take 4)), .int .i64 (num (((zs.drop A).drop 9).take 1)), .slice a k c] W fun e w' => e = .returned (.tuple #[(l4r (zs.drop A) m).v, .int .i64 (l4e (zs.drop A) m)]) ∧ Below W.heap.size W w' :=
        fun a k c hk ha h0 W hB => decode_any _ _ _ hsrc hdst a k c _ hk ha h0 W hB
      have hlen : (ipD (zs.drop A) m).length = T - m := by unfold ipD; rw [hTT, List.length_take, List.length_drop, hyl]; omega
      unfold ipP
      by_cases hw : wholeB (num (((zs.drop A).drop 6).take 2)) = true
      · rw [if_pos hw]
        by_cases el : l4e (zs.drop A) m = 0
        · rw [if_pos el]
          rw [el] at HL
          obtain ⟨L, hL4⟩ : ∃ L, l4r (zs.drop A) m = L := ⟨_, rfl⟩
          rw [hL4] at HL ⊢
          obtain ⟨k, ty, co, re, sp, dp, ns, sq, ak, fl, wi, ur, lo, ds⟩ := L
          by_cases hc1 : cap = A + m
          · obtain rfl : n = A + m := by omega
            obtain rfl : T = m := by omega
            subst hc1
            have := parse_okAB w b off A (A + T) zs h T T rfl rfl (by omega) hA0 d s tag tg _ _ _ _ _ _ _ _ hw k ty co re sp dp ns sq ak fl wi ur lo ds (strOfNums (zs.drop (A + T))) rfl HH HI (fun W hB => HL (some ⟨b, off, none⟩) 0 0 (Nat.le_refl _) (fun x e => ⟨b, off, by cases e; rfl⟩) (fun e => by cases e) W (by rw [List.length_eq_zero_iff.1 (show (ipD (zs.drop A) T).length = 0 by omega)]; exact BS.empty _))
            rw [hP, ipR_ps] at this
            rw [pv_mk]
            exact this
          by_cases hc2 : cap = A + T
          · obtain rfl : n = A + T := by omega
            subst hc2
            have := parse_okAC w b off A (A + m) (A + T) zs h m T rfl rfl (by omega) hA0 hmT hc1 d s tag tg _ _ _ _ _ _ _ _ hw k ty co re sp dp ns sq ak fl wi ur lo ds (strOfNums (zs.drop (A + T))) rfl HH HI (fun W hB => HL (some ⟨b, off + (A + m), none⟩) (A + T - (A + m)) (A + T - (A + m)) (Nat.le_refl _) (fun x e => ⟨b, off + (A + m), by cases e; rfl⟩) (fun e => by cases e) W (by rw [← hD]; exact (hB.drop (by omega) (A + m) (by omega)).take _ (by omega)))
            rw [hP, ipR_ps] at this
            rw [pv_mk]
            exact this
          · have := parse_okAA w b off n cap A (A + m) (A + T) zs h m T rfl rfl (by omega) hA0 hmT (by omega) hcap hc1 hc2 d s tag tg _ _ _ _ _ _ _ _ hw k ty co re sp dp ns sq ak fl wi ur lo ds (strOfNums (zs.drop (A + T))) rfl HH HI (fun W hB => HL (some ⟨b, off + (A + m), none⟩) (A + T - (A + m)) (cap - (A + m)) (by omega) (fun x e => ⟨b, off + (A + m), by cases e; rfl⟩) (fun e => by cases e) W (by rw [← hD]; exact (hB.drop (by omega) (A + m) (by omega)).take _ (by omega)))
            rw [hP, ipR_ps] at this
            rw [pv_mk]
            exact this
        · rw [if_neg el]
          have hf : (l4e (zs.drop A) m != 0) = true := by simpa using el
          rw [pv_mk, zeroPkR_ps]
          generalize l4e (zs.drop A) m = f at *
          obtain ⟨L, hL4⟩ : ∃ L, l4r (zs.drop A) m = L := ⟨_, rfl⟩
          rw [hL4] at HL
          obtain ⟨k, ty, co, re, sp, dp, ns, sq, ak, fl, wi, ur, lo, ds⟩ := L
          by_cases hc1 : cap = A + m
          · obtain rfl : n = A + m := by omega
            obtain rfl : T = m := by omega
            subst hc1
            exact parse_l4badAB w b off A (A + T) zs h T T rfl rfl (by omega) hA0 d s tag tg _ _ _ _ _ _ _ _ hw k ty co re sp dp ns sq ak fl wi ur lo ds f hf HH HI (fun W hB => HL (some ⟨b, off, none⟩) 0 0 (Nat.le_refl _) (fun x e => ⟨b, off, by cases e; rfl⟩) (fun e => by cases e) W (by rw [List.length_eq_zero_iff.1 (show (ipD (zs.drop A) T).length = 0 by omega)]; exact BS.empty _))
          by_cases hc2 : cap = A + T
          · obtain rfl : n = A + T := by omega
            subst hc2
            exact parse_l4badAC w b off A (A + m) (A + T) zs h m T rfl rfl (by omega) hA0 hmT hc1 d s tag tg _ _ _ _ _ _ _ _ hw k ty co re sp dp ns sq ak fl wi ur lo ds f hf HH HI (fun W hB => HL (some ⟨b, off + (A + m), none⟩) (A + T - (A + m)) (A + T - (A + m)) (Nat.le_refl _) (fun x e => ⟨b, off + (A + m), by cases e; rfl⟩) (fun e => by cases e) W (by rw [← hD]; exact (hB.drop (by omega) (A + m) (by omega)).take _ (by omega)))
          · exact parse_l4badAA w b off n cap A (A + m) (A + T) zs h m T rfl rfl (by omega) hA0 hmT (by omega) hcap hc1 d s tag tg _ _ _ _ _ _ _ _ hw k ty co re sp dp ns sq ak fl wi ur lo ds f hf HH HI (fun W hB => HL (some ⟨b, off + (A + m), none⟩) (A + T - (A + m)) (cap - (A + m)) (by omega) (fun x e => ⟨b, off + (A + m), by cases e; rfl⟩) (fun e => by cases e) W (by rw [← hD]; exact (hB.drop (by omega) (A + m) (by omega)).take _ (by omega)))
      · rw [if_neg hw]
        have hw' := Bool.eq_false_iff.2 hw
        by_cases hc1 : cap = A + m
        · obtain rfl : n = A + m := by omega
          obtain rfl : T = m := by omega
          subst hc1
          have := parse_fragAB w b off A (A + T) zs h T T rfl rfl (by omega) hA0 d s tag tg _ _ _ _ _ _ _ _ hw' (strOfNums ((zs.drop (A + T)).take (A + T - (A + T)))) (strOfNums (zs.drop (A + T))) rfl rfl HH HI
          rw [hD, hP, fragR_ps] at this
          rw [pv_mk]
          exact this
        by_cases hc2 : cap = A + T
        · obtain rfl : n = A + T := by omega
          subst hc2
          have := parse_fragAC w b off A (A + m) (A + T) zs h m T rfl rfl (by omega) hA0 hmT hc1 d s tag tg _ _ _ _ _ _ _ _ hw' (strOfNums ((zs.drop (A + m)).take (A + T - (A + m)))) (strOfNums (zs.drop (A + T))) rfl rfl HH HI
          rw [hD, hP, fragR_ps] at this
          rw [pv_mk]
          exact this
        · have := parse_fragAA w b off n cap A (A + m) (A + T) zs h m T rfl rfl (by omega) hA0 hmT (by omega) hcap hc1 hc2 d s tag tg _ _ _ _ _ _ _ _ hw' (strOfNums ((zs.drop (A + m)).take (A + T - (A + m)))) (strOfNums (zs.drop (A + T))) rfl rfl HH HI
          rw [hD, hP, fragR_ps] at this
          rw [pv_mk]
          exact this
  · rw [if_neg e2]
    by_cases hc : cap = A
    · obtain rfl : A = n := by omega
      obtain rfl : A = cap := hc.symm
      rw [pv_mk, ← bodyR_ps]
      exact parse_bodyAt w b off A zs h d s tag et tg (by simpa using e1) (by simpa using e2) (strOfNums (zs.drop A)) rfl HH
    · rw [pv_mk, ← bodyR_ps]
      exact parse_bodyA w b off n cap A zs h hcap hA hA0 d s tag et tg hc (by simpa using e1) (by simpa using e2) (strOfNums (zs.drop A)) rfl HH

/-- Parse of any bytes. -/
theorem parse_any (w : World) (a : Option Addr) (n cap : Nat) (zs : List Int) (h : BS w a n zs) (hcap : n ≤ cap) (hm : cap ≤ 9223372036854775807) :
    Calls Tryd.prog 4 #[.slice a n cap] w fun e w' => e = .returned (pv (parseR zs)) ∧ Below w.heap.size w w' := by
  have hl := h.len
  unfold parseR
  by_cases h0 : hdE zs = 0
  · rw [if_pos h0]
    obtain ⟨hv, h1, h2⟩ := headV_ok zs h0
    have h3 : 14 ≤ hdA zs := by unfold hdA; split <;> omega
    obtain ⟨b, off, rfl, _⟩ := h.cells.resolve_left (by omega)
    exact parse_restA w b off n cap (hdA zs) (by omega) zs h hcap hm (by omega) _ _ _ _ _ hv
  · rw [if_neg h0]
    rw [pv_mk, zeroPkR_ps]
    refine parse_bad w a n cap zs h 0 0 0 0 0 _ false (by simpa using h0) (fun W hB => ?_)
    rw [← headV_bad zs h0]; exact Eth.head_any cap hB hcap hm
end Go.Proofs.YthodjgaaojmihaaDoor
