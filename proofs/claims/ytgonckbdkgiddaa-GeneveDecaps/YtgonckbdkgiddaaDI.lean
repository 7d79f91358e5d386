/- Parts of the proof, in one text. -/
import Derived.Test.YtgonckbdkgiddaaLOct
import Derived.Lib.AppendStr
import Derived.Laws.MakeOwn
namespace Go.Proofs.Ytgonckbdkgiddaa.Ip
open Go.RowKit

/-- The bytes of a head with so many bytes of data and that check sum. -/
def hb (tos id frag ttl pr src dst : Int) (os : List Int) (data chk : Int) : List Int :=
  (64 + (20 + (os.length : Int)) / 4) :: tos :: ((20 + os.length + data) / 256) :: ((20 + os.length + data) % 256) :: (id / 256) :: (id % 256) :: (frag / 256) :: (frag % 256) :: ttl :: pr :: (chk / 256) :: (chk % 256) ::
    (src / 16777216) :: (src / 65536 % 256) :: (src / 256 % 256) :: (src % 256) :: (dst / 16777216) :: (dst / 65536 % 256) :: (dst / 256 % 256) :: (dst % 256) :: os

def headOk (tos id frag ttl pr : Int) (n : Nat) : Bool := fit8 tos && fit8 ttl && fit8 pr && fit16 id && fit16 frag && decide (n ≤ 40) && decide (n % 4 = 0)
def encOk (tos id frag ttl pr : Int) (n : Nat) (data : Int) : Bool := headOk tos id frag ttl pr n && decide (0 ≤ data ∧ data ≤ 65515 - n)

/-- What fits, as plain facts. -/
structure HF (tos id frag ttl pr : Int) (n : Nat) (data : Int) : Prop where
  tos : 0 ≤ tos ∧ tos ≤ 255
  ttl : 0 ≤ ttl ∧ ttl ≤ 255
  pr : 0 ≤ pr ∧ pr ≤ 255
  id : 0 ≤ id ∧ id ≤ 65535
  frag : 0 ≤ frag ∧ frag ≤ 65535
  most : n ≤ 40
  four : n % 4 = 0
  data : 0 ≤ data ∧ data ≤ 65515 - n

theorem encOk_yes {tos id frag ttl pr : Int} {n : Nat} {data : Int} (h : encOk tos id frag ttl pr n data = true) : HF tos id frag ttl pr n data := by
  simp only [encOk, headOk, fit8, fit16, Bool.and_eq_true, decide_eq_true_eq] at h
  obtain ⟨⟨⟨⟨⟨⟨⟨h1, h2⟩, h3⟩, h4⟩, h5⟩, h6⟩, h7⟩, h8⟩ := h
  exact ⟨h1, h2, h3, h4, h5, h6, h7, h8⟩
theorem hb_len (tos id frag ttl pr src dst : Int) (os : List Int) (data chk : Int) : (hb tos id frag ttl pr src dst os data chk).length = 20 + os.length := by simp [hb]; omega
theorem hb_set (tos id frag ttl pr src dst : Int) (os : List Int) (data c : Int) : ((hb tos id frag ttl pr src dst os data 0).set 10 (c / 256)).set 11 (c % 256) = hb tos id frag ttl pr src dst os data c := by simp [hb]
theorem fits_cons {x : Int} {l : List Int} (hx : 0 ≤ x ∧ x ≤ 255) (h : ∀ i, 0 ≤ l.getD i 0 ∧ l.getD i 0 ≤ 255) : ∀ i, 0 ≤ (x :: l).getD i 0 ∧ (x :: l).getD i 0 ≤ 255 := by
  intro i
  cases i with
  | zero => simpa using hx
  | succ i => simpa using h i

theorem hb_bd {tos id frag ttl pr src dst : Int} {os : List Int} {data chk : Int} (hf : HF tos id frag ttl pr os.length data) (hs : 0 ≤ src ∧ src ≤ 4294967295) (hd : 0 ≤ dst ∧ dst ≤ 4294967295) (ho : ∀ i, 0 ≤ os.getD i 0 ∧ os.getD i 0 ≤ 255) (hc : 0 ≤ chk ∧ chk ≤ 65535) :
    ∀ i, 0 ≤ (hb tos id frag ttl pr src dst os data chk).getD i 0 ∧ (hb tos id frag ttl pr src dst os data chk).getD i 0 ≤ 255 := by
  have h1 := hf.id
  have h2 := hf.frag
  have h3 := hf.most
  have h4 := hf.data
  unfold hb
  exact fits_cons (by omega) (fits_cons hf.tos (fits_cons (by omega) (fits_cons (by omega) (fits_cons (by omega) (fits_cons (by omega) (fits_cons (by omega) (fits_cons (by omega) (fits_cons hf.ttl (fits_cons hf.pr (fits_cons (by omega) (fits_cons (by omega)
    (fits_cons (by omega) (fits_cons (by omega) (fits_cons (by omega) (fits_cons (by omega) (fits_cons (by omega) (fits_cons (by omega) (fits_cons (by omega) (fits_cons (by omega) ho)))))))))))))))))))

theorem wsum_first {x y : Int} {r : List Int} (h : ∀ i, 0 ≤ (x :: y :: r).getD i 0 ∧ (x :: y :: r).getD i 0 ≤ 255) : x * 256 ≤ wsum (x :: y :: r) := by
  have h1 := h 1
  have h2 := wsum_bd (zs := r) (fun i => by simpa using h (i + 2))
  simp only [List.getD_cons_succ, List.getD_cons_zero] at h1
  simp only [wsum]
  omega

/-- The check sum of a head. -/
def hchk (tos id frag ttl pr src dst : Int) (os : List Int) (data : Int) : Int := 65535 - fld (wsum (hb tos id frag ttl pr src dst os data 0))
def ipB (tos id frag ttl pr src dst : Int) (os : List Int) (data : Int) : List Int := hb tos id frag ttl pr src dst os data (hchk tos id frag ttl pr src dst os data)

theorem hb_pos {tos id frag ttl pr src dst : Int} {os : List Int} {data : Int} (hf : HF tos id frag ttl pr os.length data) (hs : 0 ≤ src ∧ src ≤ 4294967295) (hd : 0 ≤ dst ∧ dst ≤ 4294967295) (ho : ∀ i, 0 ≤ os.getD i 0 ∧ os.getD i 0 ≤ 255) : 0 < wsum (hb tos id frag ttl pr src dst os data 0) := by
  have := wsum_first (hb_bd hf hs hd ho (chk := 0) (by omega))
  have h2 : (64 + (20 + (os.length : Int)) / 4) * 256 ≤ wsum (hb tos id frag ttl pr src dst os data 0) := this
  omega
theorem hchk_bd {tos id frag ttl pr src dst : Int} {os : List Int} {data : Int} (hf : HF tos id frag ttl pr os.length data) (hs : 0 ≤ src ∧ src ≤ 4294967295) (hd : 0 ≤ dst ∧ dst ≤ 4294967295) (ho : ∀ i, 0 ≤ os.getD i 0 ∧ os.getD i 0 ≤ 255) : 0 ≤ hchk tos id frag ttl pr src dst os data ∧ hchk tos id frag ttl pr src dst os data ≤ 65534 := by
  have := hb_pos hf hs hd ho
  unfold hchk fld
  split <;> omega
theorem ipB_bd {tos id frag ttl pr src dst : Int} {os : List Int} {data : Int} (hf : HF tos id frag ttl pr os.length data) (hs : 0 ≤ src ∧ src ≤ 4294967295) (hd : 0 ≤ dst ∧ dst ≤ 4294967295) (ho : ∀ i, 0 ≤ os.getD i 0 ∧ os.getD i 0 ≤ 255) :
    ∀ i, 0 ≤ (ipB tos id frag ttl pr src dst os data).getD i 0 ∧ (ipB tos id frag ttl pr src dst os data).getD i 0 ≤ 255 :=
  hb_bd hf hs hd ho (by have := hchk_bd hf hs hd ho; omega)
/-- The lengths of the head with which some bytes begin: its size, the total length, what is wrong. -/
def msr (zs : List Int) (room : Int) : Int × Int × Int :=
  if (zs.length : Int) < 20 then (0, 0, 20)
  else if zs.getD 0 0 / 16 ≠ 4 ∨ zs.getD 0 0 % 16 * 4 < 20 then (0, 0, 21)
  else if (zs.length : Int) < zs.getD 0 0 % 16 * 4 ∨ room < zs.getD 2 0 * 256 + zs.getD 3 0 then (0, 0, 20)
  else if zs.getD 2 0 * 256 + zs.getD 3 0 < zs.getD 0 0 % 16 * 4 then (0, 0, 21)
  else if fld (wsum (zs.take (zs.getD 0 0 % 16 * 4).toNat)) ≠ 65535 then (0, 0, 30)
  else (zs.getD 0 0 % 16 * 4, zs.getD 2 0 * 256 + zs.getD 3 0, 0)

/-- The lengths are right. -/
structure MOk (zs : List Int) (room : Int) (n : Nat) : Prop where
  len : n ≤ zs.length
  twenty : 20 ≤ n
  four : zs.getD 0 0 = 64 + (n : Int) / 4 ∧ n % 4 = 0 ∧ n ≤ 60
  room : zs.getD 2 0 * 256 + zs.getD 3 0 ≤ room
  total : (n : Int) ≤ zs.getD 2 0 * 256 + zs.getD 3 0
  sum : fld (wsum (zs.take n)) = 65535

theorem msr_yes {zs : List Int} {room : Int} {n : Nat} (h : MOk zs room n) : msr zs room = ((n : Int), zs.getD 2 0 * 256 + zs.getD 3 0, 0) := by
  obtain ⟨h1, h2, ⟨h3, h4, h5⟩, h6, h7, h8⟩ := h
  have e : zs.getD 0 0 % 16 * 4 = n := by rw [h3]; omega
  unfold msr
  rw [e, if_neg (by omega), if_neg (by rw [h3]; omega), if_neg (by omega), if_neg (by omega), if_neg (by simp [h8])]
theorem msr_cases (zs : List Int) (room : Int) (hz : ∀ i, 0 ≤ zs.getD i 0 ∧ zs.getD i 0 ≤ 255) : (∃ f, (f = 20 ∨ f = 21 ∨ f = 30) ∧ msr zs room = (0, 0, f)) ∨ ∃ n, MOk zs room n := by
  have h0 := hz 0
  unfold msr
  split
  · exact .inl ⟨20, by simp, rfl⟩
  split
  · exact .inl ⟨21, by simp, rfl⟩
  split
  · exact .inl ⟨20, by simp, rfl⟩
  split
  · exact .inl ⟨21, by simp, rfl⟩
  split
  · exact .inl ⟨30, by simp, rfl⟩
  · rename_i a1 a2 a3 a4 a5
    refine .inr ⟨(zs.getD 0 0 % 16 * 4).toNat, by omega, by omega, ⟨by omega, by omega, by omega⟩, by omega, by omega, ?_⟩
    exact Decidable.not_not.1 a5
/-- The fields that stand in a head of n bytes. -/
def ipF (zs : List Int) (n : Nat) : Value := .agg #[.int .i64 (num ((zs.drop 1).take 1)), .int .i64 (num ((zs.drop 4).take 2)), .int .i64 (num ((zs.drop 6).take 2)), .int .i64 (num ((zs.drop 8).take 1)), .int .i64 (num ((zs.drop 9).take 1)), .int .u32 (num ((zs.drop 12).take 4)), .int .u32 (num ((zs.drop 16).take 4)), .string (strOfNums ((zs.drop 20).take (n - 20)))]
def ip0 : Value := .agg #[.int .i64 0, .int .i64 0, .int .i64 0, .int .i64 0, .int .i64 0, .int .u32 0, .int .u32 0, .string ⟨#[]⟩]
def ipV (tos id frag ttl pr src dst : Int) (os : List Int) : Value := .agg #[.int .i64 tos, .int .i64 id, .int .i64 frag, .int .i64 ttl, .int .i64 pr, .int .u32 src, .int .u32 dst, .string (strOfNums os)]

theorem one_more {zs : List Int} {n : Nat} (h : n + 1 ≤ zs.length) : ∃ x r, zs = x :: r ∧ n ≤ r.length := by
  match zs, h with
  | x :: r, h => exact ⟨x, r, rfl, by simpa using h⟩
theorem twenty {zs : List Int} (h : 20 ≤ zs.length) : ∃ z0 z1 z2 z3 z4 z5 z6 z7 z8 z9 z10 z11 z12 z13 z14 z15 z16 z17 z18 z19 r, zs = z0 :: z1 :: z2 :: z3 :: z4 :: z5 :: z6 :: z7 :: z8 :: z9 :: z10 :: z11 :: z12 :: z13 :: z14 :: z15 :: z16 :: z17 :: z18 :: z19 :: r := by
  obtain ⟨z0, r0, rfl, h0⟩ := one_more h
  obtain ⟨z1, r1, rfl, h1⟩ := one_more h0
  obtain ⟨z2, r2, rfl, h2⟩ := one_more h1
  obtain ⟨z3, r3, rfl, h3⟩ := one_more h2
  obtain ⟨z4, r4, rfl, h4⟩ := one_more h3
  obtain ⟨z5, r5, rfl, h5⟩ := one_more h4
  obtain ⟨z6, r6, rfl, h6⟩ := one_more h5
  obtain ⟨z7, r7, rfl, h7⟩ := one_more h6
  obtain ⟨z8, r8, rfl, h8⟩ := one_more h7
  obtain ⟨z9, r9, rfl, h9⟩ := one_more h8
  obtain ⟨z10, r10, rfl, h10⟩ := one_more h9
  obtain ⟨z11, r11, rfl, h11⟩ := one_more h10
  obtain ⟨z12, r12, rfl, h12⟩ := one_more h11
  obtain ⟨z13, r13, rfl, h13⟩ := one_more h12
  obtain ⟨z14, r14, rfl, h14⟩ := one_more h13
  obtain ⟨z15, r15, rfl, h15⟩ := one_more h14
  obtain ⟨z16, r16, rfl, h16⟩ := one_more h15
  obtain ⟨z17, r17, rfl, h17⟩ := one_more h16
  obtain ⟨z18, r18, rfl, h18⟩ := one_more h17
  obtain ⟨z19, r19, rfl, h19⟩ := one_more h18
  exact ⟨_, _, _, _, _, _, _, _, _, _, _, _, _, _, _, _, _, _, _, _, _, rfl⟩

end Go.Proofs.Ytgonckbdkgiddaa.Ip

namespace Go.Proofs.Ytgonckbdkgiddaa.Ip
open Go.RowKit

theorem getD_set_ne (zs : List Int) (k i : Nat) (x : Int) (h : k ≠ i) : (zs.set k x).getD i 0 = zs.getD i 0 := by
  simp [List.getD_eq_getElem?_getD, h]
end Go.Proofs.Ytgonckbdkgiddaa.Ip

namespace Go.Proofs.Ytgonckbdkgiddaa.Ip
open Go.RowKit

theorem and15 (x : Int) (h : 0 ≤ x ∧ x ≤ 255) : bits .and .u8 x 15 = x % 16 := by
  rw [u8_and x 15 (by omega) (by omega) (by omega) (by omega), show (15 : Int).toNat = 2 ^ 4 - 1 from rfl, Nat.and_two_pow_sub_one_eq_mod]
  omega

theorem take_two (zs : List Int) (k : Nat) (h : k + 2 ≤ zs.length) : (zs.drop k).take 2 = [zs.getD k 0, zs.getD (k + 1) 0] := by
  rw [List.drop_eq_getElem_cons (show k < zs.length by omega), List.drop_eq_getElem_cons (show k + 1 < zs.length by omega)]
  simp only [List.take_succ_cons, List.take_zero, List.getD_eq_getElem?_getD]
  rw [List.getElem?_eq_getElem (show k < zs.length by omega), List.getElem?_eq_getElem (show k + 1 < zs.length by omega)]
  rfl
theorem num_two (zs : List Int) (k : Nat) (h : k + 2 ≤ zs.length) : num ((zs.drop k).take 2) = zs.getD k 0 * 256 + zs.getD (k + 1) 0 := by
  rw [take_two zs k h]; simp [num]

def msrV (m : Int × Int × Int) : Value := .tuple #[.int .i64 m.1, .int .i64 m.2.1, .int .i64 m.2.2]

set_option maxHeartbeats 1000000 in
theorem measure_short (w : World) (a : Option Addr) (n cap : Nat) (room : Int) (h : n < 20) :
    Calls Try.prog 55 #[.slice a n cap, .int .i64 room] w fun e w' => e = .returned (msrV (0, 0, 20)) ∧ w' = w := by
  have h1 : (n : Int) < 20 := by omega
  go_enter Try.func55, Try.ntmps55
  go_wp2_with fail
  refine scope_from ?_
  go_wp2
  go_step3
  show FromLabel _ _ _ _ _ _
  refine from_label rfl ?_
  go_wp2
  simp only [Exit.jumpTo]
  refine bodyPost_ret (v := msrV (0, 0, 20)) ?_ rfl ⟨rfl, rfl⟩
  simp [results, Try.results55, go_sem, msrV]

set_option maxHeartbeats 1000000 in
theorem measure_ver (w : World) (b off n cap : Nat) (zs : List Int) (room : Int) (h : BS w (some ⟨b, off, none⟩) n zs) (hcap : n ≤ cap) (h20 : 20 ≤ n) (z T : Int) (m : Nat) (hz : zs.getD 0 0 = z) (hT0 : zs.getD 2 0 * 256 + zs.getD 3 0 = T) (hm2 : z % 16 * 4 = (m : Int)) (hv : z / 16 ≠ 4) :
    Calls Try.prog 55 #[.slice (some ⟨b, off, none⟩) n cap, .int .i64 room] w fun e w' => e = .returned (msrV (0, 0, 21)) ∧ ∃ nq, w' = w.drewN nq := by
  have hl := h.len
  have h1 : ¬ (n : Int) < 20 := by omega
  have hc0 : w.cell? ⟨b, off, none⟩ = some (.int .u8 z) := by
    rcases h.cells with h0 | ⟨b', off', e, hc⟩
    · omega
    · cases e
      have := hc 0 (by omega)
      rw [hz] at this
      simpa using this
  have hf0 : 0 ≤ z ∧ z ≤ 255 := by have := h.fits 0; rw [hz] at this; exact this
  have ha := and15 _ hf0
  have hT : num ((zs.drop 2).take 2) = T := (num_two zs 2 (by omega)).trans hT0
  have hTb : 0 ≤ T ∧ T ≤ 65535 := by have := h.fits 2; have := h.fits 3; omega
  have hmb : (m : Int) ≤ 60 := by omega
  have hv2 : (z / 16 != 4) = true := by simp [hv]
  clear hv
  have H : Hid _ := h
  clear h hz hT0
  go_enter Try.func55, Try.ntmps55
  go_wp2_with fail
  refine scope_from ?_
  go_wp2
  go_quiet (exact Calls.quiet_of_same (word_any _ b off n cap 2 zs (H.out.drewN _) (by omega) hcap))
  go_wp2_with (go_at_call 66; refine (sum_any _ ((H.out.take m (by omega)).drewN _)).mono ?_; rintro e w' ⟨rfl, nq2, rfl⟩)
  go_step3
  show FromLabel _ _ _ _ _ _
  refine from_label rfl ?_
  go_wp2
  simp only [Exit.jumpTo]
  refine bodyPost_ret (v := msrV (0, 0, 21)) ?_ rfl ⟨rfl, _, rfl⟩
  simp [results, Try.results55, go_sem, msrV]

set_option maxHeartbeats 1000000 in
theorem measure_few (w : World) (b off n cap : Nat) (zs : List Int) (room : Int) (h : BS w (some ⟨b, off, none⟩) n zs) (hcap : n ≤ cap) (h20 : 20 ≤ n) (z T : Int) (m : Nat) (hz : zs.getD 0 0 = z) (hT0 : zs.getD 2 0 * 256 + zs.getD 3 0 = T) (hm2 : z % 16 * 4 = (m : Int)) (hv : z / 16 = 4) (hs : m < 20) :
    Calls Try.prog 55 #[.slice (some ⟨b, off, none⟩) n cap, .int .i64 room] w fun e w' => e = .returned (msrV (0, 0, 21)) ∧ ∃ nq, w' = w.drewN nq := by
  have hl := h.len
  have h1 : ¬ (n : Int) < 20 := by omega
  have hc0 : w.cell? ⟨b, off, none⟩ = some (.int .u8 z) := by
    rcases h.cells with h0 | ⟨b', off', e, hc⟩
    · omega
    · cases e
      have := hc 0 (by omega)
      rw [hz] at this
      simpa using this
  have hf0 : 0 ≤ z ∧ z ≤ 255 := by have := h.fits 0; rw [hz] at this; exact this
  have ha := and15 _ hf0
  have hT : num ((zs.drop 2).take 2) = T := (num_two zs 2 (by omega)).trans hT0
  have hTb : 0 ≤ T ∧ T ≤ 65535 := by have := h.fits 2; have := h.fits 3; omega
  have hmb : (m : Int) ≤ 60 := by omega
  have hv2 : (z / 16 != 4) = false := by simp [hv]
  have hs2 : (m : Int) < 20 := by omega
  have H : Hid _ := h
  clear h hz hT0
  go_enter Try.func55, Try.ntmps55
  go_wp2_with fail
  refine scope_from ?_
  go_wp2
  go_quiet (exact Calls.quiet_of_same (word_any _ b off n cap 2 zs (H.out.drewN _) (by omega) hcap))
  go_wp2_with (go_at_call 66; refine (sum_any _ ((H.out.take m (by omega)).drewN _)).mono ?_; rintro e w' ⟨rfl, nq2, rfl⟩)
  go_step3
  show FromLabel _ _ _ _ _ _
  refine from_label rfl ?_
  go_wp2
  simp only [Exit.jumpTo]
  refine bodyPost_ret (v := msrV (0, 0, 21)) ?_ rfl ⟨rfl, _, rfl⟩
  simp [results, Try.results55, go_sem, msrV]

set_option maxHeartbeats 1000000 in
theorem measure_len (w : World) (b off n cap : Nat) (zs : List Int) (room : Int) (h : BS w (some ⟨b, off, none⟩) n zs) (hcap : n ≤ cap) (h20 : 20 ≤ n) (z T : Int) (m : Nat) (hz : zs.getD 0 0 = z) (hT0 : zs.getD 2 0 * 256 + zs.getD 3 0 = T) (hm2 : z % 16 * 4 = (m : Int)) (hv : z / 16 = 4) (hs : 20 ≤ m) (hn : n < m) :
    Calls Try.prog 55 #[.slice (some ⟨b, off, none⟩) n cap, .int .i64 room] w fun e w' => e = .returned (msrV (0, 0, 20)) ∧ ∃ nq, w' = w.drewN nq := by
  have hl := h.len
  have h1 : ¬ (n : Int) < 20 := by omega
  have hc0 : w.cell? ⟨b, off, none⟩ = some (.int .u8 z) := by
    rcases h.cells with h0 | ⟨b', off', e, hc⟩
    · omega
    · cases e
      have := hc 0 (by omega)
      rw [hz] at this
      simpa using this
  have hf0 : 0 ≤ z ∧ z ≤ 255 := by have := h.fits 0; rw [hz] at this; exact this
  have ha := and15 _ hf0
  have hT : num ((zs.drop 2).take 2) = T := (num_two zs 2 (by omega)).trans hT0
  have hTb : 0 ≤ T ∧ T ≤ 65535 := by have := h.fits 2; have := h.fits 3; omega
  have hmb : (m : Int) ≤ 60 := by omega
  have hv2 : (z / 16 != 4) = false := by simp [hv]
  have hs2 : ¬ (m : Int) < 20 := by omega
  have hs3 : (n : Int) < m := by omega
  have H : Hid _ := h
  clear h hz hT0
  go_enter Try.func55, Try.ntmps55
  go_wp2_with fail
  refine scope_from ?_
  go_wp2
  go_quiet (exact Calls.quiet_of_same (word_any _ b off n cap 2 zs (H.out.drewN _) (by omega) hcap))
  go_wp2_with (go_at_call 66; refine (sum_any _ ((H.out.take m (by omega)).drewN _)).mono ?_; rintro e w' ⟨rfl, nq2, rfl⟩)
  go_step3
  show FromLabel _ _ _ _ _ _
  refine from_label rfl ?_
  go_wp2
  simp only [Exit.jumpTo]
  refine bodyPost_ret (v := msrV (0, 0, 20)) ?_ rfl ⟨rfl, _, rfl⟩
  simp [results, Try.results55, go_sem, msrV]

set_option maxHeartbeats 1000000 in
theorem measure_room (w : World) (b off n cap : Nat) (zs : List Int) (room : Int) (h : BS w (some ⟨b, off, none⟩) n zs) (hcap : n ≤ cap) (h20 : 20 ≤ n) (z T : Int) (m : Nat) (hz : zs.getD 0 0 = z) (hT0 : zs.getD 2 0 * 256 + zs.getD 3 0 = T) (hm2 : z % 16 * 4 = (m : Int)) (hv : z / 16 = 4) (hs : 20 ≤ m) (hn : m ≤ n) (hr : room < T) :
    Calls Try.prog 55 #[.slice (some ⟨b, off, none⟩) n cap, .int .i64 room] w fun e w' => e = .returned (msrV (0, 0, 20)) ∧ ∃ nq, w' = w.drewN nq := by
  have hl := h.len
  have h1 : ¬ (n : Int) < 20 := by omega
  have hc0 : w.cell? ⟨b, off, none⟩ = some (.int .u8 z) := by
    rcases h.cells with h0 | ⟨b', off', e, hc⟩
    · omega
    · cases e
      have := hc 0 (by omega)
      rw [hz] at this
      simpa using this
  have hf0 : 0 ≤ z ∧ z ≤ 255 := by have := h.fits 0; rw [hz] at this; exact this
  have ha := and15 _ hf0
  have hT : num ((zs.drop 2).take 2) = T := (num_two zs 2 (by omega)).trans hT0
  have hTb : 0 ≤ T ∧ T ≤ 65535 := by have := h.fits 2; have := h.fits 3; omega
  have hmb : (m : Int) ≤ 60 := by omega
  have hv2 : (z / 16 != 4) = false := by simp [hv]
  have hs2 : ¬ (m : Int) < 20 := by omega
  have hs3 : ¬ (n : Int) < m := by omega
  have H : Hid _ := h
  clear h hz hT0
  go_enter Try.func55, Try.ntmps55
  go_wp2_with fail
  refine scope_from ?_
  go_wp2
  go_quiet (exact Calls.quiet_of_same (word_any _ b off n cap 2 zs (H.out.drewN _) (by omega) hcap))
  go_wp2_with (go_at_call 66; refine (sum_any _ ((H.out.take m (by omega)).drewN _)).mono ?_; rintro e w' ⟨rfl, nq2, rfl⟩)
  go_step3
  show FromLabel _ _ _ _ _ _
  refine from_label rfl ?_
  go_wp2
  simp only [Exit.jumpTo]
  refine bodyPost_ret (v := msrV (0, 0, 20)) ?_ rfl ⟨rfl, _, rfl⟩
  simp [results, Try.results55, go_sem, msrV]

set_option maxHeartbeats 1000000 in
theorem measure_total (w : World) (b off n cap : Nat) (zs : List Int) (room : Int) (h : BS w (some ⟨b, off, none⟩) n zs) (hcap : n ≤ cap) (h20 : 20 ≤ n) (z T : Int) (m : Nat) (hz : zs.getD 0 0 = z) (hT0 : zs.getD 2 0 * 256 + zs.getD 3 0 = T) (hm2 : z % 16 * 4 = (m : Int)) (hv : z / 16 = 4) (hs : 20 ≤ m) (hn : m ≤ n) (hr : T ≤ room) (ht : T < m) :
    Calls Try.prog 55 #[.slice (some ⟨b, off, none⟩) n cap, .int .i64 room] w fun e w' => e = .returned (msrV (0, 0, 21)) ∧ ∃ nq, w' = w.drewN nq := by
  have hl := h.len
  have h1 : ¬ (n : Int) < 20 := by omega
  have hc0 : w.cell? ⟨b, off, none⟩ = some (.int .u8 z) := by
    rcases h.cells with h0 | ⟨b', off', e, hc⟩
    · omega
    · cases e
      have := hc 0 (by omega)
      rw [hz] at this
      simpa using this
  have hf0 : 0 ≤ z ∧ z ≤ 255 := by have := h.fits 0; rw [hz] at this; exact this
  have ha := and15 _ hf0
  have hT : num ((zs.drop 2).take 2) = T := (num_two zs 2 (by omega)).trans hT0
  have hTb : 0 ≤ T ∧ T ≤ 65535 := by have := h.fits 2; have := h.fits 3; omega
  have hmb : (m : Int) ≤ 60 := by omega
  have hv2 : (z / 16 != 4) = false := by simp [hv]
  have hs2 : ¬ (m : Int) < 20 := by omega
  have hs3 : ¬ (n : Int) < m := by omega
  have hr2 : ¬ room < T := by omega
  have H : Hid _ := h
  clear h hz hT0
  go_enter Try.func55, Try.ntmps55
  go_wp2_with fail
  refine scope_from ?_
  go_wp2
  go_quiet (exact Calls.quiet_of_same (word_any _ b off n cap 2 zs (H.out.drewN _) (by omega) hcap))
  go_wp2_with (go_at_call 66; refine (sum_any _ ((H.out.take m (by omega)).drewN _)).mono ?_; rintro e w' ⟨rfl, nq2, rfl⟩)
  go_step3
  show FromLabel _ _ _ _ _ _
  refine from_label rfl ?_
  go_wp2
  simp only [Exit.jumpTo]
  refine bodyPost_ret (v := msrV (0, 0, 21)) ?_ rfl ⟨rfl, _, rfl⟩
  simp [results, Try.results55, go_sem, msrV]

set_option maxHeartbeats 1000000 in
theorem measure_sum (w : World) (b off n cap : Nat) (zs : List Int) (room : Int) (h : BS w (some ⟨b, off, none⟩) n zs) (hcap : n ≤ cap) (h20 : 20 ≤ n) (z T : Int) (m : Nat) (hz : zs.getD 0 0 = z) (hT0 : zs.getD 2 0 * 256 + zs.getD 3 0 = T) (hm2 : z % 16 * 4 = (m : Int)) (hv : z / 16 = 4) (hs : 20 ≤ m) (hn : m ≤ n) (hr : T ≤ room) (ht : (m : Int) ≤ T) (hS : fld (wsum (zs.take m)) ≠ 65535) :
    Calls Try.prog 55 #[.slice (some ⟨b, off, none⟩) n cap, .int .i64 room] w fun e w' => e = .returned (msrV (0, 0, 30)) ∧ ∃ nq, w' = w.drewN nq := by
  have hl := h.len
  have h1 : ¬ (n : Int) < 20 := by omega
  have hc0 : w.cell? ⟨b, off, none⟩ = some (.int .u8 z) := by
    rcases h.cells with h0 | ⟨b', off', e, hc⟩
    · omega
    · cases e
      have := hc 0 (by omega)
      rw [hz] at this
      simpa using this
  have hf0 : 0 ≤ z ∧ z ≤ 255 := by have := h.fits 0; rw [hz] at this; exact this
  have ha := and15 _ hf0
  have hT : num ((zs.drop 2).take 2) = T := (num_two zs 2 (by omega)).trans hT0
  have hTb : 0 ≤ T ∧ T ≤ 65535 := by have := h.fits 2; have := h.fits 3; omega
  have hmb : (m : Int) ≤ 60 := by omega
  have hv2 : (z / 16 != 4) = false := by simp [hv]
  have hs2 : ¬ (m : Int) < 20 := by omega
  have hs3 : ¬ (n : Int) < m := by omega
  have hr2 : ¬ room < T := by omega
  have ht2 : ¬ T < m := by omega
  have hS2 : (fld (wsum (zs.take m)) != 65535) = true := by simp [hS]
  have hmc : (m : Int) ≤ cap := by omega
  clear hS
  have H : Hid _ := h
  clear h hz hT0
  go_enter Try.func55, Try.ntmps55
  go_wp2_with fail
  refine scope_from ?_
  go_wp2
  go_quiet (exact Calls.quiet_of_same (word_any _ b off n cap 2 zs (H.out.drewN _) (by omega) hcap))
  go_wp2_with (go_at_call 66; refine (sum_any _ ((H.out.take m (by omega)).drewN _)).mono ?_; rintro e w' ⟨rfl, nq2, rfl⟩)
  go_step3
  show FromLabel _ _ _ _ _ _
  refine from_label rfl ?_
  go_wp2
  simp only [Exit.jumpTo]
  refine bodyPost_ret (v := msrV (0, 0, 30)) ?_ rfl ⟨rfl, _, rfl⟩
  simp [results, Try.results55, go_sem, msrV]

set_option maxHeartbeats 1000000 in
theorem measure_okay (w : World) (b off n cap : Nat) (zs : List Int) (room : Int) (h : BS w (some ⟨b, off, none⟩) n zs) (hcap : n ≤ cap) (h20 : 20 ≤ n) (z T : Int) (m : Nat) (hz : zs.getD 0 0 = z) (hT0 : zs.getD 2 0 * 256 + zs.getD 3 0 = T) (hm2 : z % 16 * 4 = (m : Int)) (hv : z / 16 = 4) (hs : 20 ≤ m) (hn : m ≤ n) (hr : T ≤ room) (ht : (m : Int) ≤ T) (hS : fld (wsum (zs.take m)) = 65535) :
    Calls Try.prog 55 #[.slice (some ⟨b, off, none⟩) n cap, .int .i64 room] w fun e w' => e = .returned (msrV ((m : Int), T, 0)) ∧ ∃ nq, w' = w.drewN nq := by
  have hl := h.len
  have h1 : ¬ (n : Int) < 20 := by omega
  have hc0 : w.cell? ⟨b, off, none⟩ = some (.int .u8 z) := by
    rcases h.cells with h0 | ⟨b', off', e, hc⟩
    · omega
    · cases e
      have := hc 0 (by omega)
      rw [hz] at this
      simpa using this
  have hf0 : 0 ≤ z ∧ z ≤ 255 := by have := h.fits 0; rw [hz] at this; exact this
  have ha := and15 _ hf0
  have hT : num ((zs.drop 2).take 2) = T := (num_two zs 2 (by omega)).trans hT0
  have hTb : 0 ≤ T ∧ T ≤ 65535 := by have := h.fits 2; have := h.fits 3; omega
  have hmb : (m : Int) ≤ 60 := by omega
  have hv2 : (z / 16 != 4) = false := by simp [hv]
  have hs2 : ¬ (m : Int) < 20 := by omega
  have hs3 : ¬ (n : Int) < m := by omega
  have hr2 : ¬ room < T := by omega
  have ht2 : ¬ T < m := by omega
  have hS2 : (fld (wsum (zs.take m)) != 65535) = false := by simp [hS]
  have hmc : (m : Int) ≤ cap := by omega
  clear hS
  have H : Hid _ := h
  clear h hz hT0
  go_enter Try.func55, Try.ntmps55
  go_wp2_with fail
  refine scope_from ?_
  go_wp2
  go_quiet (exact Calls.quiet_of_same (word_any _ b off n cap 2 zs (H.out.drewN _) (by omega) hcap))
  go_wp2_with (go_at_call 66; refine (sum_any _ ((H.out.take m (by omega)).drewN _)).mono ?_; rintro e w' ⟨rfl, nq2, rfl⟩)
  simp only [Exit.jumpTo]
  refine bodyPost_ret (v := msrV ((m : Int), T, 0)) ?_ rfl ⟨rfl, _, rfl⟩
  simp [results, Try.results55, go_sem, msrV]

theorem measure_any (w : World) (a : Option Addr) (n cap : Nat) (zs : List Int) (room : Int) (h : BS w a n zs) (hcap : n ≤ cap) :
    Calls Try.prog 55 #[.slice a n cap, .int .i64 room] w fun e w' => e = .returned (msrV (msr zs room)) ∧ ∃ nq, w' = w.drewN nq := by
  have hl := h.len
  by_cases h20 : n < 20
  · rw [show msr zs room = (0, 0, 20) from by unfold msr; rw [if_pos (by omega)]]
    exact (measure_short w a n cap room h20).mono fun e w' ⟨h1, h2⟩ => ⟨h1, 0, h2⟩
  · obtain ⟨b, off, rfl⟩ : ∃ b off, a = some ⟨b, off, none⟩ := by
      rcases h.cells with h0 | ⟨b, off, e, _⟩
      · omega
      · exact ⟨b, off, e⟩
    have hf := h.fits 0
    have hf2 := h.fits 2
    have hf3 := h.fits 3
    have hm2 : zs.getD 0 0 % 16 * 4 = ((zs.getD 0 0 % 16 * 4).toNat : Int) := by omega
    unfold msr
    rw [if_neg (by omega)]
    by_cases c1 : zs.getD 0 0 / 16 = 4
    · by_cases c2 : zs.getD 0 0 % 16 * 4 < 20
      · rw [if_pos (.inr c2)]
        exact measure_few w b off n cap zs room h hcap (by omega) _ _ _ rfl rfl hm2 c1 (by omega)
      · rw [if_neg (by omega)]
        by_cases c3 : (zs.length : Int) < zs.getD 0 0 % 16 * 4
        · rw [if_pos (.inl c3)]
          exact measure_len w b off n cap zs room h hcap (by omega) _ _ _ rfl rfl hm2 c1 (by omega) (by omega)
        · by_cases c4 : room < zs.getD 2 0 * 256 + zs.getD 3 0
          · rw [if_pos (.inr c4)]
            exact measure_room w b off n cap zs room h hcap (by omega) _ _ _ rfl rfl hm2 c1 (by omega) (by omega) c4
          · rw [if_neg (by omega)]
            by_cases c5 : zs.getD 2 0 * 256 + zs.getD 3 0 < zs.getD 0 0 % 16 * 4
            · rw [if_pos c5]
              exact measure_total w b off n cap zs room h hcap (by omega) _ _ _ rfl rfl hm2 c1 (by omega) (by omega) (by omega) (by omega)
            · rw [if_neg c5]
              by_cases c6 : fld (wsum (zs.take (zs.getD 0 0 % 16 * 4).toNat)) = 65535
              · rw [if_neg (fun hne => hne c6)]
                have := measure_okay w b off n cap zs room h hcap (by omega) _ _ _ rfl rfl hm2 c1 (by omega) (by omega) (by omega) (by omega) c6
                rw [← hm2] at this
                exact this
              · rw [if_pos c6]
                exact measure_sum w b off n cap zs room h hcap (by omega) _ _ _ rfl rfl hm2 c1 (by omega) (by omega) (by omega) (by omega) c6
    · rw [if_pos (.inl c1)]
      exact measure_ver w b off n cap zs room h hcap (by omega) _ _ _ rfl rfl hm2 c1

end Go.Proofs.Ytgonckbdkgiddaa.Ip

namespace Go.Proofs.Ytgonckbdkgiddaa.Ip
open Go.RowKit

theorem fitN8 (v : Int) : fitN 8 v = fit8 v := rfl
theorem fitN16 (v : Int) : fitN 16 v = fit16 v := rfl

set_option maxHeartbeats 1000000 in
theorem hfits_any (tos id frag ttl pr src dst : Int) (os : List Int) (w : World) (hn : os.length ≤ 281474976710656) :
    Calls Try.prog 44 #[ipV tos id frag ttl pr src dst os] w fun e w' => e = .returned (.bool (headOk tos id frag ttl pr os.length)) ∧ w' = w.alloc (.cells #[.int .i64 tos, .int .i64 id, .int .i64 frag, .int .i64 ttl, .int .i64 pr, .int .u32 src, .int .u32 dst, .string (strOfNums os)] 51) := by
  have hsz := strOfNums_size os
  have ht : (os.length : Int).tmod 4 = (os.length : Int) % 4 := Int.tmod_eq_emod_of_nonneg (by omega)
  unfold ipV
  cases c0 : fitN 8 tos
  · have e : headOk tos id frag ttl pr os.length = false := by rw [fitN8] at c0; simp [headOk, c0]
    rw [e]
    go_enter Try.func44, Try.ntmps44
    go_wp2_with (go_at_call 34; refine (fitN_any _ _ (by omega) _).mono ?_; rintro e w' ⟨rfl, rfl⟩)
    go_ret
    exact ⟨rfl, rfl⟩
  cases c1 : fitN 8 ttl
  · have e : headOk tos id frag ttl pr os.length = false := by rw [fitN8] at c1; simp [headOk, c1]
    rw [e]
    go_enter Try.func44, Try.ntmps44
    go_wp2_with (go_at_call 34; refine (fitN_any _ _ (by omega) _).mono ?_; rintro e w' ⟨rfl, rfl⟩)
    go_ret
    exact ⟨rfl, rfl⟩
  cases c2 : fitN 8 pr
  · have e : headOk tos id frag ttl pr os.length = false := by rw [fitN8] at c2; simp [headOk, c2]
    rw [e]
    go_enter Try.func44, Try.ntmps44
    go_wp2_with (go_at_call 34; refine (fitN_any _ _ (by omega) _).mono ?_; rintro e w' ⟨rfl, rfl⟩)
    go_ret
    exact ⟨rfl, rfl⟩
  cases c3 : fitN 16 id
  · have e : headOk tos id frag ttl pr os.length = false := by rw [fitN16] at c3; simp [headOk, c3]
    rw [e]
    go_enter Try.func44, Try.ntmps44
    go_wp2_with (go_at_call 34; refine (fitN_any _ _ (by omega) _).mono ?_; rintro e w' ⟨rfl, rfl⟩)
    go_ret
    exact ⟨rfl, rfl⟩
  cases c4 : fitN 16 frag
  · have e : headOk tos id frag ttl pr os.length = false := by rw [fitN16] at c4; simp [headOk, c4]
    rw [e]
    go_enter Try.func44, Try.ntmps44
    go_wp2_with (go_at_call 34; refine (fitN_any _ _ (by omega) _).mono ?_; rintro e w' ⟨rfl, rfl⟩)
    go_ret
    exact ⟨rfl, rfl⟩
  have e0 : headOk tos id frag ttl pr os.length = (decide (os.length ≤ 40) && decide (os.length % 4 = 0)) := by
    rw [fitN8] at c0 c1 c2
    rw [fitN16] at c3 c4
    simp [headOk, c0, c1, c2, c3, c4]
  by_cases c6 : (os.length : Int) ≤ 40
  · have e : headOk tos id frag ttl pr os.length = ((os.length : Int) % 4 == 0) := by
      rw [e0, Bool.eq_iff_iff]
      simp
      omega
    rw [e]
    clear e e0 hn
    go_enter Try.func44, Try.ntmps44
    go_wp2_with (go_at_call 34; refine (fitN_any _ _ (by omega) _).mono ?_; rintro e w' ⟨rfl, rfl⟩)
    go_ret
    exact ⟨rfl, rfl⟩
  · have e : headOk tos id frag ttl pr os.length = false := by rw [e0]; simp; omega
    rw [e]
    clear e e0
    go_enter Try.func44, Try.ntmps44
    go_wp2_with (go_at_call 34; refine (fitN_any _ _ (by omega) _).mono ?_; rintro e w' ⟨rfl, rfl⟩)
    go_ret
    exact ⟨rfl, rfl⟩

set_option maxHeartbeats 1000000 in
theorem put_any (f : Nat) (hf : f = 45) (w0 W : World) (p : Nat) (xs : List Int) (h : Enc w0 W p xs) (hn : xs.length ≤ 1000000) (v : Int) (hv : 0 ≤ v ∧ v ≤ 9223372036854775807) (s : Nat) (hs : s ≤ 8) :
    Calls Try.prog f #[.int .i64 v, .int .i64 s, .pointer (some ⟨p, 0, none⟩)] W fun e w' => e = .returned (.tuple #[]) ∧ Enc w0 w' p (xs ++ be v s) := by
  subst hf
  obtain ⟨hb, hp, a, cap, hc, ho⟩ := h
  have hc0 := cell_of_one hc
  have hf0 := free_of_one hc
  have HC : Hid _ := hc
  have HO : Hid _ := ho
  have HB : Hid _ := hb
  clear hc ho hb
  go_enter Try.func45, Try.ntmps45
  go_wp2_with fail
  refine (appendNumber_any w0.heap.size W a xs.length cap xs HO.out HB.out.size hn v (by omega) s hs).mono ?_
  rintro e w1 ⟨a', cap', rfl, hr⟩
  have hap := row_apart HO.out HC.out
  have hc1 : w1.heap[p]? = some (.cells #[.slice a xs.length cap] 26 (0, 0)) := (hr.grown.block p (lt_of_block HC.out) (fun e => hap e.symm)).trans HC.out
  have hc1' := cell_of_one hc1
  have hf1 := free_of_one hc1
  have HC1 : Hid _ := hc1
  have HR : Hid _ := hr
  clear hc1 hr hap hc0 hf0
  go_wp2
  go_end0
  refine ⟨rfl, ?_, hp, a', cap', ?_, ?_⟩
  · exact (HB.out.grown HR.out.grown HB.out.size (fun k hk => (World.ownsRow.lt HO.out k hk).1)).setCell hp _
  · rw [one_setCell HC1.out]; simp [be_len]
  · rw [show (xs ++ be v s).length = xs.length + s from by simp [be_len]]
    exact ownsRow_setCell_other HR.out.own (row_apart HR.out.own HC1.out) _

theorem put_lit (w0 W : World) (p : Nat) (xs : List Int) (h : Enc w0 W p xs) (hn : xs.length ≤ 1000000) (v : Int) (hv : 0 ≤ v ∧ v ≤ 9223372036854775807) (s : Int) (hs0 : 0 ≤ s) (hs : s ≤ 8) :
    Calls Try.prog 45 #[.int .i64 v, .int .i64 s, .pointer (some ⟨p, 0, none⟩)] W fun e w' => e = .returned (.tuple #[]) ∧ Enc w0 w' p (xs ++ be v s.toNat) := by
  obtain ⟨s, rfl⟩ := Int.eq_ofNat_of_zero_le hs0
  exact put_any 45 rfl w0 W p xs h hn v hv s (by omega)

theorem enc_start (w2 : World) (arr : Array Value) (c p g : Nat) (hp : p = w2.heap.size + 1) (hg : g = w2.heap.size) (hc : arr.size = c) (hm : c ≤ 1000000) :
    Enc w2 ((w2.alloc (.cells arr 5)).alloc (.cells #[.slice (some ⟨g, 0, none⟩) 0 c] 26)) p [] := by
  subst hp
  subst hg
  refine ⟨below2 w2 _ _, by omega, some ⟨w2.heap.size, 0, none⟩, c, ?_, ?_⟩
  · have := heap_alloc_new (w2.alloc (.cells arr 5)) (.cells #[.slice (some ⟨w2.heap.size, 0, none⟩) 0 c] 26)
    simpa using this
  · exact (World.ownsRow_made w2 arr c (Nat.le_refl _) (by unfold maxLen; omega) (by simpa using hc)).alloc _

theorem make_bytes (w : World) (c : Nat) (hc : c ≤ 281474976710656) : (Instr.makeSlice 26 (.int .i64 0) (.int .i64 (c : Int))).run Try.prog w = .ok (.slice (some ⟨w.heap.size, 0, none⟩) 0 c) (w.alloc (.cells (madeCells #[.int .u8 0] c) 5)) := by
  obtain ⟨i0, hi, hz0, hz1, hz2⟩ := info_parts info5
  have := run_make (P := Try.prog) w 26 5 i0 (.int .u8 0) Try.underlying26 hi hz0 .i64 .i64 0 (c : Int) (by omega) (by omega) (by rw [hz2]; omega) (by omega)
  rw [hz1] at this
  simpa [Value.cells] using this

theorem or64s (x : Int) (h : 0 ≤ x ∧ x ≤ 15) : bits .or .i64 64 x = 64 + x := by
  have : x = 0 ∨ x = 1 ∨ x = 2 ∨ x = 3 ∨ x = 4 ∨ x = 5 ∨ x = 6 ∨ x = 7 ∨ x = 8 ∨ x = 9 ∨ x = 10 ∨ x = 11 ∨ x = 12 ∨ x = 13 ∨ x = 14 ∨ x = 15 := by omega
  rcases this with rfl | rfl | rfl | rfl | rfl | rfl | rfl | rfl | rfl | rfl | rfl | rfl | rfl | rfl | rfl | rfl <;> (first | rfl | decide +kernel)

theorem strCells_nums {os : List Int} (h : ∀ i, 0 ≤ os.getD i 0 ∧ os.getD i 0 ≤ 255) : Lib.strCells (strOfNums os) = os.map (Value.int .u8) := by
  unfold Lib.strCells
  rw [strOfNums_data, List.map_map]
  apply List.map_congr_left
  intro x hx
  obtain ⟨i, hi, rfl⟩ := List.getElem_of_mem hx
  have := h i
  rw [List.getD_eq_getElem?_getD, List.getElem?_eq_getElem hi] at this
  simp only [Option.getD_some] at this
  simp only [Function.comp]
  congr 1
  rw [UInt8.toNat_ofNat']
  omega

theorem wpList_append_str {P : Program} {w : World} {ops : Array Oper} {rest : List Oper} {o : Oper} {act : Act} {Q : Exit → Act → World → Prop} (hgd : o.guard = none) (s x : Operand) (t u : TypeId)
    (ho : o.op = .call { callee := .builtin .append, args := #[s, x], argTypes := #[t, u] })
    (base : Nat) (e : TypeId) (i : TypeInfo) (ht : P.underlying t = some (.slice e)) (hu : P.underlying u = some .string) (hi : P.info? e = some i) (hz : i.zero = some (.int .u8 0)) (hsize : i.size = 1) (hby : i.bytes = 1)
    (v : Value) (n : Nat) (xs : List Int) (hs : act.eval s = v) (hown : w.ownsRow base e 1 v n (xs.map (Value.int .u8)))
    (os : List Int) (hf : ∀ i, 0 ≤ os.getD i 0 ∧ os.getD i 0 ≤ 255) (hx : act.eval x = .string (strOfNums os)) (hsum : n + os.length ≤ 140737488355328) (hbase : base ≤ w.heap.size)
    (h : ∀ a' cap' w', w'.ownsRow base e 1 (.slice a' (n + os.length) cap') (n + os.length) ((xs ++ os).map (Value.int .u8)) → w.grownBy w' v.ownBlock → wpList P ops Q rest (act.put o.dst (.slice a' (n + os.length) cap')) w') : wpList P ops Q (o :: rest) act w := by
  have hsz := strOfNums_size os
  refine Lib.wpList_append_own_string w hgd s x t u ho base e i ht hu hi hz hsize hby v n _ hs hown (strOfNums os) hx (by rw [hsz]; unfold maxLen; omega) (by rw [hsz]; omega) hbase ?_
  intro v' w' h2 h3 _
  rw [hsz, strCells_nums hf, ← List.map_append] at h2
  obtain ⟨a', cap', rfl, _⟩ := own_form h2
  exact h a' cap' w' h2 h3

theorem pre_hb {tos id frag ttl pr src dst : Int} {os : List Int} {data : Int} (hf : HF tos id frag ttl pr os.length data) (hs : 0 ≤ src ∧ src ≤ 4294967295) (hd : 0 ≤ dst ∧ dst ≤ 4294967295) :
    [] ++ be (64 + (20 + (os.length : Int)) / 4) (1 : Int).toNat ++ be tos (1 : Int).toNat ++ be (20 + (os.length : Int) + data) (2 : Int).toNat ++ be id (2 : Int).toNat ++ be frag (2 : Int).toNat ++ be ttl (1 : Int).toNat ++ be pr (1 : Int).toNat ++ be 0 (2 : Int).toNat ++ be src (4 : Int).toNat ++ be dst (4 : Int).toNat ++ os = hb tos id frag ttl pr src dst os data 0 := by
  obtain ⟨f1, f2, f3, f4, f5, f6, f7, f8⟩ := hf
  have q8 : (2 : Int) ^ (8 * 1) = 256 := by decide
  have q0 : (2 : Int) ^ (8 * 0) = 1 := by decide
  have q16 : (2 : Int) ^ (8 * 2) = 65536 := by decide
  have q24 : (2 : Int) ^ (8 * 3) = 16777216 := by decide
  simp only [Int.reduceToNat, be, hb, List.nil_append, List.cons_append, List.cons.injEq, q0, q8, q16, q24]
  refine ⟨by omega, by omega, by omega, by omega, by omega, by omega, by omega, by omega, by omega, by omega, by omega, by omega, by omega, trivial, trivial, by omega, by omega, trivial, trivial, by omega, trivial⟩

end Go.Proofs.Ytgonckbdkgiddaa.Ip

namespace Go.Proofs.Ytgonckbdkgiddaa.Ip
open Go.RowKit

theorem _root_.Go.Proofs.Ytgonckbdkgiddaa.AtB.eight {W : World} {b : Nat} {x0 x1 x2 x3 x4 x5 x6 x7 : Value} (h : AtB W b #[x0, x1, x2, x3, x4, x5, x6, x7]) :
    W.cell? ⟨b, 0, none⟩ = some x0 ∧ W.cell? ⟨b, 1, none⟩ = some x1 ∧ W.cell? ⟨b, 2, none⟩ = some x2 ∧ W.cell? ⟨b, 3, none⟩ = some x3 ∧ W.cell? ⟨b, 4, none⟩ = some x4 ∧ W.cell? ⟨b, 5, none⟩ = some x5 ∧ W.cell? ⟨b, 6, none⟩ = some x6 ∧ W.cell? ⟨b, 7, none⟩ = some x7 :=
  ⟨h.2 0, h.2 1, h.2 2, h.2 3, h.2 4, h.2 5, h.2 6, h.2 7⟩

/-- A row of bytes of the call's own, at the head of its block. -/
structure EncS (w2 V : World) (g N cap : Nat) (B : List Int) : Prop where
  own : V.ownsRow w2.heap.size 5 1 (.slice (some ⟨g, 0, none⟩) N cap) N (B.map (Value.int .u8))
  bel : Below w2.heap.size w2 V
  fits : ∀ i, 0 ≤ B.getD i 0 ∧ B.getD i 0 ≤ 255
  room : N ≤ 281474976710656
theorem EncS.drew {w2 V : World} {g N cap : Nat} {B : List Int} (h : EncS w2 V g N cap B) : EncS w2 V.drew g N cap B := ⟨h.own, h.bel.drew, h.fits, h.room⟩
theorem EncS.drewN {w2 V : World} {g N cap : Nat} {B : List Int} (h : EncS w2 V g N cap B) (q : Nat) : EncS w2 (V.drewN q) g N cap B := ⟨h.own, below_drewN h.bel q, h.fits, h.room⟩
theorem EncS.bs {w2 V : World} {g N cap : Nat} {B : List Int} (h : EncS w2 V g N cap B) : BS V (some ⟨g, 0, none⟩) N B := own_bs h.own h.fits h.room
theorem EncS.cell {w2 V : World} {g N cap : Nat} {B : List Int} (h : EncS w2 V g N cap B) (t : Nat) (ht : t < N) : V.cell? ⟨g, t, none⟩ = some (.int .u8 (B.getD t 0)) := by
  have hl : B.length = N := by have := h.own.1; simpa using this
  rw [h.own.cellAt t (by omega), List.getElem?_map]
  simp [List.getD_eq_getElem?_getD, List.getElem?_eq_getElem (show t < B.length by omega)]
theorem EncS.set {w2 V : World} {g N cap : Nat} {B : List Int} (h : EncS w2 V g N cap B) (t : Nat) (x : Int) (hx : 0 ≤ x ∧ x ≤ 255) : EncS w2 (V.setCell ⟨g, t, none⟩ (.int .u8 x)) g N cap (B.set t x) := by
  refine ⟨?_, ?_, fits_set h.fits t x hx, h.room⟩
  · have := (h.own.stored t (.int .u8 x)).1
    simpa [List.map_set] using this
  · refine h.bel.setCell ?_ _
    exact (World.ownsRow.lt h.own g rfl).1

/-- SetWord on a row of the call's own. -/
theorem setWord_row {w2 V : World} {g N cap : Nat} {B : List Int} (h : EncS w2 V g N cap B) (t : Nat) (v : Int) (hv : 0 ≤ v ∧ v ≤ 65535) (ht : t + 2 ≤ N) :
    Calls Try.prog 42 #[.slice (some ⟨g, 0, none⟩) N cap, .int .i64 t, .int .u16 v] V fun e w' => e = .returned (.tuple #[]) ∧ w' = (V.setCell ⟨g, t, none⟩ (.int .u8 (v / 256))).setCell ⟨g, t + 1, none⟩ (.int .u8 (v % 256)) ∧ EncS w2 w' g N cap ((B.set t (v / 256)).set (t + 1) (v % 256)) := by
  refine (setWord_any V g N cap t v _ _ (h.cell t (by omega)) (h.cell (t + 1) (by omega)) (h.own.frozenAt t) (h.own.frozenAt (t + 1)) hv ht h.room).mono ?_
  rintro e w' ⟨rfl, rfl⟩
  exact ⟨rfl, rfl, (h.set t _ (by omega)).set (t + 1) _ (by omega)⟩

set_option maxHeartbeats 2000000 in
theorem encode_yes (tos id frag ttl pr src dst : Int) (os : List Int) (data : Int) (w : World) (hs : 0 ≤ src ∧ src ≤ 4294967295) (hd : 0 ≤ dst ∧ dst ≤ 4294967295) (ho : ∀ i, 0 ≤ os.getD i 0 ∧ os.getD i 0 ≤ 255) (h : encOk tos id frag ttl pr os.length data = true) :
    Calls Try.prog 20 #[ipV tos id frag ttl pr src dst os, .int .i64 data] w fun e w' => ∃ a cap, e = .returned (.tuple #[.slice a (20 + os.length) cap, .int .i64 0]) ∧ w'.ownsRow w.heap.size 5 1 (.slice a (20 + os.length) cap) (20 + os.length) ((ipB tos id frag ttl pr src dst os data).map (Value.int .u8)) ∧ Below w.heap.size w w' := by
  have hf := encOk_yes h
  have hok : headOk tos id frag ttl pr os.length = true := by
    cases c : headOk tos id frag ttl pr os.length
    · simp [encOk, c] at h
    · rfl
  obtain ⟨f1, f2, f3, f4, f5, f6, f7, f8⟩ := hf
  have HF0 : Hid (HF tos id frag ttl pr os.length data) := encOk_yes h
  clear h
  have hsz := strOfNums_size os
  have hnI : (os.length : Int) ≤ 40 := by omega
  have hun : ipV tos id frag ttl pr src dst os = .agg #[.int .i64 tos, .int .i64 id, .int .i64 frag, .int .i64 ttl, .int .i64 pr, .int .u32 src, .int .u32 dst, .string (strOfNums os)] := rfl
  rw [hun]
  have hd0 : ¬ data < 0 := by omega
  have hd1 : ¬ 65535 - (20 + (os.length : Int)) < data := by omega
  have hor := or64s ((20 + (os.length : Int)) / 4) (by omega)
  have hmk : ∀ w, (Instr.makeSlice 26 (.int .i64 0) (.int .i64 (20 + (os.length : Int)))).run Try.prog w = .ok (.slice (some ⟨w.heap.size, 0, none⟩) 0 (20 + os.length)) (w.alloc (.cells (madeCells #[.int .u8 0] (20 + os.length)) 5)) := fun w => make_bytes w (20 + os.length) (by omega)
  go_enter Try.func20, Try.ntmps20
  go_wp2_with (go_at_call 44; rw [← hun]; refine (hfits_any _ _ _ _ _ _ _ _ _ (by omega)).mono ?_; rintro e w' ⟨rfl, rfl⟩)
  clear hmk
  have he := enc_start ((w.alloc (.cells #[.int .i64 tos, .int .i64 id, .int .i64 frag, .int .i64 ttl, .int .i64 pr, .int .u32 src, .int .u32 dst, .string (strOfNums os)] 51)).alloc (.cells #[.int .i64 tos, .int .i64 id, .int .i64 frag, .int .i64 ttl, .int .i64 pr, .int .u32 src, .int .u32 dst, .string (strOfNums os)] 51)) (madeCells #[.int .u8 0] (20 + os.length)) (20 + os.length) (w.heap.size + 1 + 1 + 1) (w.heap.size + 1 + 1) (by simp) (by simp) (by simp [size_madeCells]) (by omega)
  have hA : AtB ((w.alloc (.cells #[.int .i64 tos, .int .i64 id, .int .i64 frag, .int .i64 ttl, .int .i64 pr, .int .u32 src, .int .u32 dst, .string (strOfNums os)] 51)).alloc (.cells #[.int .i64 tos, .int .i64 id, .int .i64 frag, .int .i64 ttl, .int .i64 pr, .int .u32 src, .int .u32 dst, .string (strOfNums os)] 51)) w.heap.size #[.int .i64 tos, .int .i64 id, .int .i64 frag, .int .i64 ttl, .int .i64 pr, .int .u32 src, .int .u32 dst, .string (strOfNums os)] := (atB_new w _ 51 _ rfl).below (below1 _ _)
  have hbw := below2 w (.cells #[.int .i64 tos, .int .i64 id, .int .i64 frag, .int .i64 ttl, .int .i64 pr, .int .u32 src, .int .u32 dst, .string (strOfNums os)] 51) (.cells #[.int .i64 tos, .int .i64 id, .int .i64 frag, .int .i64 ttl, .int .i64 pr, .int .u32 src, .int .u32 dst, .string (strOfNums os)] 51)
  have hw2 : ((w.alloc (.cells #[.int .i64 tos, .int .i64 id, .int .i64 frag, .int .i64 ttl, .int .i64 pr, .int .u32 src, .int .u32 dst, .string (strOfNums os)] 51)).alloc (.cells #[.int .i64 tos, .int .i64 id, .int .i64 frag, .int .i64 ttl, .int .i64 pr, .int .u32 src, .int .u32 dst, .string (strOfNums os)] 51)).heap.size = w.heap.size + 1 + 1 := by simp
  have HA : Hid _ := hA
  clear hA
  generalize ((w.alloc (.cells #[.int .i64 tos, .int .i64 id, .int .i64 frag, .int .i64 ttl, .int .i64 pr, .int .u32 src, .int .u32 dst, .string (strOfNums os)] 51)).alloc (.cells #[.int .i64 tos, .int .i64 id, .int .i64 frag, .int .i64 ttl, .int .i64 pr, .int .u32 src, .int .u32 dst, .string (strOfNums os)] 51)) = w2 at he HA hbw hw2 ⊢
  refine (put_lit _ _ _ _ he (by simp) (64 + (20 + (os.length : Int)) / 4) (by omega) 1 (by omega) (by omega)).mono ?_
  clear he
  rintro e W1 ⟨rfl, h1⟩
  have E1 : Hid _ := h1
  obtain ⟨x0, x1, x2, x3, x4, x5, x6, x7⟩ := (AtB.below HA.out h1.bel).eight
  clear h1
  go_wp2_with fail
  clear x0 x1 x2 x3 x4 x5 x6 x7
  refine (put_lit _ _ _ _ E1.out (by simp [be_len]) tos (by omega) 1 (by omega) (by omega)).mono ?_
  clear E1
  rintro e W2 ⟨rfl, h2⟩
  have E2 : Hid _ := h2
  obtain ⟨x0, x1, x2, x3, x4, x5, x6, x7⟩ := (AtB.below HA.out h2.bel).eight
  clear h2
  go_wp2_with fail
  clear x0 x1 x2 x3 x4 x5 x6 x7
  refine (put_lit _ _ _ _ E2.out (by simp [be_len]) (20 + (os.length : Int) + data) (by omega) 2 (by omega) (by omega)).mono ?_
  clear E2
  rintro e W3 ⟨rfl, h3⟩
  have E3 : Hid _ := h3
  obtain ⟨x0, x1, x2, x3, x4, x5, x6, x7⟩ := (AtB.below HA.out h3.bel).eight
  clear h3
  go_wp2_with fail
  clear x0 x1 x2 x3 x4 x5 x6 x7
  refine (put_lit _ _ _ _ E3.out (by simp [be_len]) id (by omega) 2 (by omega) (by omega)).mono ?_
  clear E3
  rintro e W4 ⟨rfl, h4⟩
  have E4 : Hid _ := h4
  obtain ⟨x0, x1, x2, x3, x4, x5, x6, x7⟩ := (AtB.below HA.out h4.bel).eight
  clear h4
  go_wp2_with fail
  clear x0 x1 x2 x3 x4 x5 x6 x7
  refine (put_lit _ _ _ _ E4.out (by simp [be_len]) frag (by omega) 2 (by omega) (by omega)).mono ?_
  clear E4
  rintro e W5 ⟨rfl, h5⟩
  have E5 : Hid _ := h5
  obtain ⟨x0, x1, x2, x3, x4, x5, x6, x7⟩ := (AtB.below HA.out h5.bel).eight
  clear h5
  go_wp2_with fail
  clear x0 x1 x2 x3 x4 x5 x6 x7
  refine (put_lit _ _ _ _ E5.out (by simp [be_len]) ttl (by omega) 1 (by omega) (by omega)).mono ?_
  clear E5
  rintro e W6 ⟨rfl, h6⟩
  have E6 : Hid _ := h6
  obtain ⟨x0, x1, x2, x3, x4, x5, x6, x7⟩ := (AtB.below HA.out h6.bel).eight
  clear h6
  go_wp2_with fail
  clear x0 x1 x2 x3 x4 x5 x6 x7
  refine (put_lit _ _ _ _ E6.out (by simp [be_len]) pr (by omega) 1 (by omega) (by omega)).mono ?_
  clear E6
  rintro e W7 ⟨rfl, h7⟩
  have E7 : Hid _ := h7
  obtain ⟨x0, x1, x2, x3, x4, x5, x6, x7⟩ := (AtB.below HA.out h7.bel).eight
  clear h7
  go_wp2_with fail
  clear x0 x1 x2 x3 x4 x5 x6 x7
  refine (put_lit _ _ _ _ E7.out (by simp [be_len]) 0 (by omega) 2 (by omega) (by omega)).mono ?_
  clear E7
  rintro e W8 ⟨rfl, h8⟩
  have E8 : Hid _ := h8
  obtain ⟨x0, x1, x2, x3, x4, x5, x6, x7⟩ := (AtB.below HA.out h8.bel).eight
  clear h8
  go_wp2_with fail
  clear x0 x1 x2 x3 x4 x5 x6 x7
  refine (put_lit _ _ _ _ E8.out (by simp [be_len]) src (by omega) 4 (by omega) (by omega)).mono ?_
  clear E8
  rintro e W9 ⟨rfl, h9⟩
  have E9 : Hid _ := h9
  obtain ⟨x0, x1, x2, x3, x4, x5, x6, x7⟩ := (AtB.below HA.out h9.bel).eight
  clear h9
  go_wp2_with fail
  clear x0 x1 x2 x3 x4 x5 x6 x7
  refine (put_lit _ _ _ _ E9.out (by simp [be_len]) dst (by omega) 4 (by omega) (by omega)).mono ?_
  clear E9
  rintro e W10 ⟨rfl, h10⟩
  have E10 : Hid _ := h10
  obtain ⟨x0, x1, x2, x3, x4, x5, x6, x7⟩ := (AtB.below HA.out h10.bel).eight
  clear h10
  have hX := pre_hb HF0.out hs hd
  have hTb := E10.out.bel
  have hTh := E10.out.here
  obtain ⟨a, cap, hc, hr⟩ := E10.out.row
  have hXl : ([] ++ be (64 + (20 + (os.length : Int)) / 4) (1 : Int).toNat ++ be tos (1 : Int).toNat ++ be (20 + (os.length : Int) + data) (2 : Int).toNat ++ be id (2 : Int).toNat ++ be frag (2 : Int).toNat ++ be ttl (1 : Int).toNat ++ be pr (1 : Int).toNat ++ be 0 (2 : Int).toNat ++ be src (4 : Int).toNat ++ be dst (4 : Int).toNat).length = 20 := by simp [be_len]
  rw [hXl] at hc hr
  generalize ([] ++ be (64 + (20 + (os.length : Int)) / 4) (1 : Int).toNat ++ be tos (1 : Int).toNat ++ be (20 + (os.length : Int) + data) (2 : Int).toNat ++ be id (2 : Int).toNat ++ be frag (2 : Int).toNat ++ be ttl (1 : Int).toNat ++ be pr (1 : Int).toNat ++ be 0 (2 : Int).toNat ++ be src (4 : Int).toNat ++ be dst (4 : Int).toNat) = X at hX hXl hr
  clear E10
  obtain ⟨i0, hi, hz0, hz1, hz2⟩ := info_parts info5
  have hcc := cell_of_one hc
  have hfc := free_of_one hc
  have HC : Hid (W10.heap[w.heap.size + 1 + 1 + 1]? = some (.cells #[.slice a 20 cap] 26 (0, 0))) := hc
  have HR : Hid (W10.ownsRow w2.heap.size 5 1 (.slice a 20 cap) 20 (X.map (Value.int .u8))) := hr
  have HX : Hid (X ++ os = hb tos id frag ttl pr src dst os data 0) := hX
  clear hc hr hX
  go_wp2_with (at_builtin; refine wpList_append_str rfl (.tmp 71) (.tmp 73) 26 9 rfl w2.heap.size 5 i0 Try.underlying26 Try.underlying9 hi hz0 hz1 hz2 _ 20 X rfl HR.out os ho rfl (by omega) hTb.size ?_; intro a' cap' W11 r1 g1; clear hcc hfc; have hc1 : W11.heap[w.heap.size + 1 + 1 + 1]? = some (.cells #[.slice a 20 cap] 26 (0, 0)) := (g1.block _ (lt_of_block HC.out) (fun e => row_apart HR.out HC.out e.symm)).trans HC.out; have hcc := cell_of_one hc1; have hfc := free_of_one hc1)
  have hb0 := hb_bd (chk := 0) HF0.out hs hd ho (by omega)
  have hr11 : (W11.setCell ⟨w.heap.size + 1 + 1 + 1, 0, none⟩ (.slice a' (20 + os.length) cap')).ownsRow w2.heap.size 5 1 (.slice a' (20 + os.length) cap') (20 + os.length) ((hb tos id frag ttl pr src dst os data 0).map (Value.int .u8)) := by
    rw [← HX.out]
    exact ownsRow_setCell_other r1 (row_apart r1 hc1) _
  have hb11 : Below w2.heap.size w2 (W11.setCell ⟨w.heap.size + 1 + 1 + 1, 0, none⟩ (.slice a' (20 + os.length) cap')) := (hTb.grown g1 hTb.size (fun k hk => (World.ownsRow.lt HR.out k hk).1)).setCell hTh _
  have hl11 : (W11.setCell ⟨w.heap.size + 1 + 1 + 1, 0, none⟩ (.slice a' (20 + os.length) cap')).cell? ⟨w.heap.size + 1 + 1 + 1, 0, none⟩ = some (.slice a' (20 + os.length) cap') := World.cell?_setCell_same _ _ _ hcc
  have hap : (Value.slice a' (20 + os.length) cap').ownBlock ≠ some (w.heap.size + 1 + 1 + 1) := row_apart r1 hc1
  obtain ⟨g, rfl, hg1, hg2⟩ := own_some r1 (by omega)
  have hgp : g ≠ w.heap.size + 1 + 1 + 1 := fun e => hap (by simp [Value.ownBlock, e])
  have hE : EncS w2 (W11.setCell ⟨w.heap.size + 1 + 1 + 1, 0, none⟩ (.slice (some ⟨g, 0, none⟩) (20 + os.length) cap')) g (20 + os.length) cap' (hb tos id frag ttl pr src dst os data 0) := ⟨hr11, hb11, hb0, by omega⟩
  clear hr11 hb11 hcc hfc hc1 r1 g1 HC HR HX hXl hTb hTh hap hg1 hg2 x0 x1 x2 x3 x4 x5 x6 x7 hi hz0 hz1 hz2
  have hcb := hchk_bd HF0.out hs hd ho
  have hdef : Hid (65535 - fld (wsum (hb tos id frag ttl pr src dst os data 0)) = hchk tos id frag ttl pr src dst os data) := rfl
  have hset : Hid _ := hb_set tos id frag ttl pr src dst os data (hchk tos id frag ttl pr src dst os data)
  generalize hCe : hchk tos id frag ttl pr src dst os data = C at *
  have HCe : Hid (hchk tos id frag ttl pr src dst os data = C) := hCe
  clear hCe
  generalize W11.setCell ⟨w.heap.size + 1 + 1 + 1, 0, none⟩ (.slice (some ⟨g, 0, none⟩) (20 + os.length) cap') = V0 at *
  generalize hb tos id frag ttl pr src dst os data 0 = B0 at *
  go_region_held3 (fun V => V.cell? ⟨w.heap.size + 1 + 1 + 1, 0, none⟩ = some (.slice (some ⟨g, 0, none⟩) (20 + os.length) cap'))
    (first
      | exact hl11
      | (rw [World.cell?_setCell_other _ _ _ _ (fun e => hgp (congrArg Addr.block e)), World.cell?_setCell_other _ _ _ _ (fun e => hgp (congrArg Addr.block e))]; exact hl11)
      | fail)
    (first
      | (go_at_call 46; refine (check_any _ (zs := B0) hE.drew.bs).mono ?_; rintro e V1 ⟨rfl, nq1, rfl⟩; rw [hdef.out])
      | (go_at_call 46; refine (check_any _ (zs := B0) hE.bs).mono ?_; rintro e V1 ⟨rfl, nq1, rfl⟩; rw [hdef.out])
      | (go_at_call 42; refine (setWord_row (w2 := w2) (B := B0) (hE.drewN _) 10 C (by omega) (by omega)).mono ?_; rintro e V2 ⟨rfl, rfl, hE2⟩)
      | fail)
  all_goals
    have hl2 : (((V0.drewN (1 + nq1)).setCell ⟨g, 10, none⟩ (.int .u8 (C / 256))).setCell ⟨g, 10 + 1, none⟩ (.int .u8 (C % 256))).cell? ⟨w.heap.size + 1 + 1 + 1, 0, none⟩ = some (.slice (some ⟨g, 0, none⟩) (20 + os.length) cap') := by
      rw [World.cell?_setCell_other _ _ _ _ (fun e => hgp (congrArg Addr.block e)), World.cell?_setCell_other _ _ _ _ (fun e => hgp (congrArg Addr.block e))]
      exact hl11
    have HE2 : Hid (EncS w2 (((V0.drewN (1 + nq1)).setCell ⟨g, 10, none⟩ (.int .u8 (C / 256))).setCell ⟨g, 10 + 1, none⟩ (.int .u8 (C % 256))) g (20 + os.length) cap' (hb tos id frag ttl pr src dst os data C)) := by
      have := hE2
      rw [show ((B0.set 10 (C / 256)).set (10 + 1) (C % 256)) = _ from hset.out] at this
      exact this
    clear hE2
    generalize (((V0.drewN (1 + nq1)).setCell ⟨g, 10, none⟩ (.int .u8 (C / 256))).setCell ⟨g, 10 + 1, none⟩ (.int .u8 (C % 256))) = V2 at *
    go_wp2
    go_ret2
    refine ⟨some ⟨g, 0, none⟩, cap', rfl, ?_, ?_⟩
    · have := HE2.out.own
      unfold ipB
      rw [HCe.out]
      obtain ⟨o1, o2⟩ := this
      refine ⟨o1, ?_⟩
      rcases o2 with o2 | ⟨g, c, cur, e1, e2, e3⟩
      · exact .inl o2
      · exact .inr ⟨g, c, cur, e1, by omega, e3⟩
    · exact hbw.trans (HE2.out.bel.mono (by omega))
end Go.Proofs.Ytgonckbdkgiddaa.Ip

namespace Go.Proofs.Ytgonckbdkgiddaa.Ip
open Go.RowKit

theorem num_bd4 {w : World} {a : Option Addr} {n : Nat} {zs : List Int} (h : BS w a n zs) (hn : n ≤ 4) : 0 ≤ num zs ∧ num zs ≤ 4294967295 := by
  have hl := h.len
  have := num_bd zs h.fits zs.length
  rw [List.take_length] at this
  have h2 : (256 : Int) ^ zs.length ≤ 4294967296 := by
    rw [hl]
    match n, hn with
    | 0, _ => decide
    | 1, _ => decide
    | 2, _ => decide
    | 3, _ => decide
    | 4, _ => decide
  omega

set_option maxHeartbeats 1000000 in
theorem take_any (W : World) (p q b off n cap t s : Nat) (zs : List Int) (hat : W.cell? ⟨p, 0, none⟩ = some (.int .i64 t)) (hfr : W.frozen? ⟨p, 0, none⟩ = false) (hbx : W.cell? ⟨q, 0, none⟩ = some (.slice (some ⟨b, off, none⟩) n cap)) (_hpq : p ≠ q) (_hpb : p ≠ b)
    (h : BS W (some ⟨b, off, none⟩) n zs) (hs0 : 0 < s) (hs4 : s ≤ 4) (hts : t + s ≤ n) (hcap : n ≤ cap) :
    Calls Try.prog 56 #[.int .i64 s, .pointer (some ⟨p, 0, none⟩), .pointer (some ⟨q, 0, none⟩)] W fun e w' => e = .returned (.int .i64 (num ((zs.drop t).take s))) ∧ w' = W.setCell ⟨p, 0, none⟩ (.int .i64 ((t : Int) + s)) := by
  have hbx' : (W.setCell ⟨p, 0, none⟩ (.int .i64 ((t : Int) + s))).cell? ⟨q, 0, none⟩ = some (.slice (some ⟨b, off, none⟩) n cap) := (World.cell?_setCell_other _ _ _ _ (by simp)).trans hbx
  have hat' : (W.setCell ⟨p, 0, none⟩ (.int .i64 ((t : Int) + s))).cell? ⟨p, 0, none⟩ = some (.int .i64 ((t : Int) + s)) := World.cell?_setCell_same _ _ _ hat
  have hle : (t : Int) + s ≤ cap := by omega
  have hne : ¬ cap = t := by omega
  have hs' : (s : Int) ≤ 4 := by omega
  have ht' : (t : Int) ≤ 281474976710656 := by have := h.room; omega
  have h1 := (h.drop (by omega) t (by omega)).take s (by omega)
  have hnb := num_bd4 h1 hs4
  have H : Hid (BS (W.setCell ⟨p, 0, none⟩ (.int .i64 ((t : Int) + s))) (some ⟨b, off + t, none⟩) s ((zs.drop t).take s)) := by
    refine ⟨h1.len, h1.fits, h1.room, ?_⟩
    rcases h1.cells with h0 | ⟨b', off', e, hc⟩
    · exact .inl h0
    · cases e
      exact .inr ⟨_, _, rfl, fun i hi => (World.cell?_setCell_other _ _ _ _ (by simp)).trans (hc i hi)⟩
  clear h h1
  go_enter Try.func56, Try.ntmps56
  go_wp2_with fail
  refine (number_any _ H.out (by omega)).mono ?_
  rintro e w1 ⟨rfl, rfl⟩
  go_wp2
  go_ret
  exact ⟨rfl, rfl⟩

set_option maxHeartbeats 1000000 in
theorem take_dec (w : World) (hh : Array Value) (q b off n cap : Nat) (zs : List Int) (h : BS w (some ⟨b, off, none⟩) n zs) (hq : q < w.heap.size) (hbx : w.cell? ⟨q, 0, none⟩ = some (.slice (some ⟨b, off, none⟩) n cap)) (hcap : n ≤ cap) (t s : Int) (ht : 0 ≤ t) (hs0 : 0 < s) (hs4 : s ≤ 4) (hts : t + s ≤ n) (B : Nat) (hB : B = w.heap.size + 1) :
    Calls Try.prog 56 #[.int .i64 s, .pointer (some ⟨B, 0, none⟩), .pointer (some ⟨q, 0, none⟩)]
      ((w.alloc (.cells hh 51)).alloc (.cells #[.int .i64 t] 3))
      fun e w' => e = .returned (.int .i64 (num ((zs.drop t.toNat).take s.toNat))) ∧ w' = ((w.alloc (.cells hh 51)).alloc (.cells #[.int .i64 (t + s)] 3)) := by
  subst hB
  obtain ⟨t, rfl⟩ := Int.eq_ofNat_of_zero_le ht
  obtain ⟨s, rfl⟩ := Int.eq_ofNat_of_zero_le (show 0 ≤ s by omega)
  have hbl : b < w.heap.size := by
    rcases h.cells with h0 | ⟨b', off', e, hc⟩
    · omega
    · cases e
      exact cell_lt (hc 0 (by have := h.len; omega))
  have hB : Below w.heap.size w ((w.alloc (.cells hh 51)).alloc (.cells #[.int .i64 t] 3)) := below2 w _ _
  refine (take_any _ (w.heap.size + 1) q b off n cap t s zs ?_ ?_ ?_ (by omega) (by omega) (h.below hB) (by omega) (by omega) (by omega) hcap).mono ?_
  · simp [go_sem]
  · simp [go_sem]
  · rw [hB.cell hq]; exact hbx
  · rintro e w' ⟨rfl, rfl⟩
    refine ⟨rfl, ?_⟩
    rw [World.setCell_alloc_at _ _ _ _ _ (by simp)]
    rfl

def decV (zs : List Int) : Value := if (msr zs zs.length).2.2 = 0 then .tuple #[ipF zs (msr zs zs.length).1.toNat, .int .i64 (msr zs zs.length).1, .int .i64 (msr zs zs.length).2.1, .int .i64 0] else .tuple #[ip0, .int .i64 0, .int .i64 0, .int .i64 (msr zs zs.length).2.2]

/-- measure in a world with two new blocks: the draws come first. -/
theorem measure_two (w : World) (A B : Obj) (a : Option Addr) (n cap : Nat) (zs : List Int) (room : Int) (h : BS w a n zs) (hcap : n ≤ cap) :
    Calls Try.prog 55 #[.slice a n cap, .int .i64 room] ((w.alloc A).alloc B) fun e w' => e = .returned (msrV (msr zs room)) ∧ ∃ w0 : World, w' = (w0.alloc A).alloc B ∧ w.heap.size = w0.heap.size ∧ BS w0 a n zs ∧ Below w0.heap.size w w0 := by
  refine (measure_any _ a n cap zs room (h.below (below2 w _ _)) hcap).mono ?_
  rintro e w1 ⟨rfl, nq, rfl⟩
  exact ⟨rfl, w.drewN nq, rfl, rfl, h.drewN nq, below_drewN (Below.refl _ _) nq⟩

set_option maxHeartbeats 2000000 in
theorem decode_no (w : World) (a : Option Addr) (n cap : Nat) (zs : List Int) (h : BS w a n zs) (hcap : n ≤ cap) (f : Int) (hf : f = 20 ∨ f = 21 ∨ f = 30) (hm : msr zs n = (0, 0, f)) :
    Calls Try.prog 24 #[.slice a n cap] w fun e w' => e = .returned (.tuple #[ip0, .int .i64 0, .int .i64 0, .int .i64 f]) ∧ Below w.heap.size w w' := by
  have hf0 : (f != 0) = true := by simp; omega
  go_enter Try.func24, Try.ntmps24
  go_wp2_with fail
  refine (measure_two w _ _ a n cap zs n h hcap).mono ?_
  rintro e w1 ⟨rfl, w0, rfl, hs, _, hB⟩
  rw [hm, hs]
  unfold msrV
  clear h hm
  go_wp2
  refine bodyPost_ret (v := .tuple #[ip0, .int .i64 0, .int .i64 0, .int .i64 f]) ?_ rfl ⟨rfl, ?_⟩
  · simp [results, Try.results24, go_sem, ip0]
  · rw [hs]; exact (hB.alloc (Nat.le_refl _) _).alloc (by simp) _
end Go.Proofs.Ytgonckbdkgiddaa.Ip

namespace Go.Proofs.Ytgonckbdkgiddaa.Ip
open Go.RowKit

set_option maxHeartbeats 2000000 in
theorem decode_ok (w : World) (b off n cap : Nat) (zs : List Int) (h : BS w (some ⟨b, off, none⟩) n zs) (hcap : n ≤ cap) (m : Nat) (hm : MOk zs n m) (hc : cap ≠ 20) :
    Calls Try.prog 24 #[.slice (some ⟨b, off, none⟩) n cap] w fun e w' => e = .returned (.tuple #[ipF zs m, .int .i64 m, .int .i64 (zs.getD 2 0 * 256 + zs.getD 3 0), .int .i64 0]) ∧ Below w.heap.size w w' := by
  have hl := h.len
  have h1 := hm.len
  have h2 := hm.twenty
  have h3 := hm.four.2.2
  have hms := msr_yes hm
  clear hm
  generalize zs.getD 2 0 * 256 + zs.getD 3 0 = T at *
  have hn20 : (20 : Int) ≤ n := by omega
  have hm20 : (20 : Int) ≤ m := by omega
  have hmc : (m : Int) ≤ cap := by omega
  have b1 := num_bd4 ((h.drop (by omega) 12 (by omega)).take 4 (by omega)) (by omega)
  have b2 := num_bd4 ((h.drop (by omega) 16 (by omega)).take 4 (by omega)) (by omega)
  have hc20 : ¬ cap = 20 := hc
  go_enter Try.func24, Try.ntmps24
  go_wp2_with fail
  refine (measure_two w _ _ _ n cap zs n h hcap).mono ?_
  rintro e w1 ⟨rfl, w0, rfl, hs, h', hB⟩
  rw [hms, hs]
  unfold msrV
  clear hms h
  have H : Hid (BS ((w0.alloc (.cells #[.slice (some ⟨b, off, none⟩) n cap] 26)).alloc (.cells #[.int .i64 0, .int .i64 0, .int .i64 0, .int .i64 0, .int .i64 0, .int .u32 0, .int .u32 0, .string ⟨#[]⟩] 51)) (some ⟨b, off, none⟩) n zs) := h'.below (below2 w0 _ _)
  have cv : ∀ (hh : Array Value) (t : Int), (convert 26 9 (.slice (some ⟨b, off + 20, none⟩) (m - 20) (cap - 20))).run Try.prog ((((w0.alloc (.cells #[.slice (some ⟨b, off, none⟩) n cap] 26)).alloc (.cells #[.int .i64 0, .int .i64 0, .int .i64 0, .int .i64 0, .int .i64 0, .int .u32 0, .int .u32 0, .string ⟨#[]⟩] 51)).alloc (.cells hh 51)).alloc (.cells #[.int .i64 t] 3)) = .ok (.string (strOfNums ((zs.drop 20).take (m - 20)))) ((((w0.alloc (.cells #[.slice (some ⟨b, off, none⟩) n cap] 26)).alloc (.cells #[.int .i64 0, .int .i64 0, .int .i64 0, .int .i64 0, .int .i64 0, .int .u32 0, .int .u32 0, .string ⟨#[]⟩] 51)).alloc (.cells hh 51)).alloc (.cells #[.int .i64 t] 3)) := fun hh t =>
    run_conv_bs _ (((H.out.drop (by omega) 20 (by omega)).take (m - 20) (by omega)).below (below2 _ _ _)) 26 9 5 Try.underlying26 Try.underlying5 Try.underlying9
  clear h' h1 h2 h3 hl
  go_wp2_with (go_at_call 56; refine (take_dec _ _ w0.heap.size b off n cap zs H.out (by simp; omega) (by simp [go_sem]) hcap _ _ (by omega) (by omega) (by omega) (by omega) _ (by simp)).mono ?_; rintro e w1 ⟨rfl, rfl⟩)
  refine bodyPost_ret (v := .tuple #[ipF zs m, .int .i64 m, .int .i64 T, .int .i64 0]) ?_ rfl ⟨rfl, ?_⟩
  · simp [results, Try.results24, go_sem, ipF]
  · rw [hs]; exact (((hB.alloc (Nat.le_refl _) _).alloc (by simp) _).alloc (by simp; omega) _).alloc (by simp; omega) _

end Go.Proofs.Ytgonckbdkgiddaa.Ip

namespace Go.Proofs.Ytgonckbdkgiddaa.Ip
open Go.RowKit

set_option maxHeartbeats 2000000 in
theorem decode_tight (w : World) (b off n cap : Nat) (zs : List Int) (h : BS w (some ⟨b, off, none⟩) n zs) (hcap : n ≤ cap) (m : Nat) (hm : MOk zs n m) (hc : cap = 20) :
    Calls Try.prog 24 #[.slice (some ⟨b, off, none⟩) n cap] w fun e w' => e = .returned (.tuple #[ipF zs m, .int .i64 m, .int .i64 (zs.getD 2 0 * 256 + zs.getD 3 0), .int .i64 0]) ∧ Below w.heap.size w w' := by
  have hl := h.len
  have h1 := hm.len
  have h2 := hm.twenty
  have h3 := hm.four.2.2
  have hms := msr_yes hm
  clear hm
  generalize zs.getD 2 0 * 256 + zs.getD 3 0 = T at *
  have hn20 : (20 : Int) ≤ n := by omega
  have hm20 : (20 : Int) ≤ m := by omega
  have hmc : (m : Int) ≤ cap := by omega
  have b1 := num_bd4 ((h.drop (by omega) 12 (by omega)).take 4 (by omega)) (by omega)
  have b2 := num_bd4 ((h.drop (by omega) 16 (by omega)).take 4 (by omega)) (by omega)
  obtain rfl : n = 20 := by omega
  obtain rfl : m = 20 := by omega
  subst hc
  clear hn20 hm20 hmc
  go_enter Try.func24, Try.ntmps24
  go_wp2_with fail
  refine (measure_two w _ _ _ 20 20 zs 20 h hcap).mono ?_
  rintro e w1 ⟨rfl, w0, rfl, hs, h', hB⟩
  rw [show msr zs 20 = ((20 : Int), T, 0) from hms, hs]
  unfold msrV
  clear hms h
  have H : Hid (BS ((w0.alloc (.cells #[.slice (some ⟨b, off, none⟩) 20 20] 26)).alloc (.cells #[.int .i64 0, .int .i64 0, .int .i64 0, .int .i64 0, .int .i64 0, .int .u32 0, .int .u32 0, .string ⟨#[]⟩] 51)) (some ⟨b, off, none⟩) 20 zs) := h'.below (below2 w0 _ _)
  have cv : ∀ W : World, (convert 26 9 (.slice (some ⟨b, off, none⟩) 0 0)).run Try.prog W = .ok (.string ⟨#[]⟩) W := fun W =>
    run_conv_bs 0 (BS.empty (w := W) (some ⟨b, off, none⟩)) 26 9 5 Try.underlying26 Try.underlying5 Try.underlying9
  clear h' h1 h2 h3
  go_wp2_with (go_at_call 56; refine (take_dec _ _ w0.heap.size b off 20 20 zs H.out (by simp; omega) (by simp [go_sem]) hcap _ _ (by omega) (by omega) (by omega) (by omega) _ (by simp)).mono ?_; rintro e w1 ⟨rfl, rfl⟩)
  refine bodyPost_ret (v := .tuple #[ipF zs 20, .int .i64 20, .int .i64 T, .int .i64 0]) ?_ rfl ⟨rfl, ?_⟩
  · simp [results, Try.results24, go_sem, ipF, strOfNums]
  · rw [hs]; exact (((hB.alloc (Nat.le_refl _) _).alloc (by simp) _).alloc (by simp; omega) _).alloc (by simp; omega) _


theorem decode_any (w : World) (a : Option Addr) (n cap : Nat) (zs : List Int) (h : BS w a n zs) (hcap : n ≤ cap) :
    (∀ f, (f = 20 ∨ f = 21 ∨ f = 30) → msr zs n = (0, 0, f) → Calls Try.prog 24 #[.slice a n cap] w fun e w' => e = .returned (.tuple #[ip0, .int .i64 0, .int .i64 0, .int .i64 f]) ∧ Below w.heap.size w w') ∧
    (∀ m, MOk zs n m → Calls Try.prog 24 #[.slice a n cap] w fun e w' => e = .returned (.tuple #[ipF zs m, .int .i64 m, .int .i64 (zs.getD 2 0 * 256 + zs.getD 3 0), .int .i64 0]) ∧ Below w.heap.size w w') := by
  refine ⟨fun f hf hm => decode_no w a n cap zs h hcap f hf hm, fun m hm => ?_⟩
  have hl := h.len
  obtain ⟨b, off, rfl⟩ : ∃ b off, a = some ⟨b, off, none⟩ := by
    rcases h.cells with h0 | ⟨b, off, e, _⟩
    · have := hm.len; have := hm.twenty; omega
    · exact ⟨b, off, e⟩
  by_cases hc : cap = 20
  · exact decode_tight w b off n cap zs h hcap m hm hc
  · exact decode_ok w b off n cap zs h hcap m hm hc

end Go.Proofs.Ytgonckbdkgiddaa.Ip
