/- The bytes of an IPv4 head, their sums, and what is read of them: plain laws on lists of numbers, no program. No condition. -/
import Derived.Test.YtgonckbdkgiddaaLOct
namespace Go.Proofs.Ytgonckbdkgiddaa.Ip
open Go.RowKit

/-- The bytes of a head with so many bytes of data and that check sum. -/
def hb (tos id frag ttl pr src dst : Int) (os : List Int) (data chk : Int) : List Int :=
  (64 + (20 + (os.length : Int)) / 4) :: tos :: ((20 + os.length + data) / 256) :: ((20 + os.length + data) % 256) :: (id / 256) :: (id % 256) :: (frag / 256) :: (frag % 256) :: ttl :: pr :: (chk / 256) :: (chk % 256) ::
    (src / 16777216) :: (src / 65536 % 256) :: (src / 256 % 256) :: (src % 256) :: (dst / 16777216) :: (dst / 65536 % 256) :: (dst / 256 % 256) :: (dst % 256) :: os

def headOk (tos id frag ttl pr : Int) (n : Nat) : Bool := fit8 tos && fit8 ttl && fit8 pr && fit16 id && fit16 frag && decide (n ≤ 40) && decide (n % 4 = 0)
def encOk (tos id frag ttl pr : Int) (n : Nat) (data : Int) : Bool := headOk tos id frag ttl pr n && decide (0 ≤ data ∧ data ≤ 65515 - n)

/-- What fits, as plain facts. -/
structure HF (tos id frag ttl pr : Int) (n : Nat) (data : Int) : Prop where
  tos : 0 ≤ tos ∧ tos ≤ 255
  ttl : 0 ≤ ttl ∧ ttl ≤ 255
  pr : 0 ≤ pr ∧ pr ≤ 255
  id : 0 ≤ id ∧ id ≤ 65535
  frag : 0 ≤ frag ∧ frag ≤ 65535
  most : n ≤ 40
  four : n % 4 = 0
  data : 0 ≤ data ∧ data ≤ 65515 - n

theorem encOk_yes {tos id frag ttl pr : Int} {n : Nat} {data : Int} (h : encOk tos id frag ttl pr n data = true) : HF tos id frag ttl pr n data := by
  simp only [encOk, headOk, fit8, fit16, Bool.and_eq_true, decide_eq_true_eq] at h
  obtain ⟨⟨⟨⟨⟨⟨⟨h1, h2⟩, h3⟩, h4⟩, h5⟩, h6⟩, h7⟩, h8⟩ := h
  exact ⟨h1, h2, h3, h4, h5, h6, h7, h8⟩
theorem encOk_of {tos id frag ttl pr : Int} {n : Nat} {data : Int} (h : HF tos id frag ttl pr n data) : encOk tos id frag ttl pr n data = true := by
  simp only [encOk, headOk, fit8, fit16, Bool.and_eq_true, decide_eq_true_eq]
  exact ⟨⟨⟨⟨⟨⟨⟨h.tos, h.ttl⟩, h.pr⟩, h.id⟩, h.frag⟩, h.most⟩, h.four⟩, h.data⟩

theorem hb_len (tos id frag ttl pr src dst : Int) (os : List Int) (data chk : Int) : (hb tos id frag ttl pr src dst os data chk).length = 20 + os.length := by simp [hb]; omega
theorem hb_set (tos id frag ttl pr src dst : Int) (os : List Int) (data c : Int) : ((hb tos id frag ttl pr src dst os data 0).set 10 (c / 256)).set 11 (c % 256) = hb tos id frag ttl pr src dst os data c := by simp [hb]
theorem hb_wsum (tos id frag ttl pr src dst : Int) (os : List Int) (data c : Int) : wsum (hb tos id frag ttl pr src dst os data c) = wsum (hb tos id frag ttl pr src dst os data 0) + c := by
  simp only [hb, wsum]; omega

theorem fits_take {zs : List Int} (h : ∀ i, 0 ≤ zs.getD i 0 ∧ zs.getD i 0 ≤ 255) (n : Nat) : ∀ i, 0 ≤ (zs.take n).getD i 0 ∧ (zs.take n).getD i 0 ≤ 255 := by
  intro i
  by_cases hi : i < n
  · have e : (zs.take n).getD i 0 = zs.getD i 0 := by simp [List.getD_eq_getElem?_getD, hi]
    rw [e]; exact h i
  · have e : (zs.take n).getD i 0 = 0 := by simp [List.getD_eq_getElem?_getD, List.getElem?_take, hi]
    rw [e]; omega
theorem fits_cons {x : Int} {l : List Int} (hx : 0 ≤ x ∧ x ≤ 255) (h : ∀ i, 0 ≤ l.getD i 0 ∧ l.getD i 0 ≤ 255) : ∀ i, 0 ≤ (x :: l).getD i 0 ∧ (x :: l).getD i 0 ≤ 255 := by
  intro i
  cases i with
  | zero => simpa using hx
  | succ i => simpa using h i

theorem hb_bd {tos id frag ttl pr src dst : Int} {os : List Int} {data chk : Int} (hf : HF tos id frag ttl pr os.length data) (hs : 0 ≤ src ∧ src ≤ 4294967295) (hd : 0 ≤ dst ∧ dst ≤ 4294967295) (ho : ∀ i, 0 ≤ os.getD i 0 ∧ os.getD i 0 ≤ 255) (hc : 0 ≤ chk ∧ chk ≤ 65535) :
    ∀ i, 0 ≤ (hb tos id frag ttl pr src dst os data chk).getD i 0 ∧ (hb tos id frag ttl pr src dst os data chk).getD i 0 ≤ 255 := by
  have h1 := hf.id
  have h2 := hf.frag
  have h3 := hf.most
  have h4 := hf.data
  unfold hb
  exact fits_cons (by omega) (fits_cons hf.tos (fits_cons (by omega) (fits_cons (by omega) (fits_cons (by omega) (fits_cons (by omega) (fits_cons (by omega) (fits_cons (by omega) (fits_cons hf.ttl (fits_cons hf.pr (fits_cons (by omega) (fits_cons (by omega)
    (fits_cons (by omega) (fits_cons (by omega) (fits_cons (by omega) (fits_cons (by omega) (fits_cons (by omega) (fits_cons (by omega) (fits_cons (by omega) (fits_cons (by omega) ho)))))))))))))))))))

theorem wsum_first {x y : Int} {r : List Int} (h : ∀ i, 0 ≤ (x :: y :: r).getD i 0 ∧ (x :: y :: r).getD i 0 ≤ 255) : x * 256 ≤ wsum (x :: y :: r) := by
  have h1 := h 1
  have h2 := wsum_bd (zs := r) (fun i => by simpa using h (i + 2))
  simp only [List.getD_cons_succ, List.getD_cons_zero] at h1
  simp only [wsum]
  omega

/-- The check sum of a head. -/
def hchk (tos id frag ttl pr src dst : Int) (os : List Int) (data : Int) : Int := 65535 - fld (wsum (hb tos id frag ttl pr src dst os data 0))
def ipB (tos id frag ttl pr src dst : Int) (os : List Int) (data : Int) : List Int := hb tos id frag ttl pr src dst os data (hchk tos id frag ttl pr src dst os data)

theorem hb_pos {tos id frag ttl pr src dst : Int} {os : List Int} {data : Int} (hf : HF tos id frag ttl pr os.length data) (hs : 0 ≤ src ∧ src ≤ 4294967295) (hd : 0 ≤ dst ∧ dst ≤ 4294967295) (ho : ∀ i, 0 ≤ os.getD i 0 ∧ os.getD i 0 ≤ 255) : 0 < wsum (hb tos id frag ttl pr src dst os data 0) := by
  have := wsum_first (hb_bd hf hs hd ho (chk := 0) (by omega))
  have h2 : (64 + (20 + (os.length : Int)) / 4) * 256 ≤ wsum (hb tos id frag ttl pr src dst os data 0) := this
  omega
theorem hchk_bd {tos id frag ttl pr src dst : Int} {os : List Int} {data : Int} (hf : HF tos id frag ttl pr os.length data) (hs : 0 ≤ src ∧ src ≤ 4294967295) (hd : 0 ≤ dst ∧ dst ≤ 4294967295) (ho : ∀ i, 0 ≤ os.getD i 0 ∧ os.getD i 0 ≤ 255) : 0 ≤ hchk tos id frag ttl pr src dst os data ∧ hchk tos id frag ttl pr src dst os data ≤ 65534 := by
  have := hb_pos hf hs hd ho
  unfold hchk fld
  split <;> omega
theorem ipB_bd {tos id frag ttl pr src dst : Int} {os : List Int} {data : Int} (hf : HF tos id frag ttl pr os.length data) (hs : 0 ≤ src ∧ src ≤ 4294967295) (hd : 0 ≤ dst ∧ dst ≤ 4294967295) (ho : ∀ i, 0 ≤ os.getD i 0 ∧ os.getD i 0 ≤ 255) :
    ∀ i, 0 ≤ (ipB tos id frag ttl pr src dst os data).getD i 0 ∧ (ipB tos id frag ttl pr src dst os data).getD i 0 ≤ 255 :=
  hb_bd hf hs hd ho (by have := hchk_bd hf hs hd ho; omega)
theorem ipB_len (tos id frag ttl pr src dst : Int) (os : List Int) (data : Int) : (ipB tos id frag ttl pr src dst os data).length = 20 + os.length := hb_len ..
theorem ipB_sum {tos id frag ttl pr src dst : Int} {os : List Int} {data : Int} (hf : HF tos id frag ttl pr os.length data) (hs : 0 ≤ src ∧ src ≤ 4294967295) (hd : 0 ≤ dst ∧ dst ≤ 4294967295) (ho : ∀ i, 0 ≤ os.getD i 0 ∧ os.getD i 0 ≤ 255) :
    fld (wsum (ipB tos id frag ttl pr src dst os data)) = 65535 := by
  have := hb_pos hf hs hd ho
  unfold ipB
  rw [hb_wsum]
  unfold hchk
  generalize wsum (hb tos id frag ttl pr src dst os data 0) = S at *
  unfold fld
  split <;> split <;> omega

/-- The lengths of the head with which some bytes begin: its size, the total length, what is wrong. -/
def msr (zs : List Int) (room : Int) : Int × Int × Int :=
  if (zs.length : Int) < 20 then (0, 0, 20)
  else if zs.getD 0 0 / 16 ≠ 4 ∨ zs.getD 0 0 % 16 * 4 < 20 then (0, 0, 21)
  else if (zs.length : Int) < zs.getD 0 0 % 16 * 4 ∨ room < zs.getD 2 0 * 256 + zs.getD 3 0 then (0, 0, 20)
  else if zs.getD 2 0 * 256 + zs.getD 3 0 < zs.getD 0 0 % 16 * 4 then (0, 0, 21)
  else if fld (wsum (zs.take (zs.getD 0 0 % 16 * 4).toNat)) ≠ 65535 then (0, 0, 30)
  else (zs.getD 0 0 % 16 * 4, zs.getD 2 0 * 256 + zs.getD 3 0, 0)

/-- The lengths are right. -/
structure MOk (zs : List Int) (room : Int) (n : Nat) : Prop where
  len : n ≤ zs.length
  twenty : 20 ≤ n
  four : zs.getD 0 0 = 64 + (n : Int) / 4 ∧ n % 4 = 0 ∧ n ≤ 60
  room : zs.getD 2 0 * 256 + zs.getD 3 0 ≤ room
  total : (n : Int) ≤ zs.getD 2 0 * 256 + zs.getD 3 0
  sum : fld (wsum (zs.take n)) = 65535

theorem msr_yes {zs : List Int} {room : Int} {n : Nat} (h : MOk zs room n) : msr zs room = ((n : Int), zs.getD 2 0 * 256 + zs.getD 3 0, 0) := by
  obtain ⟨h1, h2, ⟨h3, h4, h5⟩, h6, h7, h8⟩ := h
  have e : zs.getD 0 0 % 16 * 4 = n := by rw [h3]; omega
  unfold msr
  rw [e, if_neg (by omega), if_neg (by rw [h3]; omega), if_neg (by omega), if_neg (by omega), if_neg (by simp [h8])]
theorem msr_cases (zs : List Int) (room : Int) (hz : ∀ i, 0 ≤ zs.getD i 0 ∧ zs.getD i 0 ≤ 255) : (∃ f, (f = 20 ∨ f = 21 ∨ f = 30) ∧ msr zs room = (0, 0, f)) ∨ ∃ n, MOk zs room n := by
  have h0 := hz 0
  unfold msr
  split
  · exact .inl ⟨20, by simp, rfl⟩
  split
  · exact .inl ⟨21, by simp, rfl⟩
  split
  · exact .inl ⟨20, by simp, rfl⟩
  split
  · exact .inl ⟨21, by simp, rfl⟩
  split
  · exact .inl ⟨30, by simp, rfl⟩
  · rename_i a1 a2 a3 a4 a5
    refine .inr ⟨(zs.getD 0 0 % 16 * 4).toNat, by omega, by omega, ⟨by omega, by omega, by omega⟩, by omega, by omega, ?_⟩
    exact Decidable.not_not.1 a5
theorem msr_no {zs : List Int} {room f : Int} {n : Nat} (h : MOk zs room n) (hm : msr zs room = (0, 0, f)) : False := by
  rw [msr_yes h] at hm
  have := h.twenty
  simp at hm
  omega
theorem MOk.unique {zs : List Int} {room : Int} {n m : Nat} (h : MOk zs room n) (h2 : MOk zs room m) : n = m := by
  have a := h.four
  have b := h2.four
  omega

/-- The fields that stand in a head of n bytes. -/
def ipF (zs : List Int) (n : Nat) : Value := .agg #[.int .i64 (num ((zs.drop 1).take 1)), .int .i64 (num ((zs.drop 4).take 2)), .int .i64 (num ((zs.drop 6).take 2)), .int .i64 (num ((zs.drop 8).take 1)), .int .i64 (num ((zs.drop 9).take 1)), .int .u32 (num ((zs.drop 12).take 4)), .int .u32 (num ((zs.drop 16).take 4)), .string (strOfNums ((zs.drop 20).take (n - 20)))]
def ip0 : Value := .agg #[.int .i64 0, .int .i64 0, .int .i64 0, .int .i64 0, .int .i64 0, .int .u32 0, .int .u32 0, .string ⟨#[]⟩]
def ipV (tos id frag ttl pr src dst : Int) (os : List Int) : Value := .agg #[.int .i64 tos, .int .i64 id, .int .i64 frag, .int .i64 ttl, .int .i64 pr, .int .u32 src, .int .u32 dst, .string (strOfNums os)]

theorem one_more {zs : List Int} {n : Nat} (h : n + 1 ≤ zs.length) : ∃ x r, zs = x :: r ∧ n ≤ r.length := by
  match zs, h with
  | x :: r, h => exact ⟨x, r, rfl, by simpa using h⟩
theorem twenty {zs : List Int} (h : 20 ≤ zs.length) : ∃ z0 z1 z2 z3 z4 z5 z6 z7 z8 z9 z10 z11 z12 z13 z14 z15 z16 z17 z18 z19 r, zs = z0 :: z1 :: z2 :: z3 :: z4 :: z5 :: z6 :: z7 :: z8 :: z9 :: z10 :: z11 :: z12 :: z13 :: z14 :: z15 :: z16 :: z17 :: z18 :: z19 :: r := by
  obtain ⟨z0, r0, rfl, h0⟩ := one_more h
  obtain ⟨z1, r1, rfl, h1⟩ := one_more h0
  obtain ⟨z2, r2, rfl, h2⟩ := one_more h1
  obtain ⟨z3, r3, rfl, h3⟩ := one_more h2
  obtain ⟨z4, r4, rfl, h4⟩ := one_more h3
  obtain ⟨z5, r5, rfl, h5⟩ := one_more h4
  obtain ⟨z6, r6, rfl, h6⟩ := one_more h5
  obtain ⟨z7, r7, rfl, h7⟩ := one_more h6
  obtain ⟨z8, r8, rfl, h8⟩ := one_more h7
  obtain ⟨z9, r9, rfl, h9⟩ := one_more h8
  obtain ⟨z10, r10, rfl, h10⟩ := one_more h9
  obtain ⟨z11, r11, rfl, h11⟩ := one_more h10
  obtain ⟨z12, r12, rfl, h12⟩ := one_more h11
  obtain ⟨z13, r13, rfl, h13⟩ := one_more h12
  obtain ⟨z14, r14, rfl, h14⟩ := one_more h13
  obtain ⟨z15, r15, rfl, h15⟩ := one_more h14
  obtain ⟨z16, r16, rfl, h16⟩ := one_more h15
  obtain ⟨z17, r17, rfl, h17⟩ := one_more h16
  obtain ⟨z18, r18, rfl, h18⟩ := one_more h17
  obtain ⟨z19, r19, rfl, h19⟩ := one_more h18
  exact ⟨_, _, _, _, _, _, _, _, _, _, _, _, _, _, _, _, _, _, _, _, _, rfl⟩

/-- What is read of a head's own bytes, whatever stands behind. -/
theorem hb_read (tos id frag ttl pr src dst : Int) (os : List Int) (data chk : Int) (r : List Int) :
    ipF (hb tos id frag ttl pr src dst os data chk ++ r) (20 + os.length) = ipV tos id frag ttl pr src dst os := by
  have e1 : id / 256 * 256 + id % 256 = id := by omega
  have e2 : frag / 256 * 256 + frag % 256 = frag := by omega
  have e3 : ((src / 16777216 * 256 + src / 65536 % 256) * 256 + src / 256 % 256) * 256 + src % 256 = src := by omega
  have e4 : ((dst / 16777216 * 256 + dst / 65536 % 256) * 256 + dst / 256 % 256) * 256 + dst % 256 = dst := by omega
  simp [ipF, ipV, hb, num, e1, e2, e3, e4]

theorem hb_msr {tos id frag ttl pr src dst : Int} {os : List Int} {data : Int} (r : List Int) (room : Int) (hf : HF tos id frag ttl pr os.length data) (hs : 0 ≤ src ∧ src ≤ 4294967295) (hd : 0 ≤ dst ∧ dst ≤ 4294967295) (ho : ∀ i, 0 ≤ os.getD i 0 ∧ os.getD i 0 ≤ 255) (hr : 20 + os.length + data ≤ room) :
    MOk (ipB tos id frag ttl pr src dst os data ++ r) room (20 + os.length) := by
  have h1 := hf.four
  have h2 := hf.most
  have h3 := hf.data
  refine ⟨by simp [ipB_len], by omega, ⟨?_, by omega, by omega⟩, ?_, ?_, ?_⟩
  · simp [ipB, hb]
  · simp [ipB, hb]; omega
  · simp [ipB, hb]; omega
  · rw [List.take_append_of_le_length (by simp [ipB_len]), List.take_of_length_le (by simp [ipB_len])]
    exact ipB_sum hf hs hd ho
theorem ipB_total (tos id frag ttl pr src dst : Int) (os : List Int) (data : Int) (r : List Int) : (ipB tos id frag ttl pr src dst os data ++ r).getD 2 0 * 256 + (ipB tos id frag ttl pr src dst os data ++ r).getD 3 0 = 20 + os.length + data := by
  simp [ipB, hb]; omega

end Go.Proofs.Ytgonckbdkgiddaa.Ip
