/- A head's bytes read and written again, a byte of them changed, one time to live less: plain laws on lists of numbers, no program. No condition. -/
import Derived.Test.YtgonckbdkgiddaaIA
namespace Go.Proofs.Ytgonckbdkgiddaa.Ip
open Go.RowKit

theorem hb_chk {tos id frag ttl pr src dst : Int} {os : List Int} {data c : Int} (hf : HF tos id frag ttl pr os.length data) (hs : 0 ≤ src ∧ src ≤ 4294967295) (hd : 0 ≤ dst ∧ dst ≤ 4294967295) (ho : ∀ i, 0 ≤ os.getD i 0 ∧ os.getD i 0 ≤ 255) (hc : 0 ≤ c ∧ c ≤ 65535)
    (h : fld (wsum (hb tos id frag ttl pr src dst os data c)) = 65535) : hchk tos id frag ttl pr src dst os data = c ∨ (c = 65535 ∧ hchk tos id frag ttl pr src dst os data = 0) := by
  have := hb_pos hf hs hd ho
  rw [hb_wsum] at h
  unfold hchk
  generalize wsum (hb tos id frag ttl pr src dst os data 0) = S at *
  unfold fld at *
  split at h <;> split <;> omega

theorem ip_back {zs : List Int} {room : Int} {n : Nat} (h : MOk zs room n) (hz : ∀ i, 0 ≤ zs.getD i 0 ∧ zs.getD i 0 ≤ 255) :
    ∃ tos id frag ttl pr src dst os, ipF zs n = ipV tos id frag ttl pr src dst os ∧ HF tos id frag ttl pr os.length (zs.getD 2 0 * 256 + zs.getD 3 0 - n) ∧ (0 ≤ src ∧ src ≤ 4294967295) ∧ (0 ≤ dst ∧ dst ≤ 4294967295) ∧ (∀ i, 0 ≤ os.getD i 0 ∧ os.getD i 0 ≤ 255) ∧ 20 + os.length = n ∧
      zs.take n = hb tos id frag ttl pr src dst os (zs.getD 2 0 * 256 + zs.getD 3 0 - n) (zs.getD 10 0 * 256 + zs.getD 11 0) := by
  obtain ⟨h1, h2, ⟨h3, h4, h5⟩, h6, h7, h8⟩ := h
  obtain ⟨z0, z1, z2, z3, z4, z5, z6, z7, z8, z9, z10, z11, z12, z13, z14, z15, z16, z17, z18, z19, r, rfl⟩ := twenty (show 20 ≤ zs.length by omega)
  obtain ⟨m, rfl⟩ : ∃ m, n = 20 + m := ⟨n - 20, by omega⟩
  have b1 := hz 1
  have b2 := hz 2
  have b3 := hz 3
  have b4 := hz 4
  have b5 := hz 5
  have b6 := hz 6
  have b7 := hz 7
  have b8 := hz 8
  have b9 := hz 9
  have b10 := hz 10
  have b11 := hz 11
  have b12 := hz 12
  have b13 := hz 13
  have b14 := hz 14
  have b15 := hz 15
  have b16 := hz 16
  have b17 := hz 17
  have b18 := hz 18
  have b19 := hz 19
  simp only [List.getD_cons_succ, List.getD_cons_zero] at b1 b2 b3 b4 b5 b6 b7 b8 b9 b10 b11 b12 b13 b14 b15 b16 b17 b18 b19 h3 h6 h7 ⊢
  have hr : (r.take m).length = m := by simp only [List.length_cons] at h1; simp; omega
  refine ⟨z1, z4 * 256 + z5, z6 * 256 + z7, z8, z9, ((z12 * 256 + z13) * 256 + z14) * 256 + z15, ((z16 * 256 + z17) * 256 + z18) * 256 + z19, r.take m, ?_, ⟨b1, b8, b9, by omega, by omega, by omega, by omega, by omega⟩, by omega, by omega, fits_take (fun i => by simpa using hz (i + 20)) m, by omega, ?_⟩
  · simp [ipF, ipV, num]
  · rw [Nat.add_comm 20 m]
    simp only [List.take_succ_cons, hb, hr, List.cons.injEq]
    refine ⟨by omega, ?_⟩
    refine ⟨trivial, by omega, by omega, by omega, by omega, by omega, by omega, trivial, trivial, by omega, by omega, by omega, by omega, by omega, by omega, by omega, by omega, by omega, by omega, trivial⟩

theorem wsum_set1 (m : Nat) : ∀ (zs : List Int) (k : Nat) (x : Int), zs.length ≤ m → k < zs.length → wsum (zs.set k x) = wsum zs + (x - zs.getD k 0) * (if k % 2 = 0 then 256 else 1) := by
  induction m using Nat.strongRecOn with
  | _ m ih =>
    intro zs k x hm hk
    match zs, k with
    | [], k => simp at hk
    | [u], 0 => simp [wsum]; omega
    | [u], k + 1 => simp at hk
    | u :: v :: r, 0 => simp [wsum]; omega
    | u :: v :: r, 1 => simp [wsum]; omega
    | u :: v :: r, k + 2 =>
      have := ih (m - 2) (by simp at hm; omega) r k x (by simp at hm; omega) (by simp at hk; omega)
      simp only [List.set_cons_succ, List.getD_cons_succ, wsum, this, show (k + 2) % 2 = k % 2 from by omega]
      split <;> omega

theorem getD_set_ne (zs : List Int) (k i : Nat) (x : Int) (h : k ≠ i) : (zs.set k x).getD i 0 = zs.getD i 0 := by
  simp [List.getD_eq_getElem?_getD, h]
theorem getD_set_eq (zs : List Int) (k : Nat) (x : Int) (h : k < zs.length) : (zs.set k x).getD k 0 = x := by
  simp [List.getD_eq_getElem?_getD, h]

/-- Another byte behind the first one is told. -/
theorem ip_turned {B : List Int} {room room' : Int} {n k : Nat} {x : Int} (h : MOk B room n) (hl : B.length = n) (hz : ∀ i, 0 ≤ B.getD i 0 ∧ B.getD i 0 ≤ 255) (hk0 : 1 ≤ k) (hk : k < n) (hx : 0 ≤ x ∧ x ≤ 255) (hne : x ≠ B.getD k 0) : ¬ ∃ m, MOk (B.set k x) room' m := by
  rintro ⟨m, h2⟩
  have a := h.four.1
  have b := h2.four.1
  rw [getD_set_ne _ _ _ _ (by omega)] at b
  have hm : m = n := by have := h.four.2; have := h2.four.2; omega
  subst hm
  have s1 := h.sum
  have s2 := h2.sum
  rw [List.take_of_length_le (by omega)] at s1
  rw [List.take_of_length_le (by simp; omega), wsum_set1 _ B k x (Nat.le_refl _) (by omega)] at s2
  have hp := wsum_bd hz
  have hb := hz k
  have hp2 := wsum_bd (fits_set hz k x hx)
  rw [wsum_set1 _ B k x (Nat.le_refl _) (by omega)] at hp2
  generalize B.getD k 0 = y at *
  generalize wsum B = S at *
  by_cases he : k % 2 = 0
  · rw [if_pos he] at s2 hp2
    unfold fld at *
    split at s1 <;> split at s2 <;> omega
  · rw [if_neg he] at s2 hp2
    unfold fld at *
    split at s1 <;> split at s2 <;> omega

/-- The check sum behind a hop. -/
def hopC (zs : List Int) : Int := 65535 - fld (fld (65535 - (zs.getD 10 0 * 256 + zs.getD 11 0) + (65535 - (zs.getD 8 0 * 256 + zs.getD 9 0))) + ((zs.getD 8 0 - 1) * 256 + zs.getD 9 0))
def hopB (zs : List Int) : List Int := ((zs.set 8 (zs.getD 8 0 - 1)).set 10 (hopC zs / 256)).set 11 (hopC zs % 256)

theorem hopC_bd (zs : List Int) (hz : ∀ i, 0 ≤ zs.getD i 0 ∧ zs.getD i 0 ≤ 255) (h1 : 1 ≤ zs.getD 8 0) : 0 ≤ hopC zs ∧ hopC zs ≤ 65535 := by
  have a := hz 8
  have b := hz 9
  have c := hz 10
  have d := hz 11
  unfold hopC
  have e := fld_bd (65535 - (zs.getD 10 0 * 256 + zs.getD 11 0) + (65535 - (zs.getD 8 0 * 256 + zs.getD 9 0))) (by omega)
  have f := fld_bd (fld (65535 - (zs.getD 10 0 * 256 + zs.getD 11 0) + (65535 - (zs.getD 8 0 * 256 + zs.getD 9 0))) + ((zs.getD 8 0 - 1) * 256 + zs.getD 9 0)) (by omega)
  omega
theorem hopB_len (zs : List Int) : (hopB zs).length = zs.length := by simp [hopB]
theorem hopB_bd (zs : List Int) (hz : ∀ i, 0 ≤ zs.getD i 0 ∧ zs.getD i 0 ≤ 255) (h1 : 1 ≤ zs.getD 8 0) : ∀ i, 0 ≤ (hopB zs).getD i 0 ∧ (hopB zs).getD i 0 ≤ 255 := by
  have a := hz 8
  have c := hopC_bd zs hz h1
  exact fits_set (fits_set (fits_set hz 8 _ (by omega)) 10 _ (by omega)) 11 _ (by omega)
theorem hopB_8 (zs : List Int) (h : 12 ≤ zs.length) : (hopB zs).getD 8 0 = zs.getD 8 0 - 1 := by
  unfold hopB
  rw [getD_set_ne _ _ _ _ (by omega), getD_set_ne _ _ _ _ (by omega), getD_set_eq _ _ _ (by omega)]
theorem hopB_other (zs : List Int) (i : Nat) (h1 : i ≠ 8) (h2 : i ≠ 10) (h3 : i ≠ 11) : (hopB zs).getD i 0 = zs.getD i 0 := by
  unfold hopB
  rw [getD_set_ne _ _ _ _ (by omega), getD_set_ne _ _ _ _ (by omega), getD_set_ne _ _ _ _ (by omega)]
theorem hop_ok {zs : List Int} {room : Int} {n : Nat} (h : MOk zs room n) (hz : ∀ i, 0 ≤ zs.getD i 0 ∧ zs.getD i 0 ≤ 255) (h1 : 1 ≤ zs.getD 8 0) : MOk (hopB zs) room n := by
  have h20 := h.twenty
  have hl := h.len
  refine ⟨by rw [hopB_len]; exact hl, h20, ?_, ?_, ?_, ?_⟩
  · rw [hopB_other _ _ (by omega) (by omega) (by omega)]; exact h.four
  · rw [hopB_other _ 2 (by omega) (by omega) (by omega), hopB_other _ 3 (by omega) (by omega) (by omega)]; exact h.room
  · rw [hopB_other _ 2 (by omega) (by omega) (by omega), hopB_other _ 3 (by omega) (by omega) (by omega)]; exact h.total
  · have hs := h.sum
    have g : ∀ i, i < n → (zs.take n).getD i 0 = zs.getD i 0 := fun i hi => by simp [List.getD_eq_getElem?_getD, hi]
    have e : (hopB zs).take n = (((zs.take n).set (2 * 4) (zs.getD 8 0 - 1)).set (2 * 5) (hopC zs / 256)).set (2 * 5 + 1) (hopC zs % 256) := by
      simp [hopB, List.take_set]
    have e8 : ((zs.take n).set (2 * 4) (zs.getD 8 0 - 1)) = ((zs.take n).set (2 * 4) (zs.getD 8 0 - 1)).set (2 * 4 + 1) (zs.getD 9 0) := by
      apply List.ext_getElem?
      intro i
      rw [List.getElem?_set (i := 2 * 4 + 1)]
      split
      · rename_i hi
        subst hi
        rw [if_pos (by simp; omega)]
        simp [List.getD_eq_getElem?_getD, show 9 < n by omega, show 9 < zs.length by omega]
      · rfl
    have hlt : (zs.take n).length = n := by simp; omega
    have w1 := wsum_set 4 (zs.take n) (zs.getD 8 0 - 1) (zs.getD 9 0) (by omega)
    rw [← e8] at w1
    have w2 := wsum_set 5 ((zs.take n).set (2 * 4) (zs.getD 8 0 - 1)) (hopC zs / 256) (hopC zs % 256) (by simp; omega)
    rw [← e, w1] at w2
    rw [getD_set_ne _ _ _ _ (by omega), getD_set_ne _ _ _ _ (by omega), g _ (by omega), g _ (by omega), g _ (by omega), g _ (by omega)] at w2
    have a8 := hz 8
    have a9 := hz 9
    have a10 := hz 10
    have a11 := hz 11
    have hfz := wsum_bd (zs := (hopB zs).take n) (fits_take (hopB_bd zs hz h1) n)
    have hfirst : 0 < wsum ((hopB zs).take n) := by
      obtain ⟨z0, z1, z2, z3, z4, z5, z6, z7, z8, z9, z10, z11, z12, z13, z14, z15, z16, z17, z18, z19, r, hr⟩ := twenty (zs := (hopB zs).take n) (by simp [hopB_len]; omega)
      have hfz' : ∀ i, 0 ≤ ((hopB zs).take n).getD i 0 ∧ ((hopB zs).take n).getD i 0 ≤ 255 := fits_take (hopB_bd zs hz h1) n
      have h0 : ((hopB zs).take n).getD 0 0 = zs.getD 0 0 := by
        rw [← hopB_other zs 0 (by omega) (by omega) (by omega)]
        simp [List.getD_eq_getElem?_getD, show 0 < n by omega]
      rw [hr] at hfz' h0 ⊢
      have := wsum_first hfz'
      simp only [List.getD_cons_zero] at h0
      have := h.four.1
      omega
    have hc : hopC zs / 256 * 256 + hopC zs % 256 = hopC zs := by omega
    rw [show 2 * 4 = 8 from rfl, show 2 * 4 + 1 = 9 from rfl, show 2 * 5 = 10 from rfl, show 2 * 5 + 1 = 11 from rfl, hc] at w2
    rw [w2] at hfirst ⊢
    unfold hopC at *
    clear w1 w2 e e8 hc g hfz
    generalize zs.getD 8 0 = t at *
    generalize zs.getD 9 0 = p at *
    generalize zs.getD 10 0 = c0 at *
    generalize zs.getD 11 0 = c1 at *
    generalize wsum (zs.take n) = S at *
    unfold fld at *
    split at hs <;> split <;> split <;> split <;> omega
end Go.Proofs.Ytgonckbdkgiddaa.Ip
