/- The law DhcpDecodes, but for its frame. Conditions: the bytes can be read, and are not too many. -/
import Derived.Test.YtglaheblbomhpaaRK
import Derived.Test.YtglaheblbomhpaaGC
namespace Go.Proofs.Ytglaheblbomhpaa
open Go.RowKit
theorem be_fits (v : Int) (s : Nat) : ∀ i, 0 ≤ (be v s).getD i 0 ∧ (be v s).getD i 0 ≤ 255 := by
  induction s with
  | zero => intro i; simp [be]
  | succ s ih =>
    intro i
    cases i with
    | zero => simp only [be, List.getD_cons_zero]; omega
    | succ i => simpa only [be, List.getD_cons_succ] using ih i
theorem optBytes_fits (os : List Opt) (h : os.all optB = true) : ∀ i, 0 ≤ (optBytes os).getD i 0 ∧ (optBytes os).getD i 0 ≤ 255 := by
  induction os with
  | nil => intro i; simp [optBytes]
  | cons o r ih =>
    rw [List.all_cons, Bool.and_eq_true] at h
    obtain ⟨ho, hr⟩ := h
    unfold optB at ho
    simp only [Bool.and_eq_true, decide_eq_true_eq, beq_iff_eq] at ho
    obtain ⟨h1, h2, h3, h4⟩ := ho
    have ih := ih hr
    intro i
    show 0 ≤ (o.code :: (o.data.size : Int) :: (dnums o.data ++ optBytes r)).getD i 0 ∧ (o.code :: (o.data.size : Int) :: (dnums o.data ++ optBytes r)).getD i 0 ≤ 255
    rcases i with _ | _ | i
    · simp only [List.getD_cons_zero]; omega
    · simp only [List.getD_cons_succ, List.getD_cons_zero]; omega
    · simp only [List.getD_cons_succ]
      exact fits_append (dnums_fits o.data) ih i
theorem noughts_fits : ∀ i, 0 ≤ noughts.getD i 0 ∧ noughts.getD i 0 ≤ 255 := by
  intro i
  unfold noughts
  rw [List.getD_eq_getElem?_getD, List.getElem?_replicate]
  split <;> simp
theorem fixBytes_fits (op xid secs flags ci yi si gi ch : Int) : ∀ i, 0 ≤ (fixBytes op xid secs flags ci yi si gi ch).getD i 0 ∧ (fixBytes op xid secs flags ci yi si gi ch).getD i 0 ≤ 255 := by
  unfold fixBytes
  have nf : ∀ i, 0 ≤ ([] : List Int).getD i 0 ∧ ([] : List Int).getD i 0 ≤ 255 := by intro i; simp
  exact fits_append (fits_append (fits_append (fits_append (fits_append (fits_append (fits_append (fits_append (fits_append (fits_append (fits_append (fits_append nf (be_fits _ _)) (dnums_fits _)) (be_fits _ _)) (be_fits _ _)) (be_fits _ _)) (be_fits _ _)) (be_fits _ _)) (be_fits _ _)) (be_fits _ _)) (be_fits _ _)) noughts_fits) (dnums_fits _)
theorem encBytes_fits (op xid secs flags ci yi si gi ch : Int) (os : List Opt) (h : os.all optB = true) : ∀ i, 0 ≤ (encBytes op xid secs flags ci yi si gi ch os).getD i 0 ∧ (encBytes op xid secs flags ci yi si gi ch os).getD i 0 ≤ 255 := by
  unfold encBytes
  refine fits_append (fits_append (fixBytes_fits op xid secs flags ci yi si gi ch) (optBytes_fits os h)) ?_
  intro i
  rcases i with _ | i <;> simp
theorem os_nilD (w : World) (a : Option Addr) : OS w a 0 [] := ⟨rfl, by omega, .inl rfl⟩
set_option maxHeartbeats 2000000 in
theorem decodes_no (w : World) (a : Option Addr) (n cap : Nat) (zs : List Int) (h : BS w a n zs) (hn : n ≤ 1048576)
    (hD : ∀ W a1 c1, BS W a1 n zs → n ≤ c1 → Calls Try.prog 7 #[.slice a1 n c1] W fun e w' => e = .returned (.tuple #[.agg zeroArr, .int .i64 60]) ∧ Below W.heap.size W w')
    (hR : ∀ W, BS W a n zs → Calls Try.prog 8 #[.slice a n cap] W fun e w' => e = .returned (.tuple #[.agg zeroArr, .int .i64 60]) ∧ Below W.heap.size W w') :
    Calls Try.prog 3 #[.slice a n cap] w fun e w' => e = .returned (.bool true) ∧ Below w.heap.size w w' := by
  have HD : Hid _ := hD
  have HR : Hid _ := hR
  clear hD hR
  obtain ⟨i0, hi, hz0, hz1, hz2⟩ := info_parts info5
  have hl := h.len
  have HBS : Hid _ := h
  clear h
  go_enter Try.func3, Try.ntmps3
  go_wp2_with (at_builtin; refine wpList_append_bs (by rfl) _ _ 22 rfl w.heap.size 5 i0 Try.underlying22 hi hz0 hz1 hz2 _ 0 [] rfl (own_empty w _ (Nat.le_refl _)) a n cap zs rfl (HBS.out.below (below1 w _)) (by omega) (by simp) ?_)
  intro a1 c1 W1 o1 g1
  have b1 : Below w.heap.size w W1 := (below1 w _).grown g1 (by simp) (by rintro k ⟨⟩; exact Nat.le_refl _)
  have o1' : W1.ownsRow w.heap.size 5 1 (.slice a1 n c1) n (zs.map (Value.int .u8)) := by simpa using o1
  have O1 : Hid (BS W1 a1 n zs) := own_bs o1' HBS.out.fits (by omega)
  have hcc : Hid _ := own_caps o1'
  have HB1 : Hid _ := b1
  clear o1 g1 o1' b1 hi hz0 hz1 hz2
  go_wp2_with fail
  refine (HD.out _ _ _ O1.out hcc.out.1).mono ?_
  rintro e W2 ⟨rfl, hb⟩
  unfold zeroArr
  have HB2 : Hid (Below w.heap.size w W2) := HB1.out.trans (hb.mono HB1.out.size)
  have O2 : Hid _ := O1.out.below hb
  clear hb HB1 O1
  have A2 : Hid _ := atB_new W2 #[.int .i64 0, .int .u32 0, .int .i64 0, .int .i64 0, .int .u32 0, .int .u32 0, .int .u32 0, .int .u32 0, .int .u64 0, .slice none 0 0] 27 W2.heap.size rfl
  have B2 : Hid (Below W2.heap.size W2 (W2.alloc (.cells #[.int .i64 0, .int .u32 0, .int .i64 0, .int .i64 0, .int .u32 0, .int .u32 0, .int .u32 0, .int .u32 0, .int .u64 0, .slice none 0 0] 27))) := below1 _ _
  go_wp2_with fail
  refine (HR.out _ (HBS.out.below (HB2.out.trans (B2.out.mono HB2.out.size)))).mono ?_
  rintro e W3 ⟨rfl, hb⟩
  unfold zeroArr
  have HB3 : Hid (Below w.heap.size w W3) := (HB2.out.trans (B2.out.mono HB2.out.size)).trans (hb.mono (by have := HB2.out.size; simp; omega))
  have O3 : Hid _ := (O2.out.below B2.out).below hb
  have A3 : Hid _ := AtB.below A2.out hb
  have hp23 : W2.heap.size < W3.heap.size := by have := hb.size; simp at this; omega
  clear hb HB2 O2 A2
  have A3n : Hid _ := atB_new W3 #[.int .i64 0, .int .u32 0, .int .i64 0, .int .i64 0, .int .u32 0, .int .u32 0, .int .u32 0, .int .u32 0, .int .u64 0, .slice none 0 0] 27 W3.heap.size rfl
  have B3 : Hid (Below W3.heap.size W3 (W3.alloc (.cells #[.int .i64 0, .int .u32 0, .int .i64 0, .int .i64 0, .int .u32 0, .int .u32 0, .int .u32 0, .int .u32 0, .int .u64 0, .slice none 0 0] 27))) := below1 _ _
  have A3m : Hid _ := AtB.below A3.out B3.out
  clear A3
  go_wp2_with fail
  refine (lives_any _).mono ?_
  rintro e W4 ⟨rfl, hb⟩
  have HB4 : Hid (Below w.heap.size w W4) := (HB3.out.trans (B3.out.mono HB3.out.size)).trans (hb.mono (by have := HB3.out.size; simp; omega))
  have O4 : Hid _ := (O3.out.below B3.out).below hb
  have A4m : Hid _ := AtB.below A3m.out hb
  have A4n : Hid _ := AtB.below A3n.out hb
  have Q4 : Hid (Below W3.heap.size W3 W4) := B3.out.trans (hb.mono (by simp))
  clear hb HB3 O3 A3m A3n
  obtain ⟨x0, x1, x2, x3, x4, x5, x6, x7, x8, x9⟩ := AtB.ten A4m.out
  obtain ⟨y0, y1, y2, y3, y4, y5, y6, y7, y8, y9⟩ := AtB.ten A4n.out
  go_wp2_with fail
  refine (same_yes 0 0 0 0 0 0 0 0 0 none none 0 0 0 [] W4 (os_nilD _ _) (os_nilD _ _)).mono ?_
  rintro e W5 ⟨rfl, hb⟩
  have HB5 : Hid (Below w.heap.size w W5) := HB4.out.trans (hb.mono HB4.out.size)
  have Q5 : Hid (Below W3.heap.size W3 W5) := Q4.out.trans (hb.mono Q4.out.size)
  have A5m : Hid _ := AtB.below A4m.out hb
  have cv1 : (convert 22 9 (.slice a1 n c1)).run Try.prog W5 = .ok (.string (strOfNums zs)) W5 := run_conv_bs _ (O4.out.below hb) 22 9 5 Try.underlying22 Try.underlying5 Try.underlying9
  have cv2 : (convert 22 9 (.slice a n cap)).run Try.prog W5 = .ok (.string (strOfNums zs)) W5 := run_conv_bs _ (HBS.out.below HB5.out) 22 9 5 Try.underlying22 Try.underlying5 Try.underlying9
  clear hb HB4 O4 A4m A4n x0 x1 x2 x3 x4 x5 x6 x7 x8 x9 y0 y1 y2 y3 y4 y5 y6 y7 y8 y9
  obtain ⟨x0, x1, x2, x3, x4, x5, x6, x7, x8, x9⟩ := AtB.ten A5m.out
  go_wp2
  go_ret
  exact ⟨rfl, HB5.out⟩
theorem parse_fit : ∀ (m : Nat) (zs : List Int) (os : List Opt), zs.length ≤ m → (∀ i, 0 ≤ zs.getD i 0 ∧ zs.getD i 0 ≤ 255) → parseO zs = some os → os.all optB = true
  | m, [], os, _, _, h => by rw [parse_nil] at h; cases h
  | 0, z :: r, os, hm, _, _ => by simp at hm
  | m + 1, z :: r, os, hm, hf, h => by
    have hz := hf 0
    simp only [List.getD_cons_zero] at hz
    have hr : ∀ i, 0 ≤ r.getD i 0 ∧ r.getD i 0 ≤ 255 := fun i => by have := hf (i + 1); simpa using this
    by_cases h255 : z = 255
    · subst h255; rw [parse_end] at h; cases h; rfl
    · by_cases h0 : z = 0
      · subst h0; rw [parse_fill] at h; exact parse_fit m r os (by simp at hm; omega) hr h
      · cases r with
        | nil => rw [parse_short z h255 h0] at h; cases h
        | cons l r2 =>
          have hl := hr 0
          simp only [List.getD_cons_zero] at hl
          have hr2 : ∀ i, 0 ≤ r2.getD i 0 ∧ r2.getD i 0 ≤ 255 := fun i => by have := hr (i + 1); simpa using this
          by_cases hlen : l.toNat ≤ r2.length
          · rw [parse_opt z l r2 h255 h0 hlen] at h
            cases hp : parseO (r2.drop l.toNat) with
            | none => rw [hp] at h; cases h
            | some os2 =>
              rw [hp] at h
              cases h
              have ih := parse_fit m (r2.drop l.toNat) os2 (by simp at hm ⊢; omega) (fun i => by have := hr2 (l.toNat + i); simpa [List.getD_eq_getElem?_getD, List.getElem?_drop] using this) hp
              simp only [List.all_cons, Bool.and_eq_true]
              refine ⟨?_, ih⟩
              unfold optB
              have hs : (strOfNums (r2.take l.toNat)).size = l.toNat := by rw [strOfNums_size, List.length_take]; omega
              simp only [Bool.and_eq_true, decide_eq_true_eq, beq_iff_eq]
              exact ⟨trivial, by omega, by omega, by rw [hs]; omega⟩
          · rw [parse_long z l r2 h255 h0 hlen] at h; cases h
theorem parse_few : ∀ (m : Nat) (zs : List Int) (os : List Opt), zs.length ≤ m → parseO zs = some os → os.length ≤ zs.length
  | m, [], os, _, h => by rw [parse_nil] at h; cases h
  | 0, z :: r, os, hm, _ => by simp at hm
  | m + 1, z :: r, os, hm, h => by
    by_cases h255 : z = 255
    · subst h255; rw [parse_end] at h; cases h; simp
    · by_cases h0 : z = 0
      · subst h0; rw [parse_fill] at h; have := parse_few m r os (by simp at hm; omega) h; simp; omega
      · cases r with
        | nil => rw [parse_short z h255 h0] at h; cases h
        | cons l r2 =>
          by_cases hlen : l.toNat ≤ r2.length
          · rw [parse_opt z l r2 h255 h0 hlen] at h
            cases hp : parseO (r2.drop l.toNat) with
            | none => rw [hp] at h; cases h
            | some os2 =>
              rw [hp] at h
              cases h
              have ih := parse_few m (r2.drop l.toNat) os2 (by simp at hm ⊢; omega) hp
              simp at ih ⊢; omega
          · rw [parse_long z l r2 h255 h0 hlen] at h; cases h
theorem parse_len {zs : List Int} {os : List Opt} {n : Nat} (hp : parseO (zs.drop 240) = some os) (hl : zs.length = n) (hn : n ≤ 1048576) : os.length ≤ 2000000 := by
  have := parse_few _ _ os (Nat.le_refl _) hp
  simp at this; omega
set_option maxHeartbeats 4000000 in
theorem decodes_yes (w : World) (a : Option Addr) (n cap : Nat) (zs : List Int) (os : List Opt) (h : BS w a n zs) (hn : n ≤ 1048576) (h240 : 240 ≤ n) (hcap : n ≤ cap) (hm : isMsgB zs = true) (hp : parseO (zs.drop 240) = some os) (hos : os.length ≤ 2000000) :
    Calls Try.prog 3 #[.slice a n cap] w fun e w' => e = .returned (.bool true) ∧ Below w.heap.size w w' := by
  obtain ⟨b, off, rfl⟩ : ∃ b off, a = some ⟨b, off, none⟩ := by
    rcases h.cells with h0 | ⟨b, off, e, _⟩
    · omega
    · exact ⟨b, off, e⟩
  have HM : Hid _ := hm
  have HP : Hid _ := hp
  have HFIT : Hid _ := parse_fit _ _ os (Nat.le_refl _) (fun i => by have := h.fits (240 + i); simpa [List.getD_eq_getElem?_getD, List.getElem?_drop] using this) hp
  have c0 := ((msg_iff h.fits (by rw [h.len]; omega)).1 hm).1
  have v1 := num_bd4 h.fits 4
  have v2 := num_bd2' h.fits 8
  have v3 := num_bd2' h.fits 10
  have v4 := num_bd4 h.fits 12
  have v5 := num_bd4 h.fits 16
  have v6 := num_bd4 h.fits 20
  have v7 := num_bd4 h.fits 24
  have v8 := num_bd (zs.drop 28) (fun i => by have := h.fits (28 + i); simpa [List.getD_eq_getElem?_getD, List.getElem?_drop] using this) 6
  rw [show (256 : Int) ^ 6 = 281474976710656 by decide] at v8
  have HFV : Hid (∀ v, fixV2 zs v = dhcpV (zs.getD 0 0) (num ((zs.drop 4).take 4)) (num ((zs.drop 8).take 2)) (num ((zs.drop 10).take 2)) (num ((zs.drop 12).take 4)) (num ((zs.drop 16).take 4)) (num ((zs.drop 20).take 4)) (num ((zs.drop 24).take 4)) (num ((zs.drop 28).take 6)) v) := fun v => rfl
  clear hm hp
  generalize zs.getD 0 0 = op at *
  generalize num ((zs.drop 4).take 4) = xid at *
  generalize num ((zs.drop 8).take 2) = secs at *
  generalize num ((zs.drop 10).take 2) = flags at *
  generalize num ((zs.drop 12).take 4) = ci at *
  generalize num ((zs.drop 16).take 4) = yi at *
  generalize num ((zs.drop 20).take 4) = si at *
  generalize num ((zs.drop 24).take 4) = gi at *
  generalize num ((zs.drop 28).take 6) = ch at *
  obtain ⟨i0, hi, hz0, hz1, hz2⟩ := info_parts info5
  have hl := h.len
  have HBS : Hid _ := h
  clear h
  go_enter Try.func3, Try.ntmps3
  go_wp2_with (at_builtin; refine wpList_append_bs (by rfl) _ _ 22 rfl w.heap.size 5 i0 Try.underlying22 hi hz0 hz1 hz2 _ 0 [] rfl (own_empty w _ (Nat.le_refl _)) (some ⟨b, off, none⟩) n cap zs rfl (HBS.out.below (below1 w _)) (by omega) (by simp) ?_)
  intro a1 c1 W1 o1 g1
  have b1 : Below w.heap.size w W1 := (below1 w _).grown g1 (by simp) (by rintro k ⟨⟩; exact Nat.le_refl _)
  have o1' : W1.ownsRow w.heap.size 5 1 (.slice a1 n c1) n (zs.map (Value.int .u8)) := by simpa using o1
  have O1 : Hid (BS W1 a1 n zs) := own_bs o1' HBS.out.fits (by omega)
  have hcc : Hid _ := own_caps o1'
  have HB1 : Hid _ := b1
  clear o1 g1 o1' b1 hi hz0 hz1 hz2
  obtain ⟨b1, o1, rfl⟩ : ∃ b1 o1, a1 = some ⟨b1, o1, none⟩ := by
    rcases O1.out.cells with h0 | ⟨b1, o1, e, _⟩
    · omega
    · exact ⟨b1, o1, e⟩
  go_wp2_with fail
  refine (decode_yes W1 b1 o1 n c1 zs os O1.out hcc.out.1 HM.out HP.out hos).mono ?_
  rintro e W2 ⟨a8, c8, rfl, hos2, hb⟩
  have OS2 : Hid _ := hos2
  clear hos2
  rw [HFV.out]
  unfold dhcpV
  have HB2 : Hid (Below w.heap.size w W2) := HB1.out.trans (hb.mono HB1.out.size)
  have O2 : Hid _ := O1.out.below hb
  clear hb HB1 O1
  have A2 : Hid _ := atB_new W2 #[.int .i64 op, .int .u32 xid, .int .i64 secs, .int .i64 flags, .int .u32 ci, .int .u32 yi, .int .u32 si, .int .u32 gi, .int .u64 ch, .slice a8 os.length c8] 27 W2.heap.size rfl
  have B2 : Hid (Below W2.heap.size W2 (W2.alloc (.cells #[.int .i64 op, .int .u32 xid, .int .i64 secs, .int .i64 flags, .int .u32 ci, .int .u32 yi, .int .u32 si, .int .u32 gi, .int .u64 ch, .slice a8 os.length c8] 27))) := below1 _ _
  go_wp2_with fail
  refine (rdecode_msg _ b off n cap zs (HBS.out.below (HB2.out.trans (B2.out.mono HB2.out.size))) hcap HM.out (by omega)).mono ?_
  rintro e W3 hpost
  unfold RDPost at hpost
  rw [HP.out] at hpost
  obtain ⟨hb, a9, c9, rfl, hos3⟩ := hpost
  have OS3 : Hid _ := hos3
  have Q34 : Hid _ := hb
  clear hos3
  rw [HFV.out]
  unfold dhcpV
  have HB3 : Hid (Below w.heap.size w W3) := (HB2.out.trans (B2.out.mono HB2.out.size)).trans (hb.mono (by have := HB2.out.size; simp; omega))
  have O3 : Hid _ := (O2.out.below B2.out).below hb
  have A3 : Hid _ := AtB.below A2.out hb
  have hp23 : W2.heap.size < W3.heap.size := by have := hb.size; simp at this; omega
  clear hb HB2 O2 A2
  have A3n : Hid _ := atB_new W3 #[.int .i64 op, .int .u32 xid, .int .i64 secs, .int .i64 flags, .int .u32 ci, .int .u32 yi, .int .u32 si, .int .u32 gi, .int .u64 ch, .slice a9 os.length c9] 27 W3.heap.size rfl
  have B3 : Hid (Below W3.heap.size W3 (W3.alloc (.cells #[.int .i64 op, .int .u32 xid, .int .i64 secs, .int .i64 flags, .int .u32 ci, .int .u32 yi, .int .u32 si, .int .u32 gi, .int .u64 ch, .slice a9 os.length c9] 27))) := below1 _ _
  have A3m : Hid _ := AtB.below A3.out B3.out
  clear A3
  go_wp2_with fail
  refine (lives_any _).mono ?_
  rintro e W4 ⟨rfl, hb⟩
  have HB4 : Hid (Below w.heap.size w W4) := (HB3.out.trans (B3.out.mono HB3.out.size)).trans (hb.mono (by have := HB3.out.size; simp; omega))
  have O4 : Hid _ := (O3.out.below B3.out).below hb
  have A4m : Hid _ := AtB.below A3m.out hb
  have A4n : Hid _ := AtB.below A3n.out hb
  have Q4 : Hid (Below W3.heap.size W3 W4) := B3.out.trans (hb.mono (by simp))
  clear hb HB3 O3 A3m A3n
  obtain ⟨x0, x1, x2, x3, x4, x5, x6, x7, x8, x9⟩ := AtB.ten A4m.out
  obtain ⟨y0, y1, y2, y3, y4, y5, y6, y7, y8, y9⟩ := AtB.ten A4n.out
  go_wp2_with fail
  refine (same_yes op xid secs flags ci yi si gi ch a8 a9 os.length c8 c9 os W4 ((OS2.out.below B2.out).below (Q34.out.trans (Q4.out.mono Q34.out.size))) (OS3.out.below Q4.out)).mono ?_
  rintro e W5 ⟨rfl, hb⟩
  have HB5 : Hid (Below w.heap.size w W5) := HB4.out.trans (hb.mono HB4.out.size)
  have Q5 : Hid (Below W3.heap.size W3 W5) := Q4.out.trans (hb.mono Q4.out.size)
  have A5m : Hid _ := AtB.below A4m.out hb
  have cv1 : (convert 22 9 (.slice (some ⟨b1, o1, none⟩) n c1)).run Try.prog W5 = .ok (.string (strOfNums zs)) W5 := run_conv_bs _ (O4.out.below hb) 22 9 5 Try.underlying22 Try.underlying5 Try.underlying9
  have cv2 : (convert 22 9 (.slice (some ⟨b, off, none⟩) n cap)).run Try.prog W5 = .ok (.string (strOfNums zs)) W5 := run_conv_bs _ (HBS.out.below HB5.out) 22 9 5 Try.underlying22 Try.underlying5 Try.underlying9
  clear hb HB4 O4 A4m A4n x0 x1 x2 x3 x4 x5 x6 x7 x8 x9 y0 y1 y2 y3 y4 y5 y6 y7 y8 y9
  obtain ⟨x0, x1, x2, x3, x4, x5, x6, x7, x8, x9⟩ := AtB.ten A5m.out
  by_cases h64 : os.length ≤ 64
  · have h64I : (os.length : Int) ≤ 64 := by omega
    have HY : Hid ((fixB op secs flags ch && optsB os) = true) := by
      show _ = _
      unfold fixB optsB
      rw [fit16_eq, fit16_eq, HFIT.out]
      simp only [Bool.and_eq_true, Bool.or_eq_true, beq_iff_eq, decide_eq_true_eq]
      exact ⟨⟨c0, v2, v3, by omega⟩, h64, trivial⟩
    have OS5 : Hid (OS W5 a8 os.length os) := ((OS2.out.below B2.out).below (Q34.out.trans (Q5.out.mono Q34.out.size)))
    have hsplit : Hid (encBytes op xid secs flags ci yi si gi ch os = fixBytes op xid secs flags ci yi si gi ch ++ (optBytes os ++ 255 :: [])) := by
      show _ = _
      unfold encBytes
      simp only [List.append_assoc]
    have hmsg : Hid (isMsgB (encBytes op xid secs flags ci yi si gi ch os) = true) := by show _ = _; rw [hsplit.out]; exact wr_isMsg _ _ _ _ _ _ _ _ _ c0 _
    have hpar : Hid (parseO ((encBytes op xid secs flags ci yi si gi ch os).drop 240) = some os) := by show _ = _; rw [hsplit.out, wr_drop]; exact parse_written os [] HFIT.out
    have hfix : Hid (∀ s, fixV2 (encBytes op xid secs flags ci yi si gi ch os) s = dhcpV op xid secs flags ci yi si gi ch s) := by intro s; rw [hsplit.out]; exact wr_fields _ _ _ _ _ _ _ _ _ c0 v1 v2 v3 v4 v5 v6 v7 ⟨v8.1, by omega⟩ _ s
    have hbd : Hid _ := encBytes_fits op xid secs flags ci yi si gi ch os HFIT.out
    have hBl : (encBytes op xid secs flags ci yi si gi ch os).length ≤ 20000 ∧ 0 < (encBytes op xid secs flags ci yi si gi ch os).length := by
      have := optBytes_len HFIT.out
      unfold encBytes
      rw [List.length_append, List.length_append, fixBytes_len]
      simp only [List.length_cons, List.length_nil]
      omega
    have HENC : Hid _ := encode_yes op xid secs flags ci yi si gi ch a8 os.length c8 os W5 OS5.out v1 v4 v5 v6 v7 ⟨v8.1, by omega⟩ HY.out
    clear hsplit HFIT c0 v1 v2 v3 v4 v5 v6 v7 v8 HY
    generalize encBytes op xid secs flags ci yi si gi ch os = B at *
    unfold dhcpV at HENC
    go_wp2_with fail
    refine Calls.mono HENC.out ?_
    rintro e W6 ⟨b6, N6, c6, rfl, ho6, hb⟩
    have hN6 : N6 = B.length := by have := own_len ho6; simpa using this
    subst hN6
    have O6 : Hid (BS W6 b6 B.length B) := own_bs ho6 hbd.out (by omega)
    have C6 := own_caps ho6
    have HB6 : Hid (Below w.heap.size w W6) := HB5.out.trans (hb.mono HB5.out.size)
    have OS6 : Hid _ := OS5.out.below hb
    have A6 : Hid _ := AtB.below A5m.out hb
    clear hb ho6 HB5 OS5 A5m cv1 cv2 x0 x1 x2 x3 x4 x5 x6 x7 x8 x9 HENC
    rcases O6.out.cells with h00 | ⟨ab, ao, rfl, _⟩
    · omega
    go_wp2_with fail
    refine (decode_yes W6 ab ao _ c6 _ os O6.out C6.1 hmsg.out hpar.out hos).mono ?_
    rintro e W7 ⟨a7, c7, rfl, os7, hb⟩
    rw [hfix.out]
    unfold dhcpV
    have HB7 : Hid (Below w.heap.size w W7) := HB6.out.trans (hb.mono HB6.out.size)
    have OS7 : Hid _ := os7
    have OS7m : Hid _ := OS6.out.below hb
    have A7 : Hid _ := AtB.below A6.out hb
    have B7 : Hid (Below W7.heap.size W7 (W7.alloc (.cells #[.int .i64 op, .int .u32 xid, .int .i64 secs, .int .i64 flags, .int .u32 ci, .int .u32 yi, .int .u32 si, .int .u32 gi, .int .u64 ch, .slice a7 os.length c7] 27))) := below1 _ _
    have hm7 : W2.heap.size < W7.heap.size := A7.out.1
    have hp27 : ¬ W2.heap.size = W7.heap.size := by omega
    clear hb os7 HB6 OS6 A6 C6
    obtain ⟨x0, x1, x2, x3, x4, x5, x6, x7, x8, x9⟩ := AtB.ten A7.out
    go_wp2_with fail
    refine (same_yes op xid secs flags ci yi si gi ch a7 a8 os.length c7 c8 os _ (OS7.out.below B7.out) (OS7m.out.below B7.out)).mono ?_
    rintro e W8 ⟨rfl, hb⟩
    have HB8 : Hid (Below w.heap.size w W8) := (HB7.out.trans (B7.out.mono HB7.out.size)).trans (hb.mono (by have := HB7.out.size; simp; omega))
    clear hb
    go_wp2
    go_ret
    exact ⟨rfl, HB8.out⟩
  · have h64I : (64 : Int) < (os.length : Int) := by omega
    go_wp2
    go_ret
    exact ⟨rfl, HB5.out⟩
theorem decodes_walk (w : World) (a : Option Addr) (n cap : Nat) (zs : List Int) (h : BS w a n zs) (hcap : n ≤ cap) (hn : n ≤ 1048576) :
    Calls Try.prog 3 #[.slice a n cap] w fun e w' => e = .returned (.bool true) ∧ Below w.heap.size w w' := by
  cases hm : isMsgB zs with
  | false => exact decodes_no w a n cap zs h hn (fun W a1 c1 hB hc => decode_no1 W a1 n c1 zs hB hc hm) (fun W hB => rdecode_no W a n cap zs hB hcap hm)
  | true =>
    have h240 := msg_long hm
    have hl := h.len
    cases hp : parseO (zs.drop 240) with
    | none =>
      refine decodes_no w a n cap zs h hn (fun W a1 c1 hB hc => ?_) (fun W hB => ?_)
      · obtain ⟨b1, o1, rfl⟩ : ∃ b1 o1, a1 = some ⟨b1, o1, none⟩ := by
          rcases hB.cells with h0 | ⟨b1, o1, e, _⟩
          · omega
          · exact ⟨b1, o1, e⟩
        exact decode_no2 W b1 o1 n c1 zs hB hc hm hp (by omega) (by omega)
      · obtain ⟨b1, o1, rfl⟩ : ∃ b1 o1, a = some ⟨b1, o1, none⟩ := by
          rcases hB.cells with h0 | ⟨b1, o1, e, _⟩
          · omega
          · exact ⟨b1, o1, e⟩
        refine (rdecode_msg W b1 o1 n cap zs hB hcap hm (by omega)).mono ?_
        intro e W' hpost
        unfold RDPost at hpost
        rw [hp] at hpost
        exact ⟨hpost.2, hpost.1⟩
    | some os => exact decodes_yes w a n cap zs os h hn (by omega) hcap hm hp (parse_len hp hl hn)
end Go.Proofs.Ytglaheblbomhpaa
