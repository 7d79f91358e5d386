/- What Encode of package dhcp answers: the bytes of any message that fits, or an error. Conditions: numbers of their kinds, options that can be read. -/
import Derived.Test.YtglaheblbomhpaaDF
import Derived.Deep.Onto
namespace Go.Proofs.Ytglaheblbomhpaa
open Go.RowKit

theorem AtB.ten {W : World} {b : Nat} {x0 x1 x2 x3 x4 x5 x6 x7 x8 x9 : Value} (h : AtB W b #[x0, x1, x2, x3, x4, x5, x6, x7, x8, x9]) : W.cell? ⟨b, 0, none⟩ = some x0 ∧ W.cell? ⟨b, 1, none⟩ = some x1 ∧ W.cell? ⟨b, 2, none⟩ = some x2 ∧ W.cell? ⟨b, 3, none⟩ = some x3 ∧ W.cell? ⟨b, 4, none⟩ = some x4 ∧ W.cell? ⟨b, 5, none⟩ = some x5 ∧ W.cell? ⟨b, 6, none⟩ = some x6 ∧ W.cell? ⟨b, 7, none⟩ = some x7 ∧ W.cell? ⟨b, 8, none⟩ = some x8 ∧ W.cell? ⟨b, 9, none⟩ = some x9 :=
  ⟨h.2 0, h.2 1, h.2 2, h.2 3, h.2 4, h.2 5, h.2 6, h.2 7, h.2 8, h.2 9⟩

/-- The bytes of options. -/
def optBytes : List Opt → List Int
  | [] => []
  | o :: r => o.code :: (o.data.size : Int) :: (dnums o.data ++ optBytes r)
theorem optBytes_app (os ps : List Opt) : optBytes (os ++ ps) = optBytes os ++ optBytes ps := by
  induction os with
  | nil => rfl
  | cons o r ih => simp [optBytes, ih]
theorem optBytes_snoc {os : List Opt} {k : Nat} {o : Opt} (h : os[k]? = some o) : optBytes (os.take (k + 1)) = optBytes (os.take k) ++ [o.code, (o.data.size : Int)] ++ dnums o.data := by
  obtain ⟨hk, rfl⟩ := List.getElem?_eq_some_iff.1 h
  rw [List.take_succ_eq_append_getElem hk, optBytes_app]
  simp [optBytes]
theorem optBytes_len {os : List Opt} (h : os.all optB = true) : (optBytes os).length ≤ os.length * 257 := by
  induction os with
  | nil => simp [optBytes]
  | cons o r ih =>
    simp only [List.all_cons, Bool.and_eq_true] at h
    have h1 := h.1
    unfold optB at h1
    simp only [Bool.and_eq_true, decide_eq_true_eq] at h1
    have := ih h.2
    simp only [optBytes, List.length_cons, List.length_append, dnums_len]
    omega

def noughts : List Int := List.replicate 202 0
theorem noughts_len : noughts.length = 202 := by unfold noughts; rw [List.length_replicate]
/-- The fixed part of a message, numbers as they are appended. -/
def fixBytes (op xid secs flags ci yi si gi ch : Int) : List Int :=
  [] ++ be op (1 : Int).toNat ++ dnums ⟨#[1, 6, 0]⟩ ++ be xid (4 : Int).toNat ++ be secs (2 : Int).toNat ++ be flags (2 : Int).toNat ++ be ci (4 : Int).toNat ++ be yi (4 : Int).toNat ++ be si (4 : Int).toNat ++ be gi (4 : Int).toNat ++ be ch (6 : Int).toNat ++ noughts ++ dnums ⟨#[99, 130, 83, 99]⟩
theorem fixBytes_len (op xid secs flags ci yi si gi ch : Int) : (fixBytes op xid secs flags ci yi si gi ch).length = 240 := by
  unfold fixBytes
  simp only [List.length_append, be_len, dnums_len, noughts_len, List.length_nil]
  rfl
def encBytes (op xid secs flags ci yi si gi ch : Int) (os : List Opt) : List Int := fixBytes op xid secs flags ci yi si gi ch ++ optBytes os ++ [255]

set_option maxHeartbeats 1000000 in
theorem encode_no (op xid secs flags ci yi si gi ch : Int) (a : Option Addr) (n cap : Nat) (os : List Opt) (w : World) (h : OS w a n os) (hy : (fixB op secs flags ch && optsB os) = false) :
    Calls Try.prog 11 #[dhcpV op xid secs flags ci yi si gi ch (.slice a n cap)] w fun e w' => e = .returned (.tuple #[.slice none 0 0, .int .i64 1]) ∧ Below w.heap.size w w' := by
  have H : Hid _ := h
  clear h
  have hun : dhcpV op xid secs flags ci yi si gi ch (.slice a n cap) = .agg #[.int .i64 op, .int .u32 xid, .int .i64 secs, .int .i64 flags, .int .u32 ci, .int .u32 yi, .int .u32 si, .int .u32 gi, .int .u64 ch, .slice a n cap] := rfl
  cases hf : fixB op secs flags ch with
  | false =>
    have HF : Hid _ := hf
    clear hf hy
    unfold dhcpV
    go_enter Try.func11, Try.ntmps11
    go_wp2_with fail
    refine (fix_any _ _ _ _ _ _ _ _ _ (.slice a n cap) _).mono ?_
    rw [HF.out]
    rintro e W1 ⟨rfl, hb1⟩
    go_wp2
    go_ret2
    exact ⟨rfl, (below1 w _).trans (hb1.mono (by simp))⟩
  | true =>
    have HF : Hid _ := hf
    have HO : Hid (optsB os = false) := by rw [hf] at hy; exact hy
    clear hf hy
    unfold dhcpV
    go_enter Try.func11, Try.ntmps11
    go_wp2_with fail
    refine (fix_any _ _ _ _ _ _ _ _ _ (.slice a n cap) _).mono ?_
    rw [HF.out]
    rintro e W1 ⟨rfl, hb1⟩
    obtain ⟨hc1, hf1⟩ := bcell hb1
    have HB1 : Hid (Below w.heap.size w W1) := (below1 w _).trans (hb1.mono (by simp))
    clear hb1
    go_wp2_with fail
    refine (opts_any a n cap os _ (H.out.below HB1.out)).mono ?_
    rw [HO.out]
    rintro e W2 ⟨rfl, hb2⟩
    go_wp2
    go_ret2
    exact ⟨rfl, HB1.out.trans (hb2.mono HB1.out.size)⟩

set_option linter.unusedSimpArgs false in
set_option maxHeartbeats 4000000 in
theorem encode_yes (op xid secs flags ci yi si gi ch : Int) (a : Option Addr) (n cap : Nat) (os : List Opt) (w : World) (h : OS w a n os) (hx : 0 ≤ xid ∧ xid ≤ 4294967295) (hci : 0 ≤ ci ∧ ci ≤ 4294967295) (hyi : 0 ≤ yi ∧ yi ≤ 4294967295) (hsi : 0 ≤ si ∧ si ≤ 4294967295) (hgi : 0 ≤ gi ∧ gi ≤ 4294967295) (hch : 0 ≤ ch ∧ ch ≤ 18446744073709551615) (hy : (fixB op secs flags ch && optsB os) = true) :
    Calls Try.prog 11 #[dhcpV op xid secs flags ci yi si gi ch (.slice a n cap)] w fun e w' => ∃ a' N cap', e = .returned (.tuple #[.slice a' N cap', .int .i64 0]) ∧ w'.ownsRow w.heap.size 5 1 (.slice a' N cap') N ((encBytes op xid secs flags ci yi si gi ch os).map (Value.int .u8)) ∧ Below w.heap.size w w' := by
  simp only [Bool.and_eq_true] at hy
  obtain ⟨hf, ho⟩ := hy
  have HF : Hid _ := hf
  have HO : Hid _ := ho
  obtain ⟨hl64, hall⟩ : n ≤ 64 ∧ os.all optB = true := by
    unfold optsB at ho
    simp only [Bool.and_eq_true, decide_eq_true_eq] at ho
    exact ⟨by have := h.len; omega, ho.2⟩
  have HA : Hid _ := hall
  obtain ⟨hop, hsec, hfl⟩ : (0 ≤ op ∧ op ≤ 255) ∧ (0 ≤ secs ∧ secs ≤ 65535) ∧ (0 ≤ flags ∧ flags ≤ 65535) := by
    unfold fixB at hf
    simp only [Bool.and_eq_true, Bool.or_eq_true, beq_iff_eq, fitN, fit16] at hf
    simp at hf
    omega
  clear hf ho hall
  have H : Hid _ := h
  have hl := h.len
  have hnI : (n : Int) ≤ 64 := by omega
  clear h
  have hmk : ∀ w, (Instr.makeSlice 22 (.int .i64 0) (.int .i64 240)).run Try.prog w = .ok (.slice (some ⟨w.heap.size, 0, none⟩) 0 240) (w.alloc (.cells (madeCells #[.int .u8 0] 240) 5)) := fun w => make_bytes w 240 (by omega)
  unfold dhcpV
  go_enter Try.func11, Try.ntmps11
  go_wp2_with fail
  refine (fix_any _ _ _ _ _ _ _ _ _ (.slice a n cap) _).mono ?_
  rw [HF.out]
  rintro e W1 ⟨rfl, hb1⟩
  obtain ⟨hc1, hf1⟩ := bcell hb1
  have A1 : Hid _ := AtB.below (atB_new w #[.int .i64 op, .int .u32 xid, .int .i64 secs, .int .i64 flags, .int .u32 ci, .int .u32 yi, .int .u32 si, .int .u32 gi, .int .u64 ch, .slice a n cap] 27 _ rfl) hb1
  have HB1 : Hid (Below w.heap.size w W1) := (below1 w _).trans (hb1.mono (by simp))
  clear hb1
  go_wp2_with fail
  refine (opts_any a n cap os _ (H.out.below HB1.out)).mono ?_
  rw [HO.out]
  rintro e w2 ⟨rfl, hb2⟩
  have A2 : Hid _ := AtB.below A1.out hb2
  have HB2 : Hid (Below w.heap.size w w2) := HB1.out.trans (hb2.mono HB1.out.size)
  have hw2 : w.heap.size < w2.heap.size := A2.out.1
  have hnp1 : ¬ w.heap.size = w2.heap.size + 1 := by omega
  have hnp2 : ¬ w2.heap.size + 1 = w.heap.size := by omega
  clear hb2 HB1 A1 hc1 hf1
  have he := enc_start w2 (madeCells #[.int .u8 0] 240) 240 (w2.heap.size + 1) w2.heap.size rfl rfl (by simp [size_madeCells]) (by omega)
  obtain ⟨x0, x1, x2, x3, x4, x5, x6, x7, x8, x9⟩ := AtB.ten (AtB.below A2.out he.bel)
  have E0 : Hid _ := he
  clear he
  obtain ⟨i0, hi, hz0, hz1, hz2⟩ := info_parts info5
  go_wp2_with fail
  clear x0 x1 x2 x3 x4 x5 x6 x7 x8 x9 hmk
  refine (put_lit _ _ _ _ E0.out (by simp only [List.length_append, be_len, dnums_len, List.length_nil]; first | omega | (simp; omega)) op (by omega) 1 (by omega) (by omega)).mono ?_
  clear E0
  rintro e W1 ⟨rfl, hE⟩
  have E1 : Hid _ := hE
  obtain ⟨x0, x1, x2, x3, x4, x5, x6, x7, x8, x9⟩ := AtB.ten (AtB.below A2.out hE.bel)
  clear hE
  have hl0 : ([] ++ be op (1 : Int).toNat).length = 1 := by simp only [List.length_append, be_len, dnums_len, List.length_nil, List.length_replicate]; first | omega | rfl | (simp; omega)
  generalize hX0 : [] ++ be op (1 : Int).toNat = X at E1 hl0
  have HX : Hid _ := hX0
  have hXl : Hid _ := hl0
  clear hX0 hl0
  obtain ⟨a0, cap0, hc, ho⟩ := E1.out.row
  have hcc := cell_of_one hc
  have HC : Hid _ := hc
  have HW : Hid _ := ho
  clear hc ho
  go_wp2_with (at_builtin; refine wpList_append_txt rfl (.tmp 24) (.const (.string ⟨#[1, 6, 0]⟩)) 22 9 rfl w2.heap.size 5 i0 Try.underlying22 Try.underlying9 hi hz0 hz1 hz2 _ _ _ rfl HW.out ⟨#[1, 6, 0]⟩ rfl (by rw [hXl.out]; decide) E1.out.bel.size ?_)
  intro a' cap' w' h1 h2
  obtain ⟨hc1, hf1, hbw, hE, _, _⟩ := enc_grown (xs := X) (zs := dnums ⟨#[1, 6, 0]⟩) rfl rfl E1.out.bel E1.out.here HC.out HW.out (by rw [List.map_append]; exact h1) h2
  have E2 : Hid _ := hE
  clear h1 h2 hE E1 HC HW hcc
  clear x0 x1 x2 x3 x4 x5 x6 x7 x8 x9
  obtain ⟨x0, x1, x2, x3, x4, x5, x6, x7, x8, x9⟩ := AtB.ten (AtB.below A2.out hbw)
  clear hbw
  go_wp2_with fail
  clear x0 x1 x2 x3 x4 x5 x6 x7 x8 x9
  clear hc1 hf1
  refine (put_lit _ _ _ _ E2.out (by have hXl2 := hXl.out; have hd1 : (⟨#[1, 6, 0]⟩ : ByteArray).size = 3 := rfl; simp only [List.length_append, be_len, dnums_len, List.length_nil]; first | omega | (simp; omega)) xid (by omega) 4 (by omega) (by omega)).mono ?_
  clear E2
  rintro e W3 ⟨rfl, hE⟩
  have E3 : Hid _ := hE
  obtain ⟨x0, x1, x2, x3, x4, x5, x6, x7, x8, x9⟩ := AtB.ten (AtB.below A2.out hE.bel)
  clear hE
  go_wp2_with fail
  clear x0 x1 x2 x3 x4 x5 x6 x7 x8 x9
  refine (put_lit _ _ _ _ E3.out (by have hXl2 := hXl.out; have hd1 : (⟨#[1, 6, 0]⟩ : ByteArray).size = 3 := rfl; simp only [List.length_append, be_len, dnums_len, List.length_nil]; first | omega | (simp; omega)) secs (by omega) 2 (by omega) (by omega)).mono ?_
  clear E3
  rintro e W4 ⟨rfl, hE⟩
  have E4 : Hid _ := hE
  obtain ⟨x0, x1, x2, x3, x4, x5, x6, x7, x8, x9⟩ := AtB.ten (AtB.below A2.out hE.bel)
  clear hE
  go_wp2_with fail
  clear x0 x1 x2 x3 x4 x5 x6 x7 x8 x9
  refine (put_lit _ _ _ _ E4.out (by have hXl2 := hXl.out; have hd1 : (⟨#[1, 6, 0]⟩ : ByteArray).size = 3 := rfl; simp only [List.length_append, be_len, dnums_len, List.length_nil]; first | omega | (simp; omega)) flags (by omega) 2 (by omega) (by omega)).mono ?_
  clear E4
  rintro e W5 ⟨rfl, hE⟩
  have E5 : Hid _ := hE
  obtain ⟨x0, x1, x2, x3, x4, x5, x6, x7, x8, x9⟩ := AtB.ten (AtB.below A2.out hE.bel)
  clear hE
  go_wp2_with fail
  clear x0 x1 x2 x3 x4 x5 x6 x7 x8 x9
  refine (put_lit _ _ _ _ E5.out (by have hXl2 := hXl.out; have hd1 : (⟨#[1, 6, 0]⟩ : ByteArray).size = 3 := rfl; simp only [List.length_append, be_len, dnums_len, List.length_nil]; first | omega | (simp; omega)) ci (by omega) 4 (by omega) (by omega)).mono ?_
  clear E5
  rintro e W6 ⟨rfl, hE⟩
  have E6 : Hid _ := hE
  obtain ⟨x0, x1, x2, x3, x4, x5, x6, x7, x8, x9⟩ := AtB.ten (AtB.below A2.out hE.bel)
  clear hE
  go_wp2_with fail
  clear x0 x1 x2 x3 x4 x5 x6 x7 x8 x9
  refine (put_lit _ _ _ _ E6.out (by have hXl2 := hXl.out; have hd1 : (⟨#[1, 6, 0]⟩ : ByteArray).size = 3 := rfl; simp only [List.length_append, be_len, dnums_len, List.length_nil]; first | omega | (simp; omega)) yi (by omega) 4 (by omega) (by omega)).mono ?_
  clear E6
  rintro e W7 ⟨rfl, hE⟩
  have E7 : Hid _ := hE
  obtain ⟨x0, x1, x2, x3, x4, x5, x6, x7, x8, x9⟩ := AtB.ten (AtB.below A2.out hE.bel)
  clear hE
  go_wp2_with fail
  clear x0 x1 x2 x3 x4 x5 x6 x7 x8 x9
  refine (put_lit _ _ _ _ E7.out (by have hXl2 := hXl.out; have hd1 : (⟨#[1, 6, 0]⟩ : ByteArray).size = 3 := rfl; simp only [List.length_append, be_len, dnums_len, List.length_nil]; first | omega | (simp; omega)) si (by omega) 4 (by omega) (by omega)).mono ?_
  clear E7
  rintro e W8 ⟨rfl, hE⟩
  have E8 : Hid _ := hE
  obtain ⟨x0, x1, x2, x3, x4, x5, x6, x7, x8, x9⟩ := AtB.ten (AtB.below A2.out hE.bel)
  clear hE
  go_wp2_with fail
  clear x0 x1 x2 x3 x4 x5 x6 x7 x8 x9
  refine (put_lit _ _ _ _ E8.out (by have hXl2 := hXl.out; have hd1 : (⟨#[1, 6, 0]⟩ : ByteArray).size = 3 := rfl; simp only [List.length_append, be_len, dnums_len, List.length_nil]; first | omega | (simp; omega)) gi (by omega) 4 (by omega) (by omega)).mono ?_
  clear E8
  rintro e W9 ⟨rfl, hE⟩
  have E9 : Hid _ := hE
  obtain ⟨x0, x1, x2, x3, x4, x5, x6, x7, x8, x9⟩ := AtB.ten (AtB.below A2.out hE.bel)
  clear hE
  go_wp2_with fail
  clear x0 x1 x2 x3 x4 x5 x6 x7 x8 x9
  refine (put_lit _ _ _ _ E9.out (by have hXl2 := hXl.out; have hd1 : (⟨#[1, 6, 0]⟩ : ByteArray).size = 3 := rfl; simp only [List.length_append, be_len, dnums_len, List.length_nil]; first | omega | (simp; omega)) ch (by omega) 6 (by omega) (by omega)).mono ?_
  clear E9
  rintro e W10 ⟨rfl, hE⟩
  have E10 : Hid _ := hE
  obtain ⟨x0, x1, x2, x3, x4, x5, x6, x7, x8, x9⟩ := AtB.ten (AtB.below A2.out hE.bel)
  clear hE
  have hl0 : (X ++ dnums ⟨#[1, 6, 0]⟩ ++ be xid (4 : Int).toNat ++ be secs (2 : Int).toNat ++ be flags (2 : Int).toNat ++ be ci (4 : Int).toNat ++ be yi (4 : Int).toNat ++ be si (4 : Int).toNat ++ be gi (4 : Int).toNat ++ be ch (6 : Int).toNat).length = 34 := by have hXl2 := hXl.out; have hd1 : (⟨#[1, 6, 0]⟩ : ByteArray).size = 3 := rfl; simp only [List.length_append, be_len, dnums_len, List.length_nil, List.length_replicate]; first | omega | rfl | (simp; omega)
  generalize hX0 : X ++ dnums ⟨#[1, 6, 0]⟩ ++ be xid (4 : Int).toNat ++ be secs (2 : Int).toNat ++ be flags (2 : Int).toNat ++ be ci (4 : Int).toNat ++ be yi (4 : Int).toNat ++ be si (4 : Int).toNat ++ be gi (4 : Int).toNat ++ be ch (6 : Int).toNat = Y at E10 hl0
  have HY : Hid _ := hX0
  have hYl : Hid _ := hl0
  clear hX0 hl0
  obtain ⟨a0, cap0, hc, ho⟩ := E10.out.row
  have hcc := cell_of_one hc
  obtain ⟨a', cap', w', hrun, h1, h2⟩ := run_append_zeros (P := Try.prog) W10 w2.heap.size 22 3 22 5 i0 .i64 .i64 Try.underlying22 Try.underlying3 hi hz0 hz1 hz2 _ _ _ ho (by have := hYl.out; omega) 202 (by omega) (by have := hYl.out; omega) E10.out.bel.size
  obtain ⟨hc1, hf1, hbw, hE, hr1, hr2⟩ := enc_grown (xs := Y) (zs := noughts) rfl noughts_len E10.out.bel E10.out.here hc ho h1 h2
  have HR1 : Hid _ := hr1
  have HR2 : Hid _ := hr2
  clear hr1 hr2
  have hrun' : Hid ((Builtin.append_ #[22, 3] 22 #[.slice a0 Y.length cap0, .int .i64 202]).run Try.prog W10 = .ok (.slice a' (Y.length + 202) cap') w') := hrun
  have E11 : Hid _ := hE
  clear h1 h2 hE E10 hc ho hrun
  obtain ⟨y0, y1, y2, y3, y4, y5, y6, y7, y8, y9⟩ := AtB.ten (AtB.below A2.out hbw)
  clear hbw
  go_wp2_with (first
    | (at_builtin; refine Lib.wpList_append_run _ rfl (.tmp 65) (.const (.int .i64 202)) 22 3 rfl _ _ rfl rfl _ _ hrun'.out ?_)
    | (at_builtin; refine wpList_append_txt rfl (.tmp 67) (.const (.string ⟨#[99, 130, 83, 99]⟩)) 22 9 rfl w2.heap.size 5 i0 Try.underlying22 Try.underlying9 hi hz0 hz1 hz2 _ _ (Y ++ noughts) rfl HR2.out ⟨#[99, 130, 83, 99]⟩ rfl (by rw [hYl.out]; decide) E11.out.bel.size ?_)
    | fail)
  intro a1 cap1 wz h1 h2
  obtain ⟨hcz, hfz, hbw, hE, _, _⟩ := enc_grown (xs := Y ++ noughts) (N := Y.length + 202) (zs := dnums ⟨#[99, 130, 83, 99]⟩) (by rw [List.length_append, noughts_len]) rfl E11.out.bel E11.out.here HR1.out HR2.out (by simpa only [List.map_append, List.append_assoc] using h1) h2
  have hFX : Y ++ noughts ++ dnums ⟨#[99, 130, 83, 99]⟩ = fixBytes op xid secs flags ci yi si gi ch := by
    unfold fixBytes
    rw [← HY.out, ← HX.out]
  rw [hFX] at hE
  have hFl := fixBytes_len op xid secs flags ci yi si gi ch
  generalize hFe : fixBytes op xid secs flags ci yi si gi ch = F at *
  have HFe : Hid _ := hFe
  clear hFe
  have E12 : Hid _ := hE
  clear h1 h2 hE E11 HR1 HR2 hrun' hc1 hf1 hcc hFX HX HY hXl hYl
  clear x0 x1 x2 x3 x4 x5 x6 x7 x8 x9 y0 y1 y2 y3 y4 y5 y6 y7 y8 y9
  obtain ⟨x0, x1, x2, x3, x4, x5, x6, x7, x8, x9⟩ := AtB.ten (AtB.below A2.out hbw)
  clear hbw
  go_wp2_with fail
  go_loopw [72] (fun i wr => ∃ k : Nat, k ≤ n ∧ i = .int .i64 k ∧ Hid (Enc w2 wr (w2.heap.size + 1) (F ++ optBytes (os.take k)))) (fun i _ => n - (intOf i).toNat)
  case atStart => exact ⟨0, by omega, rfl, by show Enc _ _ _ _; rw [List.take_zero]; simp only [optBytes, List.append_nil]; exact E12.out⟩
  case round =>
    clear x0 x1 x2 x3 x4 x5 x6 x7 x8 x9 E12 hcz hfz
    obtain ⟨k, hk, rfl, hEk⟩ := hrel
    obtain ⟨ak, capk, hck, hok⟩ := hEk.out.row
    have hbk := hEk.out.bel
    have hck0 := cell_of_one hck
    have hfk0 := free_of_one hck
    have hpk := lt_of_block hck
    have HCk : Hid _ := hck
    have HOk : Hid _ := hok
    have HBk : Hid _ := hbk
    clear hck hok hbk
    generalize hGe : F ++ optBytes (os.take k) = G at *
    have HGe : Hid _ := hGe
    clear hGe
    by_cases hlt : k < n
    · have hkI : (k : Int) < (n : Int) := by omega
      obtain ⟨o, ho⟩ : ∃ o, os[k]? = some o := ⟨os[k]'(by omega), List.getElem?_eq_getElem (by omega)⟩
      obtain ⟨b, off, rfl, c0, c1, c2⟩ : ∃ b off, a = some ⟨b, off, none⟩ ∧ wr.cell? ⟨b, off + k * 3, none⟩ = some (.int .i64 o.cls) ∧ wr.cell? ⟨b, off + k * 3 + 1, none⟩ = some (.int .i64 o.code) ∧ wr.cell? ⟨b, off + k * 3 + 2, none⟩ = some (.string o.data) := by
        rcases (H.out.below (HB2.out.trans (HBk.out.mono HB2.out.size))).cells with h0 | ⟨b, off, e, hc⟩
        · omega
        · exact ⟨b, off, e, hc k o ho⟩
      have hoB : optB o = true := List.all_eq_true.1 HA.out o (List.mem_of_getElem? ho)
      obtain ⟨hcode, hdat⟩ : (0 < o.code ∧ o.code < 255) ∧ (o.data.size : Int) ≤ 255 := by
        unfold optB at hoB
        simp only [Bool.and_eq_true, decide_eq_true_eq] at hoB
        exact ⟨⟨hoB.2.1, hoB.2.2.1⟩, hoB.2.2.2⟩
      have HS : Hid _ := optBytes_snoc ho
      clear hoB ho
      have hGl : Hid (G.length ≤ 240 + k * 257) := by
        show _ ≤ _
        rw [← HGe.out, List.length_append, hFl]
        have := optBytes_len (os := os.take k) (List.all_eq_true.2 fun x hx => List.all_eq_true.1 HA.out x (List.mem_of_mem_take hx))
        have h2 : (os.take k).length ≤ k := List.length_take_le _ _
        have h3 : (os.take k).length * 257 ≤ k * 257 := Nat.mul_le_mul_right _ h2
        omega
      have hq1 : ¬ w2.heap.size + 1 = wr.heap.size := by omega
      have hq2 : ¬ wr.heap.size = w2.heap.size + 1 := by omega
      go_wp2_with (at_builtin; refine wpList_append_bs (by rfl) (.tmp 76) (.tmp 84) 22 rfl w2.heap.size 5 i0 Try.underlying22 hi hz0 hz1 hz2 _ _ G rfl (World.ownsRow.alloc (World.ownsRow.alloc HOk.out _) _) (some ⟨wr.heap.size + 1, 0, none⟩) 2 2 [o.code, (o.data.size : Int)] rfl (bs_two (wr.alloc _) _ _ _ (by simp) (by omega) (by omega)) (by have := hGl.out; omega) (by have := HBk.out.size; simp; omega) ?_)
      intro a1 cap1 wz h1 h2
      have hne : ∀ j, (Value.slice ak G.length capk).ownBlock = some j → j < wr.heap.size := fun j hj => (World.ownsRow.lt HOk.out j hj).2
      have hdz : wz.cell? ⟨wr.heap.size, 2, none⟩ = some (.string o.data) := by
        rw [h2.cell_far ⟨wr.heap.size, 2, none⟩ (by simp; omega) (fun e => by have := hne _ e.symm; simp at this)]
        simp [World.cell?_alloc_at]
      have hwz : wr.heap.size < wz.heap.size := by have := h2.size; simp at this; omega
      have bw2 := below2 wr (.cells #[.int .i64 o.cls, .int .i64 o.code, .string o.data] 45) (.cells #[.int .u8 o.code, .int .u8 (o.data.size : Int)] 5)
      obtain ⟨hcz, hfz, hbw, hE, hr1, hr2⟩ := enc_grown (xs := G) (zs := [o.code, (o.data.size : Int)]) (M := 2) rfl rfl (HBk.out.trans (bw2.mono HBk.out.size)) hEk.out.here ((bw2.block _ hpk).trans HCk.out) (own_below HOk.out bw2) (by rw [List.map_append]; exact h1) h2
      have HR1 : Hid _ := hr1
      have HR2 : Hid _ := hr2
      have HE : Hid _ := hE
      clear h1 h2 hE hr1 hr2 hne bw2 hbw hck0 hfk0 c0 c1 c2
      go_wp2_with (at_builtin; refine wpList_append_txt rfl (.tmp 86) (.tmp 88) 22 9 rfl w2.heap.size 5 i0 Try.underlying22 Try.underlying9 hi hz0 hz1 hz2 _ _ (G ++ [o.code, (o.data.size : Int)]) rfl HR2.out o.data rfl (by have := hGl.out; omega) HE.out.bel.size ?_)
      intro a2 cap2 wy h1 h2
      obtain ⟨hcy, hfy, _, hE, _, _⟩ := enc_grown (xs := G ++ [o.code, (o.data.size : Int)]) (N := G.length + 2) (zs := dnums o.data) (by simp) rfl HE.out.bel HE.out.here HR1.out HR2.out (by simpa only [List.map_append, List.append_assoc, List.map_cons, List.map_nil, List.cons_append, List.nil_append] using h1) h2
      have HE2 : Hid _ := hE
      clear h1 h2 hE HR1 HR2 HE hcz hfz hdz
      go_wp2
      go_roundw
      case rel =>
        refine ⟨k + 1, by omega, by go_num, ?_⟩
        show Enc _ _ _ _
        rw [HS.out, ← List.append_assoc, ← List.append_assoc, HGe.out]
        exact HE2.out
      case measure => simp [intOf]; omega
    · obtain rfl : k = n := by omega
      have hGl : Hid (G.length ≤ 240 + k * 257) := by
        show _ ≤ _
        rw [← HGe.out, List.length_append, hFl]
        have := optBytes_len (os := os.take k) (List.all_eq_true.2 fun x hx => List.all_eq_true.1 HA.out x (List.mem_of_mem_take hx))
        have h2 : (os.take k).length ≤ k := List.length_take_le _ _
        have h3 : (os.take k).length * 257 ≤ k * 257 := Nat.mul_le_mul_right _ h2
        omega
      go_wp2_with (at_builtin; refine wpList_append_bs (by rfl) (.tmp 91) (.tmp 92) 22 rfl w2.heap.size 5 i0 Try.underlying22 hi hz0 hz1 hz2 _ _ G rfl (World.ownsRow.alloc HOk.out _) (some ⟨wr.heap.size, 0, none⟩) 1 1 [255] rfl (bs_one wr _ _ rfl (by omega)) (by have := hGl.out; omega) (by have := HBk.out.size; simp; omega) ?_)
      intro a1 cap1 wz h1 h2
      have hG : G ++ [255] = encBytes op xid secs flags ci yi si gi ch os := by
        unfold encBytes
        rw [← HGe.out, List.take_of_length_le (by omega), HFe.out]
      have HR : Hid (wz.ownsRow w.heap.size 5 1 (.slice a1 (G.length + 1) cap1) (G.length + 1) ((encBytes op xid secs flags ci yi si gi ch os).map (Value.int .u8))) := by
        show World.ownsRow _ _ _ _ _ _ _
        rw [← hG, List.map_append]
        exact World.ownsRow.mono h1 (by omega)
      have HBz : Hid (Below w.heap.size w wz) := by
        have b1 := HBk.out.alloc HBk.out.size (.cells #[.int .u8 255] 5)
        have b2 := b1.grown h2 b1.size (fun j hj => (World.ownsRow.lt HOk.out j hj).1)
        exact HB2.out.trans (b2.mono (by omega))
      clear h1 h2 hG hck0 hfk0
      go_wp2
      go_ret2
      exact ⟨a1, G.length + 1, cap1, rfl, HR.out, HBz.out⟩
end Go.Proofs.Ytglaheblbomhpaa
