/- What Encode of package ip answers: the bytes of any head that fits, or an error. Conditions: addresses of 32 bits, options as a list of bytes. -/
import Derived.Test.YtgonckbdkgiddaaIG
namespace Go.Proofs.Ytgonckbdkgiddaa.Ip
open Go.RowKit

def ipArr (tos id frag ttl pr src dst : Int) (os : List Int) : Array Value := #[.int .i64 tos, .int .i64 id, .int .i64 frag, .int .i64 ttl, .int .i64 pr, .int .u32 src, .int .u32 dst, .string (strOfNums os)]
theorem _root_.Go.Proofs.Ytgonckbdkgiddaa.AtB.eight {W : World} {b : Nat} {x0 x1 x2 x3 x4 x5 x6 x7 : Value} (h : AtB W b #[x0, x1, x2, x3, x4, x5, x6, x7]) :
    W.cell? ⟨b, 0, none⟩ = some x0 ∧ W.cell? ⟨b, 1, none⟩ = some x1 ∧ W.cell? ⟨b, 2, none⟩ = some x2 ∧ W.cell? ⟨b, 3, none⟩ = some x3 ∧ W.cell? ⟨b, 4, none⟩ = some x4 ∧ W.cell? ⟨b, 5, none⟩ = some x5 ∧ W.cell? ⟨b, 6, none⟩ = some x6 ∧ W.cell? ⟨b, 7, none⟩ = some x7 :=
  ⟨h.2 0, h.2 1, h.2 2, h.2 3, h.2 4, h.2 5, h.2 6, h.2 7⟩

/-- A row of bytes of the call's own, at the head of its block. -/
structure EncS (w2 V : World) (g N cap : Nat) (B : List Int) : Prop where
  own : V.ownsRow w2.heap.size 5 1 (.slice (some ⟨g, 0, none⟩) N cap) N (B.map (Value.int .u8))
  bel : Below w2.heap.size w2 V
  fits : ∀ i, 0 ≤ B.getD i 0 ∧ B.getD i 0 ≤ 255
  room : N ≤ 140737488355328
theorem EncS.drew {w2 V : World} {g N cap : Nat} {B : List Int} (h : EncS w2 V g N cap B) : EncS w2 V.drew g N cap B := ⟨h.own, h.bel.drew, h.fits, h.room⟩
theorem EncS.drewN {w2 V : World} {g N cap : Nat} {B : List Int} (h : EncS w2 V g N cap B) (q : Nat) : EncS w2 (V.drewN q) g N cap B := ⟨h.own, below_drewN h.bel q, h.fits, h.room⟩
theorem EncS.bs {w2 V : World} {g N cap : Nat} {B : List Int} (h : EncS w2 V g N cap B) : BS V (some ⟨g, 0, none⟩) N B := own_bs h.own h.fits h.room
theorem EncS.cell {w2 V : World} {g N cap : Nat} {B : List Int} (h : EncS w2 V g N cap B) (t : Nat) (ht : t < N) : V.cell? ⟨g, t, none⟩ = some (.int .u8 (B.getD t 0)) := by
  have hl : B.length = N := by have := h.own.1; simpa using this
  rw [h.own.cellAt t (by omega), List.getElem?_map]
  simp [List.getD_eq_getElem?_getD, List.getElem?_eq_getElem (show t < B.length by omega)]
theorem EncS.set {w2 V : World} {g N cap : Nat} {B : List Int} (h : EncS w2 V g N cap B) (t : Nat) (x : Int) (hx : 0 ≤ x ∧ x ≤ 255) : EncS w2 (V.setCell ⟨g, t, none⟩ (.int .u8 x)) g N cap (B.set t x) := by
  refine ⟨?_, ?_, fits_set h.fits t x hx, h.room⟩
  · have := (h.own.stored t (.int .u8 x)).1
    simpa [List.map_set] using this
  · refine h.bel.setCell ?_ _
    exact (World.ownsRow.lt h.own g rfl).1

/-- SetWord on a row of the call's own. -/
theorem setWord_row {w2 V : World} {g N cap : Nat} {B : List Int} (h : EncS w2 V g N cap B) (t : Nat) (v : Int) (hv : 0 ≤ v ∧ v ≤ 65535) (ht : t + 2 ≤ N) :
    Calls Try.prog 42 #[.slice (some ⟨g, 0, none⟩) N cap, .int .i64 t, .int .u16 v] V fun e w' => e = .returned (.tuple #[]) ∧ w' = (V.setCell ⟨g, t, none⟩ (.int .u8 (v / 256))).setCell ⟨g, t + 1, none⟩ (.int .u8 (v % 256)) ∧ EncS w2 w' g N cap ((B.set t (v / 256)).set (t + 1) (v % 256)) := by
  refine (setWord_any V g N cap t v _ _ (h.cell t (by omega)) (h.cell (t + 1) (by omega)) (h.own.frozenAt t) (h.own.frozenAt (t + 1)) hv ht h.room).mono ?_
  rintro e w' ⟨rfl, rfl⟩
  exact ⟨rfl, rfl, (h.set t _ (by omega)).set (t + 1) _ (by omega)⟩

theorem encode_no (tos id frag ttl pr src dst : Int) (os : List Int) (data : Int) (w : World) (hn : os.length ≤ 140737488355328) (h : encOk tos id frag ttl pr os.length data = false) :
    Calls Try.prog 20 #[ipV tos id frag ttl pr src dst os, .int .i64 data] w fun e w' => e = .returned (.tuple #[.slice none 0 0, .int .i64 1]) ∧ Below w.heap.size w w' := by
  have hsz := strOfNums_size os
  have hnI : (os.length : Int) ≤ 140737488355328 := by omega
  have hun : ipV tos id frag ttl pr src dst os = .agg #[.int .i64 tos, .int .i64 id, .int .i64 frag, .int .i64 ttl, .int .i64 pr, .int .u32 src, .int .u32 dst, .string (strOfNums os)] := rfl
  rw [hun]
  cases c : headOk tos id frag ttl pr os.length
  · go_enter Try.func20, Try.ntmps20
    go_wp2_with (go_at_call 44; rw [← hun]; refine (hfits_any _ _ _ _ _ _ _ _ _ hn).mono ?_; rintro e w' ⟨rfl, rfl⟩)
    go_ret2
    exact ⟨rfl, below2 w _ _⟩
  · have h2 : data < 0 ∨ 65515 - (os.length : Int) < data := by
      simp only [encOk, c, Bool.true_and, decide_eq_false_iff_not] at h
      omega
    rcases h2 with h2 | h2
    · go_enter Try.func20, Try.ntmps20
      go_wp2_with (go_at_call 44; rw [← hun]; refine (hfits_any _ _ _ _ _ _ _ _ _ hn).mono ?_; rintro e w' ⟨rfl, rfl⟩)
      go_ret2
      exact ⟨rfl, below2 w _ _⟩
    · by_cases h3 : data < 0
      · go_enter Try.func20, Try.ntmps20
        go_wp2_with (go_at_call 44; rw [← hun]; refine (hfits_any _ _ _ _ _ _ _ _ _ hn).mono ?_; rintro e w' ⟨rfl, rfl⟩)
        go_ret2
        exact ⟨rfl, below2 w _ _⟩
      · have h4 : 65535 - (20 + (os.length : Int)) < data := by omega
        go_enter Try.func20, Try.ntmps20
        go_wp2_with (go_at_call 44; rw [← hun]; refine (hfits_any _ _ _ _ _ _ _ _ _ hn).mono ?_; rintro e w' ⟨rfl, rfl⟩)
        go_ret2
        exact ⟨rfl, below2 w _ _⟩

set_option maxHeartbeats 2000000 in
theorem encode_yes (tos id frag ttl pr src dst : Int) (os : List Int) (data : Int) (w : World) (hs : 0 ≤ src ∧ src ≤ 4294967295) (hd : 0 ≤ dst ∧ dst ≤ 4294967295) (ho : ∀ i, 0 ≤ os.getD i 0 ∧ os.getD i 0 ≤ 255) (h : encOk tos id frag ttl pr os.length data = true) :
    Calls Try.prog 20 #[ipV tos id frag ttl pr src dst os, .int .i64 data] w fun e w' => ∃ a cap, e = .returned (.tuple #[.slice a (20 + os.length) cap, .int .i64 0]) ∧ w'.ownsRow w.heap.size 5 1 (.slice a (20 + os.length) cap) (20 + os.length) ((ipB tos id frag ttl pr src dst os data).map (Value.int .u8)) ∧ Below w.heap.size w w' := by
  have hf := encOk_yes h
  have hok : headOk tos id frag ttl pr os.length = true := by
    cases c : headOk tos id frag ttl pr os.length
    · simp [encOk, c] at h
    · rfl
  obtain ⟨f1, f2, f3, f4, f5, f6, f7, f8⟩ := hf
  have HF0 : Hid (HF tos id frag ttl pr os.length data) := encOk_yes h
  clear h
  have hsz := strOfNums_size os
  have hnI : (os.length : Int) ≤ 40 := by omega
  have hun : ipV tos id frag ttl pr src dst os = .agg #[.int .i64 tos, .int .i64 id, .int .i64 frag, .int .i64 ttl, .int .i64 pr, .int .u32 src, .int .u32 dst, .string (strOfNums os)] := rfl
  rw [hun]
  have hd0 : ¬ data < 0 := by omega
  have hd1 : ¬ 65535 - (20 + (os.length : Int)) < data := by omega
  have hor := or64s ((20 + (os.length : Int)) / 4) (by omega)
  have hmk : ∀ w, (Instr.makeSlice 26 (.int .i64 0) (.int .i64 (20 + (os.length : Int)))).run Try.prog w = .ok (.slice (some ⟨w.heap.size, 0, none⟩) 0 (20 + os.length)) (w.alloc (.cells (madeCells #[.int .u8 0] (20 + os.length)) 5)) := fun w => make_bytes w (20 + os.length) (by omega)
  go_enter Try.func20, Try.ntmps20
  go_wp2_with (go_at_call 44; rw [← hun]; refine (hfits_any _ _ _ _ _ _ _ _ _ (by omega)).mono ?_; rintro e w' ⟨rfl, rfl⟩)
  clear hmk
  have he := enc_start ((w.alloc (.cells #[.int .i64 tos, .int .i64 id, .int .i64 frag, .int .i64 ttl, .int .i64 pr, .int .u32 src, .int .u32 dst, .string (strOfNums os)] 51)).alloc (.cells #[.int .i64 tos, .int .i64 id, .int .i64 frag, .int .i64 ttl, .int .i64 pr, .int .u32 src, .int .u32 dst, .string (strOfNums os)] 51)) (madeCells #[.int .u8 0] (20 + os.length)) (20 + os.length) (w.heap.size + 1 + 1 + 1) (w.heap.size + 1 + 1) (by simp) (by simp) (by simp [size_madeCells]) (by omega)
  have hA : AtB ((w.alloc (.cells #[.int .i64 tos, .int .i64 id, .int .i64 frag, .int .i64 ttl, .int .i64 pr, .int .u32 src, .int .u32 dst, .string (strOfNums os)] 51)).alloc (.cells #[.int .i64 tos, .int .i64 id, .int .i64 frag, .int .i64 ttl, .int .i64 pr, .int .u32 src, .int .u32 dst, .string (strOfNums os)] 51)) w.heap.size #[.int .i64 tos, .int .i64 id, .int .i64 frag, .int .i64 ttl, .int .i64 pr, .int .u32 src, .int .u32 dst, .string (strOfNums os)] := (atB_new w _ 51 _ rfl).below (below1 _ _)
  have hbw := below2 w (.cells #[.int .i64 tos, .int .i64 id, .int .i64 frag, .int .i64 ttl, .int .i64 pr, .int .u32 src, .int .u32 dst, .string (strOfNums os)] 51) (.cells #[.int .i64 tos, .int .i64 id, .int .i64 frag, .int .i64 ttl, .int .i64 pr, .int .u32 src, .int .u32 dst, .string (strOfNums os)] 51)
  have hw2 : ((w.alloc (.cells #[.int .i64 tos, .int .i64 id, .int .i64 frag, .int .i64 ttl, .int .i64 pr, .int .u32 src, .int .u32 dst, .string (strOfNums os)] 51)).alloc (.cells #[.int .i64 tos, .int .i64 id, .int .i64 frag, .int .i64 ttl, .int .i64 pr, .int .u32 src, .int .u32 dst, .string (strOfNums os)] 51)).heap.size = w.heap.size + 1 + 1 := by simp
  have HA : Hid _ := hA
  clear hA
  generalize ((w.alloc (.cells #[.int .i64 tos, .int .i64 id, .int .i64 frag, .int .i64 ttl, .int .i64 pr, .int .u32 src, .int .u32 dst, .string (strOfNums os)] 51)).alloc (.cells #[.int .i64 tos, .int .i64 id, .int .i64 frag, .int .i64 ttl, .int .i64 pr, .int .u32 src, .int .u32 dst, .string (strOfNums os)] 51)) = w2 at he HA hbw hw2 ⊢
  refine (put_lit _ _ _ _ he (by simp) (64 + (20 + (os.length : Int)) / 4) (by omega) 1 (by omega) (by omega)).mono ?_
  clear he
  rintro e W1 ⟨rfl, h1⟩
  have E1 : Hid _ := h1
  obtain ⟨x0, x1, x2, x3, x4, x5, x6, x7⟩ := (AtB.below HA.out h1.bel).eight
  clear h1
  go_wp2_with fail
  clear x0 x1 x2 x3 x4 x5 x6 x7
  refine (put_lit _ _ _ _ E1.out (by simp [be_len]) tos (by omega) 1 (by omega) (by omega)).mono ?_
  clear E1
  rintro e W2 ⟨rfl, h2⟩
  have E2 : Hid _ := h2
  obtain ⟨x0, x1, x2, x3, x4, x5, x6, x7⟩ := (AtB.below HA.out h2.bel).eight
  clear h2
  go_wp2_with fail
  clear x0 x1 x2 x3 x4 x5 x6 x7
  refine (put_lit _ _ _ _ E2.out (by simp [be_len]) (20 + (os.length : Int) + data) (by omega) 2 (by omega) (by omega)).mono ?_
  clear E2
  rintro e W3 ⟨rfl, h3⟩
  have E3 : Hid _ := h3
  obtain ⟨x0, x1, x2, x3, x4, x5, x6, x7⟩ := (AtB.below HA.out h3.bel).eight
  clear h3
  go_wp2_with fail
  clear x0 x1 x2 x3 x4 x5 x6 x7
  refine (put_lit _ _ _ _ E3.out (by simp [be_len]) id (by omega) 2 (by omega) (by omega)).mono ?_
  clear E3
  rintro e W4 ⟨rfl, h4⟩
  have E4 : Hid _ := h4
  obtain ⟨x0, x1, x2, x3, x4, x5, x6, x7⟩ := (AtB.below HA.out h4.bel).eight
  clear h4
  go_wp2_with fail
  clear x0 x1 x2 x3 x4 x5 x6 x7
  refine (put_lit _ _ _ _ E4.out (by simp [be_len]) frag (by omega) 2 (by omega) (by omega)).mono ?_
  clear E4
  rintro e W5 ⟨rfl, h5⟩
  have E5 : Hid _ := h5
  obtain ⟨x0, x1, x2, x3, x4, x5, x6, x7⟩ := (AtB.below HA.out h5.bel).eight
  clear h5
  go_wp2_with fail
  clear x0 x1 x2 x3 x4 x5 x6 x7
  refine (put_lit _ _ _ _ E5.out (by simp [be_len]) ttl (by omega) 1 (by omega) (by omega)).mono ?_
  clear E5
  rintro e W6 ⟨rfl, h6⟩
  have E6 : Hid _ := h6
  obtain ⟨x0, x1, x2, x3, x4, x5, x6, x7⟩ := (AtB.below HA.out h6.bel).eight
  clear h6
  go_wp2_with fail
  clear x0 x1 x2 x3 x4 x5 x6 x7
  refine (put_lit _ _ _ _ E6.out (by simp [be_len]) pr (by omega) 1 (by omega) (by omega)).mono ?_
  clear E6
  rintro e W7 ⟨rfl, h7⟩
  have E7 : Hid _ := h7
  obtain ⟨x0, x1, x2, x3, x4, x5, x6, x7⟩ := (AtB.below HA.out h7.bel).eight
  clear h7
  go_wp2_with fail
  clear x0 x1 x2 x3 x4 x5 x6 x7
  refine (put_lit _ _ _ _ E7.out (by simp [be_len]) 0 (by omega) 2 (by omega) (by omega)).mono ?_
  clear E7
  rintro e W8 ⟨rfl, h8⟩
  have E8 : Hid _ := h8
  obtain ⟨x0, x1, x2, x3, x4, x5, x6, x7⟩ := (AtB.below HA.out h8.bel).eight
  clear h8
  go_wp2_with fail
  clear x0 x1 x2 x3 x4 x5 x6 x7
  refine (put_lit _ _ _ _ E8.out (by simp [be_len]) src (by omega) 4 (by omega) (by omega)).mono ?_
  clear E8
  rintro e W9 ⟨rfl, h9⟩
  have E9 : Hid _ := h9
  obtain ⟨x0, x1, x2, x3, x4, x5, x6, x7⟩ := (AtB.below HA.out h9.bel).eight
  clear h9
  go_wp2_with fail
  clear x0 x1 x2 x3 x4 x5 x6 x7
  refine (put_lit _ _ _ _ E9.out (by simp [be_len]) dst (by omega) 4 (by omega) (by omega)).mono ?_
  clear E9
  rintro e W10 ⟨rfl, h10⟩
  have E10 : Hid _ := h10
  obtain ⟨x0, x1, x2, x3, x4, x5, x6, x7⟩ := (AtB.below HA.out h10.bel).eight
  clear h10
  have hX := pre_hb HF0.out hs hd
  have hTb := E10.out.bel
  have hTh := E10.out.here
  obtain ⟨a, cap, hc, hr⟩ := E10.out.row
  have hXl : ([] ++ be (64 + (20 + (os.length : Int)) / 4) (1 : Int).toNat ++ be tos (1 : Int).toNat ++ be (20 + (os.length : Int) + data) (2 : Int).toNat ++ be id (2 : Int).toNat ++ be frag (2 : Int).toNat ++ be ttl (1 : Int).toNat ++ be pr (1 : Int).toNat ++ be 0 (2 : Int).toNat ++ be src (4 : Int).toNat ++ be dst (4 : Int).toNat).length = 20 := by simp [be_len]
  rw [hXl] at hc hr
  generalize ([] ++ be (64 + (20 + (os.length : Int)) / 4) (1 : Int).toNat ++ be tos (1 : Int).toNat ++ be (20 + (os.length : Int) + data) (2 : Int).toNat ++ be id (2 : Int).toNat ++ be frag (2 : Int).toNat ++ be ttl (1 : Int).toNat ++ be pr (1 : Int).toNat ++ be 0 (2 : Int).toNat ++ be src (4 : Int).toNat ++ be dst (4 : Int).toNat) = X at hX hXl hr
  clear E10
  obtain ⟨i0, hi, hz0, hz1, hz2⟩ := info_parts info5
  have hcc := cell_of_one hc
  have hfc := free_of_one hc
  have HC : Hid (W10.heap[w.heap.size + 1 + 1 + 1]? = some (.cells #[.slice a 20 cap] 26 (0, 0))) := hc
  have HR : Hid (W10.ownsRow w2.heap.size 5 1 (.slice a 20 cap) 20 (X.map (Value.int .u8))) := hr
  have HX : Hid (X ++ os = hb tos id frag ttl pr src dst os data 0) := hX
  clear hc hr hX
  go_wp2_with (at_builtin; refine wpList_append_str rfl (.tmp 71) (.tmp 73) 26 9 rfl w2.heap.size 5 i0 Try.underlying26 Try.underlying9 hi hz0 hz1 hz2 _ 20 X rfl HR.out os ho rfl (by omega) hTb.size ?_; intro a' cap' W11 r1 g1; clear hcc hfc; have hc1 : W11.heap[w.heap.size + 1 + 1 + 1]? = some (.cells #[.slice a 20 cap] 26 (0, 0)) := (g1.block _ (lt_of_block HC.out) (fun e => row_apart HR.out HC.out e.symm)).trans HC.out; have hcc := cell_of_one hc1; have hfc := free_of_one hc1)
  have hb0 := hb_bd (chk := 0) HF0.out hs hd ho (by omega)
  have hr11 : (W11.setCell ⟨w.heap.size + 1 + 1 + 1, 0, none⟩ (.slice a' (20 + os.length) cap')).ownsRow w2.heap.size 5 1 (.slice a' (20 + os.length) cap') (20 + os.length) ((hb tos id frag ttl pr src dst os data 0).map (Value.int .u8)) := by
    rw [← HX.out]
    exact ownsRow_setCell_other r1 (row_apart r1 hc1) _
  have hb11 : Below w2.heap.size w2 (W11.setCell ⟨w.heap.size + 1 + 1 + 1, 0, none⟩ (.slice a' (20 + os.length) cap')) := (hTb.grown g1 hTb.size (fun k hk => (World.ownsRow.lt HR.out k hk).1)).setCell hTh _
  have hl11 : (W11.setCell ⟨w.heap.size + 1 + 1 + 1, 0, none⟩ (.slice a' (20 + os.length) cap')).cell? ⟨w.heap.size + 1 + 1 + 1, 0, none⟩ = some (.slice a' (20 + os.length) cap') := World.cell?_setCell_same _ _ _ hcc
  have hap : (Value.slice a' (20 + os.length) cap').ownBlock ≠ some (w.heap.size + 1 + 1 + 1) := row_apart r1 hc1
  obtain ⟨g, rfl, hg1, hg2⟩ := own_some r1 (by omega)
  have hgp : g ≠ w.heap.size + 1 + 1 + 1 := fun e => hap (by simp [Value.ownBlock, e])
  have hE : EncS w2 (W11.setCell ⟨w.heap.size + 1 + 1 + 1, 0, none⟩ (.slice (some ⟨g, 0, none⟩) (20 + os.length) cap')) g (20 + os.length) cap' (hb tos id frag ttl pr src dst os data 0) := ⟨hr11, hb11, hb0, by omega⟩
  clear hr11 hb11 hcc hfc hc1 r1 g1 HC HR HX hXl hTb hTh hap hg1 hg2 x0 x1 x2 x3 x4 x5 x6 x7 hi hz0 hz1 hz2
  have hcb := hchk_bd HF0.out hs hd ho
  have hdef : Hid (65535 - fld (wsum (hb tos id frag ttl pr src dst os data 0)) = hchk tos id frag ttl pr src dst os data) := rfl
  have hset : Hid _ := hb_set tos id frag ttl pr src dst os data (hchk tos id frag ttl pr src dst os data)
  generalize hCe : hchk tos id frag ttl pr src dst os data = C at *
  have HCe : Hid (hchk tos id frag ttl pr src dst os data = C) := hCe
  clear hCe
  generalize W11.setCell ⟨w.heap.size + 1 + 1 + 1, 0, none⟩ (.slice (some ⟨g, 0, none⟩) (20 + os.length) cap') = V0 at *
  generalize hb tos id frag ttl pr src dst os data 0 = B0 at *
  go_region_held3 (fun V => V.cell? ⟨w.heap.size + 1 + 1 + 1, 0, none⟩ = some (.slice (some ⟨g, 0, none⟩) (20 + os.length) cap'))
    (first
      | exact hl11
      | (rw [World.cell?_setCell_other _ _ _ _ (fun e => hgp (congrArg Addr.block e)), World.cell?_setCell_other _ _ _ _ (fun e => hgp (congrArg Addr.block e))]; exact hl11)
      | fail)
    (first
      | (go_at_call 46; refine (check_any _ (zs := B0) hE.drew.bs).mono ?_; rintro e V1 ⟨rfl, nq1, rfl⟩; rw [hdef.out])
      | (go_at_call 46; refine (check_any _ (zs := B0) hE.bs).mono ?_; rintro e V1 ⟨rfl, nq1, rfl⟩; rw [hdef.out])
      | (go_at_call 42; refine (setWord_row (w2 := w2) (B := B0) (hE.drewN _) 10 C (by omega) (by omega)).mono ?_; rintro e V2 ⟨rfl, rfl, hE2⟩)
      | fail)
  all_goals
    have hl2 : (((V0.drewN (1 + nq1)).setCell ⟨g, 10, none⟩ (.int .u8 (C / 256))).setCell ⟨g, 10 + 1, none⟩ (.int .u8 (C % 256))).cell? ⟨w.heap.size + 1 + 1 + 1, 0, none⟩ = some (.slice (some ⟨g, 0, none⟩) (20 + os.length) cap') := by
      rw [World.cell?_setCell_other _ _ _ _ (fun e => hgp (congrArg Addr.block e)), World.cell?_setCell_other _ _ _ _ (fun e => hgp (congrArg Addr.block e))]
      exact hl11
    have HE2 : Hid (EncS w2 (((V0.drewN (1 + nq1)).setCell ⟨g, 10, none⟩ (.int .u8 (C / 256))).setCell ⟨g, 10 + 1, none⟩ (.int .u8 (C % 256))) g (20 + os.length) cap' (hb tos id frag ttl pr src dst os data C)) := by
      have := hE2
      rw [show ((B0.set 10 (C / 256)).set (10 + 1) (C % 256)) = _ from hset.out] at this
      exact this
    clear hE2
    generalize (((V0.drewN (1 + nq1)).setCell ⟨g, 10, none⟩ (.int .u8 (C / 256))).setCell ⟨g, 10 + 1, none⟩ (.int .u8 (C % 256))) = V2 at *
    go_wp2
    go_ret2
    refine ⟨some ⟨g, 0, none⟩, cap', rfl, ?_, ?_⟩
    · have := HE2.out.own
      unfold ipB
      rw [HCe.out]
      obtain ⟨o1, o2⟩ := this
      refine ⟨o1, ?_⟩
      rcases o2 with o2 | ⟨g, c, cur, e1, e2, e3⟩
      · exact .inl o2
      · exact .inr ⟨g, c, cur, e1, by omega, e3⟩
    · exact hbw.trans (HE2.out.bel.mono (by omega))
end Go.Proofs.Ytgonckbdkgiddaa.Ip
