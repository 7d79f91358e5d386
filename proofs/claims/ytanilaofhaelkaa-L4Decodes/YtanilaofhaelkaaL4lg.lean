/- The walk of L4Decodes, of packets that are encoded again. Condition: as said. -/
import Derived.Test.YtanilaofhaelkaaL4lf
namespace Go.Proofs.Ytanilaofhaelkaa
open Go.RowKit
set_option maxRecDepth 20000 in
set_option maxHeartbeats 8000000 in
theorem decodes_yes (src dst p : Int) (hs : 0 ≤ src ∧ src ≤ 4294967295) (ht : 0 ≤ dst ∧ dst ≤ 4294967295) (w : World) (a : Option Addr) (n cap : Nat) (zs : List Int) (h : BS w a n zs) (hcap : n ≤ cap) (hm : n ≤ 140737488351232) (hshort : n ≤ 65515) (k ty co re sp dp : Int) (ns : Bool) (sq ak fl wi ur : Int) (os ds : List Int) (hR : decR src dst (kindV p) zs = (L4R.mk k ty co re sp dp ns sq ak fl wi ur os ds)) (hE : decE src dst (kindV p) zs = 0) (hA : Again src dst zs (L4R.mk k ty co re sp dp ns sq ak fl wi ur os ds)) :
    Calls Try.prog 3 #[.int .u32 src, .int .u32 dst, .int .i64 p, .slice a n cap] w fun e w' => e = .returned (.bool true) ∧ Below w.heap.size w w' := by
  have hnl : ¬ 65515 < (n : Int) := by omega
  have hl := h.len
  have HEN : Hid (∀ W, Calls Try.prog 10 #[.int .u32 src, .int .u32 dst, .agg #[.int .i64 k, .int .i64 ty, .int .i64 co, .int .u32 re, .int .i64 sp, .int .i64 dp, .bool ns, .int .u32 sq, .int .u32 ak, .int .i64 fl, .int .i64 wi, .int .i64 ur, .string (strOfNums os), .string (strOfNums ds)]] W fun e w' => ∃ g, e = .returned (.tuple #[.slice (some ⟨g, 0, none⟩) n n, .int .i64 0]) ∧ EncS W w' g n n ((L4R.mk k ty co re sp dp ns sq ak fl wi ur os ds).enc src dst)) := fun W => by
    have := encode_ok (L4R.mk k ty co re sp dp ns sq ak fl wi ur os ds) hA.fine hA.ok src dst hs ht W
    rw [hA.len, hl] at this
    exact this
  have HS : Hid (∀ i, i < n → ((L4R.mk k ty co re sp dp ns sq ak fl wi ur os ds).enc src dst).getD i 0 = zs.getD i 0 ∨ (((k = 1 ∧ i / 2 = 1) ∨ (k = 3 ∧ i / 2 = 8)) ∧ zs.getD (i - i % 2) 0 = 255 ∧ zs.getD (i - i % 2 + 1) 0 = 255)) := fun i hi => hA.same i (by omega)
  have hn1 : k = 1 → 8 ≤ n := fun e => by
    have h1 := (L4R.mk k ty co re sp dp ns sq ak fl wi ur os ds).body_len
    rw [hA.len, hl] at h1
    have h2 : (n : Int) = fixV k + os.length + ds.length := h1
    rw [e, show fixV 1 = 8 from rfl] at h2
    omega
  have hn3 : k = 3 → 20 ≤ n := fun e => by
    have h1 := (L4R.mk k ty co re sp dp ns sq ak fl wi ur os ds).body_len
    rw [hA.len, hl] at h1
    have h2 : (n : Int) = fixV k + os.length + ds.length := h1
    rw [e, show fixV 3 = 20 from rfl] at h2
    omega
  clear hA hl
  obtain ⟨i0, hi, hz0, hz1, hz2⟩ := info_parts info5
  have H : Hid (BS w a n zs) := h
  have HD : Hid (∀ W a' cap', n ≤ cap' → (∀ x, a' = some x → ∃ b off, x = ⟨b, off, none⟩) → (a' = none → cap' = 0) → BS W a' n zs → Calls Try.prog 7 #[.int .u32 src, .int .u32 dst, .int .i64 p, .slice a' n cap'] W fun e w' => e = .returned (.tuple #[.agg #[.int .i64 k, .int .i64 ty, .int .i64 co, .int .u32 re, .int .i64 sp, .int .i64 dp, .bool ns, .int .u32 sq, .int .u32 ak, .int .i64 fl, .int .i64 wi, .int .i64 ur, .string (strOfNums os), .string (strOfNums ds)], .int .i64 0]) ∧ Below W.heap.size W w') := fun W a' cap' h1 h2 h3 hB => by
    have := decode_any src dst p hs ht a' n cap' zs h1 h2 h3 W hB
    rw [hR, hE] at this
    exact this
  have HR : Hid (∀ W, BS W a n zs → Calls Try.prog 8 #[.int .u32 src, .int .u32 dst, .int .i64 p, .slice a n cap] W fun e w' => e = .returned (.tuple #[.agg #[.int .i64 k, .int .i64 ty, .int .i64 co, .int .u32 re, .int .i64 sp, .int .i64 dp, .bool ns, .int .u32 sq, .int .u32 ak, .int .i64 fl, .int .i64 wi, .int .i64 ur, .string (strOfNums os), .string (strOfNums ds)], .int .i64 0]) ∧ Below W.heap.size W w') := fun W hB => by
    have := rdecode_any src dst p hs ht a n cap zs hcap W hB
    rw [hR, hE] at this
    exact this
  have hq := fun W => neq14_same k ty co re sp dp ns sq ak fl wi ur (strOfNums os) (strOfNums ds) W
  have HQ : Hid _ := hq
  clear h hR hE hq
  go_enter Try.func3, Try.ntmps3
  go_wp2_with (at_builtin; refine wpList_append_bs (by rfl) _ _ 23 rfl w.heap.size 5 i0 Try.underlying23 hi hz0 hz1 hz2 _ 0 [] rfl (own_empty w _ (Nat.le_refl _)) a n cap zs rfl (H.out.below ((Below.refl _ _).alloc (Nat.le_refl _) _)) (by omega) (by simp) ?_)
  intro a' cap' w1 hown hgrow
  have hb1 : Below w.heap.size w w1 := ((Below.refl _ _).alloc (Nat.le_refl _) _).grown hgrow (by simp) (by rintro k ⟨⟩; exact Nat.le_refl _)
  have H1 : Hid (BS w1 a' n zs) := own_bs (by simpa using hown) H.out.fits (by omega)
  have hcc := own_caps hown
  have hsh : Hid ((∀ x, a' = some x → ∃ b off, x = ⟨b, off, none⟩) ∧ (a' = none → cap' = 0)) := own_shape hown
  clear hown hgrow hi hz0 hz1 hz2
  go_wp2_with fail
  refine (HD.out w1 a' cap' (by omega) hsh.out.1 hsh.out.2 H1.out).mono ?_
  clear HD hsh
  rintro e W1 ⟨rfl, hb⟩
  have hb2 : Below w.heap.size w W1 := hb1.trans (hb.mono hb1.size)
  have H2 : Hid (BS W1 a' n zs) := H1.out.below hb
  clear hb hb1 H1
  go_wp2_with fail
  refine (HR.out _ ((H.out.below hb2).below (below1 W1 _))).mono ?_
  clear HR
  rintro e W2 ⟨rfl, hb⟩
  have hb3 : Below w.heap.size w W2 := (hb2.alloc hb2.size _).trans (hb.mono (by have := hb2.size; simp; omega))
  have H3 : Hid (BS W2 a' n zs) := (H2.out.below (below1 W1 _)).below hb
  have A1 : Hid (AtB W2 W1.heap.size #[.int .i64 k, .int .i64 ty, .int .i64 co, .int .u32 re, .int .i64 sp, .int .i64 dp, .bool ns, .int .u32 sq, .int .u32 ak, .int .i64 fl, .int .i64 wi, .int .i64 ur, .string (strOfNums os), .string (strOfNums ds)]) := AtB.below (atB_new W1 #[.int .i64 k, .int .i64 ty, .int .i64 co, .int .u32 re, .int .i64 sp, .int .i64 dp, .bool ns, .int .u32 sq, .int .u32 ak, .int .i64 fl, .int .i64 wi, .int .i64 ur, .string (strOfNums os), .string (strOfNums ds)] 25 _ rfl) hb
  clear hb hb2 H2
  go_wp2_with fail
  refine (lives_any _).mono ?_
  rintro e W3 ⟨rfl, hb⟩
  have hb4 : Hid (Below w.heap.size w W3) := (hb3.alloc hb3.size _).trans (hb.mono (by have := hb3.size; simp; omega))
  have A2 := AtB.below (atB_new W2 #[.int .i64 k, .int .i64 ty, .int .i64 co, .int .u32 re, .int .i64 sp, .int .i64 dp, .bool ns, .int .u32 sq, .int .u32 ak, .int .i64 fl, .int .i64 wi, .int .i64 ur, .string (strOfNums os), .string (strOfNums ds)] 25 _ rfl) hb
  have A3 : Hid (AtB W3 W1.heap.size #[.int .i64 k, .int .i64 ty, .int .i64 co, .int .u32 re, .int .i64 sp, .int .i64 dp, .bool ns, .int .u32 sq, .int .u32 ak, .int .i64 fl, .int .i64 wi, .int .i64 ur, .string (strOfNums os), .string (strOfNums ds)]) := AtB.below (AtB.below A1.out (below1 W2 _)) hb
  obtain ⟨y0, y1, y2, y3, y4, y5, y6, y7, y8, y9, y10, y11, y12, y13⟩ := AtB.cells14 A2
  obtain ⟨x0, x1, x2, x3, x4, x5, x6, x7, x8, x9, x10, x11, x12, x13⟩ := AtB.cells14 A3.out
  have cv1 : (convert 23 9 (.slice a n cap)).run Try.prog W3 = .ok (.string (strOfNums zs)) W3 := run_conv_bs _ (H.out.below hb4.out) 23 9 5 Try.underlying23 Try.underlying5 Try.underlying9
  have cv2 : (convert 23 9 (.slice a' n cap')).run Try.prog W3 = .ok (.string (strOfNums zs)) W3 := run_conv_bs _ ((H3.out.below (below1 W2 _)).below hb) 23 9 5 Try.underlying23 Try.underlying5 Try.underlying9
  clear A1 A2 hb hb3 H3
  have hq := HQ.out
  go_wp2_with fail
  refine (HEN.out _).mono ?_
  clear HEN
  rintro e W4 ⟨g, rfl, e4⟩
  have b4 := e4.bel
  have hb5 : Hid (Below w.heap.size w W4) := hb4.out.trans (b4.mono hb4.out.size)
  have A4 : Hid (AtB W4 W1.heap.size #[.int .i64 k, .int .i64 ty, .int .i64 co, .int .u32 re, .int .i64 sp, .int .i64 dp, .bool ns, .int .u32 sq, .int .u32 ak, .int .i64 fl, .int .i64 wi, .int .i64 ur, .string (strOfNums os), .string (strOfNums ds)]) := AtB.below A3.out b4
  have E4 : Hid (BS W4 (some ⟨g, 0, none⟩) n ((L4R.mk k ty co re sp dp ns sq ak fl wi ur os ds).enc src dst)) := e4.bs
  have H4 : Hid (BS W4 a n zs) := H.out.below hb5.out
  clear x0 x1 x2 x3 x4 x5 x6 x7 x8 x9 x10 x11 x12 x13 y0 y1 y2 y3 y4 y5 y6 y7 y8 y9 y10 y11 y12 y13 cv1 cv2 hb4 A3 b4 e4 hq HQ
  generalize (L4R.mk k ty co re sp dp ns sq ak fl wi ur os ds).enc src dst = B at *
  have ck : W4.cell? ⟨W1.heap.size, 0, none⟩ = some (.int .i64 k) := A4.out.2 0
  clear A4
  go_wp2_with fail
  go_loopw [15] (fun i wr => ∃ j nq : Nat, i = .int .i64 j ∧ j ≤ n ∧ wr = W4.drewN nq) (fun i _ => n - (intOf i).toNat)
  case atStart => exact ⟨0, 0, rfl, by omega, rfl⟩
  case round =>
    obtain ⟨j, nq0, rfl, hj, rfl⟩ := hrel
    by_cases hlt : j < n
    · obtain ⟨b, off, rfl⟩ : ∃ b off, a = some ⟨b, off, none⟩ := by
        rcases H.out.cells with h0 | ⟨b, off, e, _⟩
        · omega
        · exact ⟨b, off, e⟩
      have hcb : W4.cell? ⟨g, j, none⟩ = some (.int .u8 (B.getD j 0)) := by
        have := bs_cell E4.out j hlt
        rwa [Nat.zero_add] at this
      have hcz := bs_cell H4.out j hlt
      have hI2 : (j : Int) < n := by omega
      have hI0 : (0 : Int) ≤ j := by omega
      have hdv : (j : Int).tdiv 2 = (j : Int) / 2 := Int.tdiv_eq_ediv_of_nonneg hI0
      rcases HS.out j hlt with hxy | ⟨hat, h255, h256⟩
      · rw [hxy] at hcb
        clear hxy
        generalize zs.getD j 0 = y at *
        by_cases hk1 : k = 1
        · subst hk1
          by_cases hj2 : (j : Int) / 2 = 1
          · have hq1 : ((j : Int) / 2 == 1) = true := by simp [hj2]
            clear hj2
            go_wp2
            go_quiet (fail)
            go_wp2
            go_roundw
            case rel => exact ⟨j + 1, _, by go_num, by omega, rfl⟩
            case measure => simp [intOf]; omega
          · have hq1 : ((j : Int) / 2 == 1) = false := by simp [hj2]
            clear hj2
            go_wp2
            go_quiet (fail)
            go_wp2
            go_roundw
            case rel => exact ⟨j + 1, _, by go_num, by omega, rfl⟩
            case measure => simp [intOf]; omega
        have e1 : (k == 1) = false := by simp [hk1]
        by_cases hk3 : k = 3
        · subst hk3
          by_cases hj2 : (j : Int) / 2 = 8
          · have hq1 : ((j : Int) / 2 == 8) = true := by simp [hj2]
            clear hj2
            go_wp2
            go_quiet (fail)
            go_wp2
            go_roundw
            case rel => exact ⟨j + 1, _, by go_num, by omega, rfl⟩
            case measure => simp [intOf]; omega
          · have hq1 : ((j : Int) / 2 == 8) = false := by simp [hj2]
            clear hj2
            go_wp2
            go_quiet (fail)
            go_wp2
            go_roundw
            case rel => exact ⟨j + 1, _, by go_num, by omega, rfl⟩
            case measure => simp [intOf]; omega
        have e3 : (k == 3) = false := by simp [hk3]
        clear hk1 hk3
        go_wp2
        go_quiet (fail)
        go_wp2
        go_roundw
        case rel => exact ⟨j + 1, _, by go_num, by omega, rfl⟩
        case measure => simp [intOf]; omega
      · rcases hat with ⟨rfl, hj2⟩ | ⟨rfl, hj2⟩
        · have hn8 := hn1 rfl
          rcases (by omega : j = 2 ∨ j = 3) with rfl | rfl
          · have c0 := bs_cell H4.out 2 (by omega)
            have c1 := bs_cell H4.out 3 (by omega)
            rw [show zs.getD 2 0 = 255 from h255] at c0
            rw [show zs.getD 3 0 = 255 from h256] at c1
            have hI3 : (2 : Int) < n := by omega
            have hI4 : (3 : Int) < n := by omega
            clear h255 h256 hcz
            generalize B.getD 2 0 = x at *
            cases hx : (x != 255)
            · go_wp2
              go_quiet (fail)
              go_wp2
              go_roundw
              case rel => exact ⟨2 + 1, _, by go_num, by omega, rfl⟩
              case measure => simp [intOf]; omega
            · go_wp2
              go_quiet (fail)
              go_wp2
              go_roundw
              case rel => exact ⟨2 + 1, _, by go_num, by omega, rfl⟩
              case measure => simp [intOf]; omega
          · have c0 := bs_cell H4.out 2 (by omega)
            have c1 := bs_cell H4.out 3 (by omega)
            rw [show zs.getD 2 0 = 255 from h255] at c0
            rw [show zs.getD 3 0 = 255 from h256] at c1
            have hI3 : (2 : Int) < n := by omega
            have hI4 : (3 : Int) < n := by omega
            clear h255 h256 hcz
            generalize B.getD 3 0 = x at *
            cases hx : (x != 255)
            · go_wp2
              go_quiet (fail)
              go_wp2
              go_roundw
              case rel => exact ⟨3 + 1, _, by go_num, by omega, rfl⟩
              case measure => simp [intOf]; omega
            · go_wp2
              go_quiet (fail)
              go_wp2
              go_roundw
              case rel => exact ⟨3 + 1, _, by go_num, by omega, rfl⟩
              case measure => simp [intOf]; omega
        · have hn20 := hn3 rfl
          rcases (by omega : j = 16 ∨ j = 17) with rfl | rfl
          · have c0 := bs_cell H4.out 16 (by omega)
            have c1 := bs_cell H4.out 17 (by omega)
            rw [show zs.getD 16 0 = 255 from h255] at c0
            rw [show zs.getD 17 0 = 255 from h256] at c1
            have hI3 : (16 : Int) < n := by omega
            have hI4 : (17 : Int) < n := by omega
            clear h255 h256 hcz
            generalize B.getD 16 0 = x at *
            cases hx : (x != 255)
            · go_wp2
              go_quiet (fail)
              go_wp2
              go_roundw
              case rel => exact ⟨16 + 1, _, by go_num, by omega, rfl⟩
              case measure => simp [intOf]; omega
            · go_wp2
              go_quiet (fail)
              go_wp2
              go_roundw
              case rel => exact ⟨16 + 1, _, by go_num, by omega, rfl⟩
              case measure => simp [intOf]; omega
          · have c0 := bs_cell H4.out 16 (by omega)
            have c1 := bs_cell H4.out 17 (by omega)
            rw [show zs.getD 16 0 = 255 from h255] at c0
            rw [show zs.getD 17 0 = 255 from h256] at c1
            have hI3 : (16 : Int) < n := by omega
            have hI4 : (17 : Int) < n := by omega
            clear h255 h256 hcz
            generalize B.getD 17 0 = x at *
            cases hx : (x != 255)
            · go_wp2
              go_quiet (fail)
              go_wp2
              go_roundw
              case rel => exact ⟨17 + 1, _, by go_num, by omega, rfl⟩
              case measure => simp [intOf]; omega
            · go_wp2
              go_quiet (fail)
              go_wp2
              go_roundw
              case rel => exact ⟨17 + 1, _, by go_num, by omega, rfl⟩
              case measure => simp [intOf]; omega
    · obtain rfl : j = n := by omega
      go_wp2
      go_ret
      exact ⟨rfl, below_drewN hb5.out _⟩
end Go.Proofs.Ytanilaofhaelkaa
