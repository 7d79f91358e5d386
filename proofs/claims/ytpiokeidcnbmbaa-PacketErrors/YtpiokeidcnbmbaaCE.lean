/- Parts of the proof, in one text. -/
import Derived.Test.YtpiokeidcnbmbaaCD
import Derived.Lib.ConvBytes
namespace Go.Proofs.Ytpiokeidcnbmbaa
open Go.RowKit Go.Lib
set_option linter.unusedSimpArgs false
set_option maxRecDepth 20000 in
set_option maxHeartbeats 16000000 in
theorem renf_udp (src dst : Int) (hs : 0 ≤ src ∧ src ≤ 4294967295) (ht : 0 ≤ dst ∧ dst ≤ 4294967295) (ty co re sp dp : Int) (ns : Bool) (sq ak fl wi ur : Int) (os ds : List Int) (h1 : 0 ≤ sp ∧ sp ≤ 65535) (h2 : 0 ≤ dp ∧ dp ≤ 65535) (hd : ds.length ≤ 65507) (hfd : ∀ i, 0 ≤ ds.getD i 0 ∧ ds.getD i 0 ≤ 255) (w : World)
    (HK : Hid (∀ W, Calls Try.prog 66 #[.agg #[.int .i64 2, .int .i64 ty, .int .i64 co, .int .u32 re, .int .i64 sp, .int .i64 dp, .bool ns, .int .u32 sq, .int .u32 ak, .int .i64 fl, .int .i64 wi, .int .i64 ur, .string (strOfNums os), .string (strOfNums ds)]] W fun e w' => e = .returned (.int .i64 0) ∧ Below W.heap.size W w')) :
    Calls Try.prog 34 #[.int .u32 src, .int .u32 dst, .agg #[.int .i64 2, .int .i64 ty, .int .i64 co, .int .u32 re, .int .i64 sp, .int .i64 dp, .bool ns, .int .u32 sq, .int .u32 ak, .int .i64 fl, .int .i64 wi, .int .i64 ur, .string (strOfNums os), .string (strOfNums ds)]] w fun e w' => ∃ a cap, e = .returned (.tuple #[.slice a (8 + ds.length) cap, .int .i64 0]) ∧ BS w' a (8 + ds.length) (if ns = true then be sp 2 ++ be dp 2 ++ be (8 + (ds.length : Int)) 2 ++ [0, 0] ++ ds else setC src dst 2 (be sp 2 ++ be dp 2 ++ be (8 + (ds.length : Int)) 2 ++ [0, 0] ++ ds)) ∧ (8 + ds.length ≤ cap ∧ FrA w a) ∧ Below w.heap.size w w' := by
  obtain ⟨i0, hi, hz0, hz1, hz2⟩ := info_parts info5
  have hs2 := strOfNums_size ds
  obtain ⟨LL, hLL⟩ : ∃ l, be sp 2 ++ be dp 2 ++ be (8 + (ds.length : Int)) 2 ++ [0, 0] ++ ds = l := ⟨_, rfl⟩
  rw [hLL]
  have HLL : Hid (be sp 2 ++ be dp 2 ++ be (8 + (ds.length : Int)) 2 ++ [0, 0] ++ ds = LL) := hLL
  clear hLL
  have hI2 : (ds.length : Int) ≤ 65507 := by omega
  have hw8 : IntKind.i64.wrap (8 + (ds.length : Int)) = 8 + (ds.length : Int) := by simp [IntKind.wrap, IntKind.bits, IntKind.signed]; omega
  go_enter Try.func34, Try.ntmps34
  go_wp2_with fail
  refine (HK.out _).mono ?_
  clear HK
  rintro e W1 ⟨rfl, hb1⟩
  have A1 : Hid (AtB W1 w.heap.size #[.int .i64 2, .int .i64 ty, .int .i64 co, .int .u32 re, .int .i64 sp, .int .i64 dp, .bool ns, .int .u32 sq, .int .u32 ak, .int .i64 fl, .int .i64 wi, .int .i64 ur, .string (strOfNums os), .string (strOfNums ds)]) := AtB.below (atB_new w #[.int .i64 2, .int .i64 ty, .int .i64 co, .int .u32 re, .int .i64 sp, .int .i64 dp, .bool ns, .int .u32 sq, .int .u32 ak, .int .i64 fl, .int .i64 wi, .int .i64 ur, .string (strOfNums os), .string (strOfNums ds)] 32 _ rfl) hb1
  have B1 : Hid (Below w.heap.size w W1) := (below1 w _).trans (hb1.mono (by simp))
  clear hb1
  obtain ⟨x0, x1, x2, x3, x4, x5, x6, x7, x8, x9, x10, x11, x12, x13⟩ := AtB.cells14 A1.out
  go_wp2_with fail
  clear x0 x1 x2 x3 x4 x5 x6 x7 x8 x9 x10 x11 x12 x13
  refine wp_region_held_drew (S := (fun W => AtB W w.heap.size #[.int .i64 2, .int .i64 ty, .int .i64 co, .int .u32 re, .int .i64 sp, .int .i64 dp, .bool ns, .int .u32 sq, .int .u32 ak, .int .i64 fl, .int .i64 wi, .int .i64 ur, .string (strOfNums os), .string (strOfNums ds)])) (by kernel_rfl) A1.out (fun hHeld => ?_)
  have AA : Hid (AtB W1.drew w.heap.size #[.int .i64 2, .int .i64 ty, .int .i64 co, .int .u32 re, .int .i64 sp, .int .i64 dp, .bool ns, .int .u32 sq, .int .u32 ak, .int .i64 fl, .int .i64 wi, .int .i64 ur, .string (strOfNums os), .string (strOfNums ds)]) := A1.out
  have BB : Hid (Below w.heap.size w W1.drew) := B1.out.drew
  obtain ⟨W2, hW2⟩ : ∃ W2, W1.drew = W2 := ⟨_, rfl⟩
  rw [hW2] at AA BB hHeld ⊢
  clear hW2 A1 B1
  have ZZ : Hid (Zr none W2 W2) := ⟨Below.refl _ _, fun b hb => by cases hb⟩
  refine wpAnyH_take (i := 0) (v := ?_) rfl (by kernel_rfl) (by kernel_rfl) (by kernel_rfl) (fun _ _ _ h => h) (Or.inl ⟨by rfl, ?_⟩) (by assumption) ?_
  rotate_left
  · (intro w hSw; (try dsimp only at hSw); go_simp; try with_reducible rfl)
  try simp only [List.getElem_toArray, List.getElem_cons_zero, List.getElem_cons_succ, Act.put, List.setIfInBounds_toArray, List.set_cons_zero, List.set_cons_succ]
  refine wpAnyH_take (i := 1) (v := .int .i64 sp) rfl (by kernel_rfl) (by kernel_rfl) (by kernel_rfl) (fun _ _ _ h => h) (Or.inl ⟨by rfl, fun W hW => by obtain ⟨x0, x1, x2, x3, x4, x5, x6, x7, x8, x9, x10, x11, x12, x13⟩ := AtB.cells14 hW; go_simp⟩) (by assumption) ?_
  try simp only [List.getElem_toArray, List.getElem_cons_zero, List.getElem_cons_succ, Act.put, List.setIfInBounds_toArray, List.set_cons_zero, List.set_cons_succ]
  refine wpAnyH_take (i := 3) (v := ?_) rfl (by kernel_rfl) (by kernel_rfl) (by kernel_rfl) (fun _ _ _ h => h) (Or.inl ⟨by rfl, ?_⟩) (by assumption) ?_
  rotate_left
  · (intro w hSw; (try dsimp only at hSw); go_simp; try with_reducible rfl)
  try simp only [List.getElem_toArray, List.getElem_cons_zero, List.getElem_cons_succ, Act.put, List.setIfInBounds_toArray, List.set_cons_zero, List.set_cons_succ]
  refine wpAnyH_take (i := 4) (v := .int .i64 dp) rfl (by kernel_rfl) (by kernel_rfl) (by kernel_rfl) (fun _ _ _ h => h) (Or.inl ⟨by rfl, fun W hW => by obtain ⟨x0, x1, x2, x3, x4, x5, x6, x7, x8, x9, x10, x11, x12, x13⟩ := AtB.cells14 hW; go_simp⟩) (by assumption) ?_
  try simp only [List.getElem_toArray, List.getElem_cons_zero, List.getElem_cons_succ, Act.put, List.setIfInBounds_toArray, List.set_cons_zero, List.set_cons_succ]
  refine wpAnyH_take (i := 7) (v := ?_) rfl (by kernel_rfl) (by kernel_rfl) (by kernel_rfl) (fun _ _ _ h => h) (Or.inl ⟨by rfl, ?_⟩) (by assumption) ?_
  rotate_left
  · (intro w hSw; (try dsimp only at hSw); go_simp; try with_reducible rfl)
  try simp only [List.getElem_toArray, List.getElem_cons_zero, List.getElem_cons_succ, Act.put, List.setIfInBounds_toArray, List.set_cons_zero, List.set_cons_succ]
  refine wpAnyH_take (i := 8) (v := .string (strOfNums ds)) rfl (by kernel_rfl) (by kernel_rfl) (by kernel_rfl) (fun _ _ _ h => h) (Or.inl ⟨by rfl, fun W hW => by obtain ⟨x0, x1, x2, x3, x4, x5, x6, x7, x8, x9, x10, x11, x12, x13⟩ := AtB.cells14 hW; go_simp⟩) (by assumption) ?_
  try simp only [List.getElem_toArray, List.getElem_cons_zero, List.getElem_cons_succ, Act.put, List.setIfInBounds_toArray, List.set_cons_zero, List.set_cons_succ]
  refine wpAnyH_take (i := 9) (v := .int .i64 (ds.length : Int)) rfl (by kernel_rfl) (by kernel_rfl) (by kernel_rfl) (fun _ _ _ h => h) (Or.inl ⟨by rfl, fun W hW => by go_simp⟩) (by assumption) ?_
  try simp only [List.getElem_toArray, List.getElem_cons_zero, List.getElem_cons_succ, Act.put, List.setIfInBounds_toArray, List.set_cons_zero, List.set_cons_succ]
  refine wpAnyH_take (i := 10) (v := .int .i64 (8 + (ds.length : Int))) rfl (by kernel_rfl) (by kernel_rfl) (by kernel_rfl) (fun _ _ _ h => h) (Or.inl ⟨by rfl, fun W hW => by go_simp⟩) (by assumption) ?_
  try simp only [List.getElem_toArray, List.getElem_cons_zero, List.getElem_cons_succ, Act.put, List.setIfInBounds_toArray, List.set_cons_zero, List.set_cons_succ]
  refine wpAnyH_ready (rs := [2, 13]) (by kernel_rfl) (by simp) ?_
  refine AllReadyH.cons (o := _) rfl (fun K hK => ?_) (AllReadyH.cons (o := _) rfl (fun K hK => ?_) AllReadyH.nil)
  · go_simp
    refine (two_first ZZ.out sp (by omega)).mono ?_
    rintro e V1 ⟨a57_1, rfl, u⟩
    have U1 : Hid (UR none W2 V1 (.slice a57_1 2 2) 2 (be sp 2)) := u
    have A1 : Hid (AtB V1 w.heap.size #[.int .i64 2, .int .i64 ty, .int .i64 co, .int .u32 re, .int .i64 sp, .int .i64 dp, .bool ns, .int .u32 sq, .int .u32 ak, .int .i64 fl, .int .i64 wi, .int .i64 ur, .string (strOfNums os), .string (strOfNums ds)]) := AtB.below AA.out u.rb.bel
    clear u ZZ
    refine hK _ _ A1.out (fun hHeld => ?_)
    try simp only [List.getElem_toArray, List.getElem_cons_zero, List.getElem_cons_succ, Act.put, List.setIfInBounds_toArray, List.set_cons_zero, List.set_cons_succ]
    refine wpAnyH_ready (rs := [5, 13]) (by kernel_rfl) (by simp) ?_
    refine AllReadyH.cons (o := _) rfl (fun K hK => ?_) (AllReadyH.cons (o := _) rfl (fun K hK => ?_) AllReadyH.nil)
    · go_simp
      refine (two_next U1.out dp (by omega)).mono ?_
      rintro e V2 ⟨a60_2, rfl, u, b⟩
      have U2 : Hid (UR none W2 V2 (.slice a57_1 2 2) 2 (be (sp) 2)) := u
      have B2 : Hid (BS V2 a60_2 2 (be dp 2)) := b
      have A2 : Hid (AtB V2 w.heap.size #[.int .i64 2, .int .i64 ty, .int .i64 co, .int .u32 re, .int .i64 sp, .int .i64 dp, .bool ns, .int .u32 sq, .int .u32 ak, .int .i64 fl, .int .i64 wi, .int .i64 ur, .string (strOfNums os), .string (strOfNums ds)]) := AtB.below AA.out u.rb.bel
      clear u b U1
      clear A1
      refine hK _ _ A2.out (fun hHeld => ?_)
      try simp only [List.getElem_toArray, List.getElem_cons_zero, List.getElem_cons_succ, Act.put, List.setIfInBounds_toArray, List.set_cons_zero, List.set_cons_succ]
      refine wpAnyH_ready (rs := [6, 13]) (by kernel_rfl) (by simp) ?_
      refine AllReadyH.cons (o := _) rfl (fun K hK => ?_) (AllReadyH.cons (o := _) rfl (fun K hK => ?_) AllReadyH.nil)
      · refine step_append_ur (w1 := W2) Try.underlying22 info5 rfl (.tmp 57) (.tmp 60) rfl _ 2 (be (sp) 2) rfl U2.out _ 2 2 (be (dp) 2) rfl B2.out (by omega) (by omega) ?_
        intro a3 c3 V3 u
        have U3 : Hid (UR none W2 V3 (.slice a3 4 c3) 4 (be (sp) 2 ++ be (dp) 2)) := u
        have A3 : Hid (AtB V3 w.heap.size #[.int .i64 2, .int .i64 ty, .int .i64 co, .int .u32 re, .int .i64 sp, .int .i64 dp, .bool ns, .int .u32 sq, .int .u32 ak, .int .i64 fl, .int .i64 wi, .int .i64 ur, .string (strOfNums os), .string (strOfNums ds)]) := AtB.below AA.out u.rb.bel
        clear u U2 A2 B2
        refine hK _ _ A3.out (fun hHeld => ?_)
        try simp only [List.getElem_toArray, List.getElem_cons_zero, List.getElem_cons_succ, Act.put, List.setIfInBounds_toArray, List.set_cons_zero, List.set_cons_succ]
        refine wpAnyH_ready (rs := [11, 13]) (by kernel_rfl) (by simp) ?_
        refine AllReadyH.cons (o := _) rfl (fun K hK => ?_) (AllReadyH.cons (o := _) rfl (fun K hK => ?_) AllReadyH.nil)
        · go_simp
          refine (two_next U3.out (8 + (ds.length : Int)) (by omega)).mono ?_
          rintro e V4 ⟨a66_4, rfl, u, b⟩
          have U4 : Hid (UR none W2 V4 (.slice a3 4 c3) 4 (be (sp) 2 ++ be (dp) 2)) := u
          have B4 : Hid (BS V4 a66_4 2 (be (8 + (ds.length : Int)) 2)) := b
          have A4 : Hid (AtB V4 w.heap.size #[.int .i64 2, .int .i64 ty, .int .i64 co, .int .u32 re, .int .i64 sp, .int .i64 dp, .bool ns, .int .u32 sq, .int .u32 ak, .int .i64 fl, .int .i64 wi, .int .i64 ur, .string (strOfNums os), .string (strOfNums ds)]) := AtB.below AA.out u.rb.bel
          clear u b U3
          clear A3
          refine hK _ _ A4.out (fun hHeld => ?_)
          try simp only [List.getElem_toArray, List.getElem_cons_zero, List.getElem_cons_succ, Act.put, List.setIfInBounds_toArray, List.set_cons_zero, List.set_cons_succ]
          refine wpAnyH_ready (rs := [12, 13]) (by kernel_rfl) (by simp) ?_
          refine AllReadyH.cons (o := _) rfl (fun K hK => ?_) (AllReadyH.cons (o := _) rfl (fun K hK => ?_) AllReadyH.nil)
          · refine step_append_ur (w1 := W2) Try.underlying22 info5 rfl (.tmp 61) (.tmp 66) rfl _ 4 (be (sp) 2 ++ be (dp) 2) rfl U4.out _ 2 2 (be ((8 + (ds.length : Int))) 2) rfl B4.out (by omega) (by omega) ?_
            intro a5 c5 V5 u
            have U5 : Hid (UR none W2 V5 (.slice a5 6 c5) 6 (be (sp) 2 ++ be (dp) 2 ++ be ((8 + (ds.length : Int))) 2)) := u
            have A5 : Hid (AtB V5 w.heap.size #[.int .i64 2, .int .i64 ty, .int .i64 co, .int .u32 re, .int .i64 sp, .int .i64 dp, .bool ns, .int .u32 sq, .int .u32 ak, .int .i64 fl, .int .i64 wi, .int .i64 ur, .string (strOfNums os), .string (strOfNums ds)]) := AtB.below AA.out u.rb.bel
            clear u U4 A4 B4
            refine hK _ _ A5.out (fun hHeld => ?_)
            try simp only [List.getElem_toArray, List.getElem_cons_zero, List.getElem_cons_succ, Act.put, List.setIfInBounds_toArray, List.set_cons_zero, List.set_cons_succ]
            refine wpAnyH_ready (rs := [13]) (by kernel_rfl) (by simp) ?_
            refine AllReadyH.cons (o := _) rfl (fun K hK => ?_) AllReadyH.nil
            go_simp
            have U6 : Hid (UR (some V5.heap.size) W2 (V5.alloc (.cells #[.int .u8 0, .int .u8 0] 5)) (.slice a5 6 c5) 6 (be (sp) 2 ++ be (dp) 2 ++ be ((8 + (ds.length : Int))) 2)) := U5.out.build
            have A6 : Hid (AtB (V5.alloc (.cells #[.int .u8 0, .int .u8 0] 5)) w.heap.size #[.int .i64 2, .int .i64 ty, .int .i64 co, .int .u32 re, .int .i64 sp, .int .i64 dp, .bool ns, .int .u32 sq, .int .u32 ak, .int .i64 fl, .int .i64 wi, .int .i64 ur, .string (strOfNums os), .string (strOfNums ds)]) := AtB.below AA.out U6.out.rb.bel
            clear U5 A5
            obtain ⟨V6, hV⟩ : ∃ V', V5.alloc (.cells #[.int .u8 0, .int .u8 0] 5) = V' := ⟨_, rfl⟩
            obtain ⟨b6, hb⟩ : ∃ b', V5.heap.size = b' := ⟨_, rfl⟩
            rw [hV] at U6 A6
            rw [hb] at U6
            rw [hV, hb]
            clear hV hb
            refine hK _ _ A6.out (fun hHeld => ?_)
            try simp only [List.getElem_toArray, List.getElem_cons_zero, List.getElem_cons_succ, Act.put, List.setIfInBounds_toArray, List.set_cons_zero, List.set_cons_succ]
            refine wpAnyH_ready (rs := [14]) (by kernel_rfl) (by simp) ?_
            refine AllReadyH.cons (o := _) rfl (fun K hK => ?_) AllReadyH.nil
            refine step_append_ur (w1 := W2) Try.underlying22 info5 rfl (.tmp 67) (.tmp 68) rfl _ 6 (be (sp) 2 ++ be (dp) 2 ++ be ((8 + (ds.length : Int))) 2) rfl U6.out _ 2 2 ([0, 0]) rfl U6.out.zr.bs (by omega) (by omega) ?_
            intro a7 c7 V7 u
            have U7 : Hid (UR (some b6) W2 V7 (.slice a7 8 c7) 8 (be (sp) 2 ++ be (dp) 2 ++ be ((8 + (ds.length : Int))) 2 ++ [0, 0])) := u
            have A7 : Hid (AtB V7 w.heap.size #[.int .i64 2, .int .i64 ty, .int .i64 co, .int .u32 re, .int .i64 sp, .int .i64 dp, .bool ns, .int .u32 sq, .int .u32 ak, .int .i64 fl, .int .i64 wi, .int .i64 ur, .string (strOfNums os), .string (strOfNums ds)]) := AtB.below AA.out u.rb.bel
            clear u U6 A6
            refine hK _ _ A7.out (fun hHeld => ?_)
            try simp only [List.getElem_toArray, List.getElem_cons_zero, List.getElem_cons_succ, Act.put, List.setIfInBounds_toArray, List.set_cons_zero, List.set_cons_succ]
            refine wpAnyH_ready (rs := [15]) (by kernel_rfl) (by simp) ?_
            refine AllReadyH.cons (o := _) rfl (fun K hK => ?_) AllReadyH.nil
            go_simp
            refine hK _ _ A7.out (fun hHeld => ?_)
            refine wpAnyH_done (by kernel_rfl) ?_ _
            try simp only [List.getElem_toArray, List.getElem_cons_zero, List.getElem_cons_succ, Act.put, List.setIfInBounds_toArray, List.set_cons_zero, List.set_cons_succ]
            obtain ⟨x0, x1, x2, x3, x4, x5, x6, x7, x8, x9, x10, x11, x12, x13⟩ := AtB.cells14 A7.out
            go_wp2_with (at_builtin; refine wpList_append_str (by rfl) _ _ 22 9 rfl W2.heap.size 5 i0 Try.underlying22 Try.underlying9 hi hz0 hz1 hz2 _ 8 _ rfl U7.out.rb.own ds hfd rfl (by omega) U7.out.rb.bel.size ?_)
            intro a5 c5 W5 own5 g5
            have B5 : Hid (Below W2.heap.size W2 W5) := U7.out.rb.bel.grown g5 U7.out.rb.bel.size (fun k hk => (World.ownsRow.lt U7.out.rb.own k hk).1)
            obtain ⟨g, rfl, hg1, hg2⟩ := own_some own5 (by omega)
            have hcc := own_caps own5
            have E5 : Hid (EncS W2 W5 g (8 + ds.length) c5 LL) := by
              show EncS W2 W5 g (8 + ds.length) c5 LL
              rw [← HLL.out]
              exact ⟨own5, B5.out, fits_append (fits_append (fits_append (fits_append (be_bd _ _) (be_bd _ _)) (be_bd _ _)) (fits_two (by omega) (by omega))) hfd, by omega⟩
            have A5 : Hid (AtB W5 w.heap.size #[.int .i64 2, .int .i64 ty, .int .i64 co, .int .u32 re, .int .i64 sp, .int .i64 dp, .bool ns, .int .u32 sq, .int .u32 ak, .int .i64 fl, .int .i64 wi, .int .i64 ur, .string (strOfNums os), .string (strOfNums ds)]) := AtB.below AA.out B5.out
            clear x0 x1 x2 x3 x4 x5 x6 x7 x8 x9 x10 x11 x12 x13 own5 g5 U7 A7 AA
            cases ns
            · have hLl : (LL).length = 8 + ds.length := by have := E5.out.own.1; simpa using this
              obtain ⟨Pv, hP⟩ : ∃ p, psd src dst 17 ((8 + ds.length : Nat) : Int) = p := ⟨_, rfl⟩
              obtain ⟨Fv, hF⟩ : ∃ f, fld (wsum (LL)) = f := ⟨_, rfl⟩
              obtain ⟨Sm, hA⟩ : ∃ f, fld (Pv + Fv) = f := ⟨_, rfl⟩
              have hp1 := psd_bd src dst 17 ((8 + ds.length : Nat) : Int) hs.1 ht.1
              have hp2 := fld_bd (wsum (LL)) (wsum_bd E5.out.fits)
              rw [hP] at hp1
              rw [hF] at hp2
              have hp3 := fld_bd (Pv + Fv) (by omega)
              rw [hA] at hp3
              have HS : Hid (sumV src dst 2 (LL) = Sm) := by
                show _ = _
                unfold sumV
                rw [if_neg (by omega), hLl, show protoN 2 = 17 from rfl, hP, hF, hA]
              have HP : Hid (psd src dst 17 ((8 + ds.length : Nat) : Int) = Pv) := hP
              have HF : Hid (fld (wsum (LL)) = Fv) := hF
              have HA : Hid (fld (Pv + Fv) = Sm) := hA
              clear hP hF hA hLl
              obtain ⟨x0, x1, x2, x3, x4, x5, x6, x7, x8, x9, x10, x11, x12, x13⟩ := AtB.cells14 A5.out
              go_wp2_with fail
              clear x0 x1 x2 x3 x4 x5 x6 x7 x8 x9 x10 x11 x12 x13
              refine (rpseudo_any _ src dst 17 ((8 + ds.length : Nat) : Int) hs ht).mono ?_
              rintro e w' ⟨rfl, hw'⟩
              rw [hw', HP.out]
              clear hw' HP
              go_wp2_with fail
              refine (rsum_any _ E5.out.bs).mono ?_
              rintro e w' ⟨rfl, hw'⟩
              rw [hw', HF.out]
              clear hw' HF
              go_wp2_with fail
              refine (radd_any _ _ hp1.1 hp1.2 hp2.1 hp2.2 _).mono ?_
              rintro e w' ⟨rfl, hw'⟩
              rw [hw', HA.out]
              clear hw' HA hp1 hp2
              have k2 := E5.out.cell 6 (by omega)
              have k3 := E5.out.cell 7 (by omega)
              have f2 := E5.out.own.frozenAt 6
              have f3 := E5.out.own.frozenAt 7
              have hN2 : (6 : Int) < 8 + (ds.length : Int) := by omega
              have hN3 : (7 : Int) < 8 + (ds.length : Int) := by omega
              obtain ⟨cc, rfl⟩ : ∃ cc, Sm = 65535 - cc := ⟨65535 - Sm, by omega⟩
              have hcb : 0 ≤ cc ∧ cc ≤ 65535 := by omega
              have hc0 : 65535 - (65535 - cc) = cc := by omega
              clear hp3

              by_cases hz : cc = 0
              · subst hz
                have E6 : Hid _ := (E5.out.set 6 255 (by omega)).set 7 255 (by omega)
                have HC : Hid (chkC src dst 2 (LL) = 65535) := by
                  show _ = _
                  unfold chkC
                  rw [if_pos ⟨rfl, by rw [HS.out]; rfl⟩]
                clear hc0 hcb
                go_wp2
                go_ret2
                refine ⟨some ⟨g, 0, none⟩, c5, rfl, ?_, ⟨by omega, E6.out.fr BB.out.size⟩, BB.out.trans (E6.out.bel.mono BB.out.size)⟩
                unfold setC
                rw [HC.out]
                exact E6.out.bs
              have hz1 : (cc == 0) = false := by simp [hz]

              have t1 : (cc : Int).tdiv 256 = cc / 256 := Int.tdiv_eq_ediv_of_nonneg hcb.1
              have t2 : (cc : Int).tmod 256 = cc % 256 := Int.tmod_eq_emod_of_nonneg hcb.1
              have t3 : IntKind.u8.wrap (cc / 256) = cc / 256 := by rw [IntKind.wrap_u8]; omega
              have t4 : IntKind.u8.wrap (cc % 256) = cc % 256 := by rw [IntKind.wrap_u8]; omega
              have t5 : IntKind.u16.wrap (cc / 256) = cc / 256 := by rw [IntKind.wrap_u16]; omega

              have E6 : Hid _ := (E5.out.set 6 (cc / 256) (by omega)).set 7 (cc % 256) (by omega)
              have HC : Hid (chkC src dst 2 (LL) = cc) := by
                show _ = _
                unfold chkC
                rw [HS.out, if_neg (by omega)]
                omega
              go_wp2
              go_ret2
              refine ⟨some ⟨g, 0, none⟩, c5, rfl, ?_, ⟨by omega, E6.out.fr BB.out.size⟩, BB.out.trans (E6.out.bel.mono BB.out.size)⟩
              unfold setC
              rw [HC.out]
              exact E6.out.bs
            · obtain ⟨x0, x1, x2, x3, x4, x5, x6, x7, x8, x9, x10, x11, x12, x13⟩ := AtB.cells14 A5.out
              go_wp2
              go_ret2
              exact ⟨some ⟨g, 0, none⟩, c5, rfl, E5.out.bs, ⟨by omega, E5.out.fr BB.out.size⟩, BB.out.trans (E5.out.bel.mono BB.out.size)⟩
          · go_simp
            have U8 : Hid (UR (some V4.heap.size) W2 (V4.alloc (.cells #[.int .u8 0, .int .u8 0] 5)) (.slice a3 4 c3) 4 (be (sp) 2 ++ be (dp) 2)) := U4.out.build
            have B8 : Hid (BS (V4.alloc (.cells #[.int .u8 0, .int .u8 0] 5)) a66_4 2 (be ((8 + (ds.length : Int))) 2)) := B4.out.below (below1 _ _)
            have A8 : Hid (AtB (V4.alloc (.cells #[.int .u8 0, .int .u8 0] 5)) w.heap.size #[.int .i64 2, .int .i64 ty, .int .i64 co, .int .u32 re, .int .i64 sp, .int .i64 dp, .bool ns, .int .u32 sq, .int .u32 ak, .int .i64 fl, .int .i64 wi, .int .i64 ur, .string (strOfNums os), .string (strOfNums ds)]) := AtB.below AA.out U8.out.rb.bel
            clear U4 B4 A4
            obtain ⟨V8, hV⟩ : ∃ V', V4.alloc (.cells #[.int .u8 0, .int .u8 0] 5) = V' := ⟨_, rfl⟩
            obtain ⟨b8, hb⟩ : ∃ b', V4.heap.size = b' := ⟨_, rfl⟩
            rw [hV] at U8 B8 A8
            rw [hb] at U8
            rw [hV, hb]
            clear hV hb
            refine hK _ _ A8.out (fun hHeld => ?_)
            try simp only [List.getElem_toArray, List.getElem_cons_zero, List.getElem_cons_succ, Act.put, List.setIfInBounds_toArray, List.set_cons_zero, List.set_cons_succ]
            refine wpAnyH_ready (rs := [12]) (by kernel_rfl) (by simp) ?_
            refine AllReadyH.cons (o := _) rfl (fun K hK => ?_) AllReadyH.nil
            refine step_append_ur (w1 := W2) Try.underlying22 info5 rfl (.tmp 61) (.tmp 66) rfl _ 4 (be (sp) 2 ++ be (dp) 2) rfl U8.out _ 2 2 (be ((8 + (ds.length : Int))) 2) rfl B8.out (by omega) (by omega) ?_
            intro a9 c9 V9 u
            have U9 : Hid (UR (some b8) W2 V9 (.slice a9 6 c9) 6 (be (sp) 2 ++ be (dp) 2 ++ be ((8 + (ds.length : Int))) 2)) := u
            have A9 : Hid (AtB V9 w.heap.size #[.int .i64 2, .int .i64 ty, .int .i64 co, .int .u32 re, .int .i64 sp, .int .i64 dp, .bool ns, .int .u32 sq, .int .u32 ak, .int .i64 fl, .int .i64 wi, .int .i64 ur, .string (strOfNums os), .string (strOfNums ds)]) := AtB.below AA.out u.rb.bel
            clear u U8 A8 B8
            refine hK _ _ A9.out (fun hHeld => ?_)
            try simp only [List.getElem_toArray, List.getElem_cons_zero, List.getElem_cons_succ, Act.put, List.setIfInBounds_toArray, List.set_cons_zero, List.set_cons_succ]
            refine wpAnyH_ready (rs := [14]) (by kernel_rfl) (by simp) ?_
            refine AllReadyH.cons (o := _) rfl (fun K hK => ?_) AllReadyH.nil
            refine step_append_ur (w1 := W2) Try.underlying22 info5 rfl (.tmp 67) (.tmp 68) rfl _ 6 (be (sp) 2 ++ be (dp) 2 ++ be ((8 + (ds.length : Int))) 2) rfl U9.out _ 2 2 ([0, 0]) rfl U9.out.zr.bs (by omega) (by omega) ?_
            intro a10 c10 V10 u
            have U10 : Hid (UR (some b8) W2 V10 (.slice a10 8 c10) 8 (be (sp) 2 ++ be (dp) 2 ++ be ((8 + (ds.length : Int))) 2 ++ [0, 0])) := u
            have A10 : Hid (AtB V10 w.heap.size #[.int .i64 2, .int .i64 ty, .int .i64 co, .int .u32 re, .int .i64 sp, .int .i64 dp, .bool ns, .int .u32 sq, .int .u32 ak, .int .i64 fl, .int .i64 wi, .int .i64 ur, .string (strOfNums os), .string (strOfNums ds)]) := AtB.below AA.out u.rb.bel
            clear u U9 A9
            refine hK _ _ A10.out (fun hHeld => ?_)
            try simp only [List.getElem_toArray, List.getElem_cons_zero, List.getElem_cons_succ, Act.put, List.setIfInBounds_toArray, List.set_cons_zero, List.set_cons_succ]
            refine wpAnyH_ready (rs := [15]) (by kernel_rfl) (by simp) ?_
            refine AllReadyH.cons (o := _) rfl (fun K hK => ?_) AllReadyH.nil
            go_simp
            refine hK _ _ A10.out (fun hHeld => ?_)
            refine wpAnyH_done (by kernel_rfl) ?_ _
            try simp only [List.getElem_toArray, List.getElem_cons_zero, List.getElem_cons_succ, Act.put, List.setIfInBounds_toArray, List.set_cons_zero, List.set_cons_succ]
            obtain ⟨x0, x1, x2, x3, x4, x5, x6, x7, x8, x9, x10, x11, x12, x13⟩ := AtB.cells14 A10.out
            go_wp2_with (at_builtin; refine wpList_append_str (by rfl) _ _ 22 9 rfl W2.heap.size 5 i0 Try.underlying22 Try.underlying9 hi hz0 hz1 hz2 _ 8 _ rfl U10.out.rb.own ds hfd rfl (by omega) U10.out.rb.bel.size ?_)
            intro a5 c5 W5 own5 g5
            have B5 : Hid (Below W2.heap.size W2 W5) := U10.out.rb.bel.grown g5 U10.out.rb.bel.size (fun k hk => (World.ownsRow.lt U10.out.rb.own k hk).1)
            obtain ⟨g, rfl, hg1, hg2⟩ := own_some own5 (by omega)
            have hcc := own_caps own5
            have E5 : Hid (EncS W2 W5 g (8 + ds.length) c5 LL) := by
              show EncS W2 W5 g (8 + ds.length) c5 LL
              rw [← HLL.out]
              exact ⟨own5, B5.out, fits_append (fits_append (fits_append (fits_append (be_bd _ _) (be_bd _ _)) (be_bd _ _)) (fits_two (by omega) (by omega))) hfd, by omega⟩
            have A5 : Hid (AtB W5 w.heap.size #[.int .i64 2, .int .i64 ty, .int .i64 co, .int .u32 re, .int .i64 sp, .int .i64 dp, .bool ns, .int .u32 sq, .int .u32 ak, .int .i64 fl, .int .i64 wi, .int .i64 ur, .string (strOfNums os), .string (strOfNums ds)]) := AtB.below AA.out B5.out
            clear x0 x1 x2 x3 x4 x5 x6 x7 x8 x9 x10 x11 x12 x13 own5 g5 U10 A10 AA
            cases ns
            · have hLl : (LL).length = 8 + ds.length := by have := E5.out.own.1; simpa using this
              obtain ⟨Pv, hP⟩ : ∃ p, psd src dst 17 ((8 + ds.length : Nat) : Int) = p := ⟨_, rfl⟩
              obtain ⟨Fv, hF⟩ : ∃ f, fld (wsum (LL)) = f := ⟨_, rfl⟩
              obtain ⟨Sm, hA⟩ : ∃ f, fld (Pv + Fv) = f := ⟨_, rfl⟩
              have hp1 := psd_bd src dst 17 ((8 + ds.length : Nat) : Int) hs.1 ht.1
              have hp2 := fld_bd (wsum (LL)) (wsum_bd E5.out.fits)
              rw [hP] at hp1
              rw [hF] at hp2
              have hp3 := fld_bd (Pv + Fv) (by omega)
              rw [hA] at hp3
              have HS : Hid (sumV src dst 2 (LL) = Sm) := by
                show _ = _
                unfold sumV
                rw [if_neg (by omega), hLl, show protoN 2 = 17 from rfl, hP, hF, hA]
              have HP : Hid (psd src dst 17 ((8 + ds.length : Nat) : Int) = Pv) := hP
              have HF : Hid (fld (wsum (LL)) = Fv) := hF
              have HA : Hid (fld (Pv + Fv) = Sm) := hA
              clear hP hF hA hLl
              obtain ⟨x0, x1, x2, x3, x4, x5, x6, x7, x8, x9, x10, x11, x12, x13⟩ := AtB.cells14 A5.out
              go_wp2_with fail
              clear x0 x1 x2 x3 x4 x5 x6 x7 x8 x9 x10 x11 x12 x13
              refine (rpseudo_any _ src dst 17 ((8 + ds.length : Nat) : Int) hs ht).mono ?_
              rintro e w' ⟨rfl, hw'⟩
              rw [hw', HP.out]
              clear hw' HP
              go_wp2_with fail
              refine (rsum_any _ E5.out.bs).mono ?_
              rintro e w' ⟨rfl, hw'⟩
              rw [hw', HF.out]
              clear hw' HF
              go_wp2_with fail
              refine (radd_any _ _ hp1.1 hp1.2 hp2.1 hp2.2 _).mono ?_
              rintro e w' ⟨rfl, hw'⟩
              rw [hw', HA.out]
              clear hw' HA hp1 hp2
              have k2 := E5.out.cell 6 (by omega)
              have k3 := E5.out.cell 7 (by omega)
              have f2 := E5.out.own.frozenAt 6
              have f3 := E5.out.own.frozenAt 7
              have hN2 : (6 : Int) < 8 + (ds.length : Int) := by omega
              have hN3 : (7 : Int) < 8 + (ds.length : Int) := by omega
              obtain ⟨cc, rfl⟩ : ∃ cc, Sm = 65535 - cc := ⟨65535 - Sm, by omega⟩
              have hcb : 0 ≤ cc ∧ cc ≤ 65535 := by omega
              have hc0 : 65535 - (65535 - cc) = cc := by omega
              clear hp3

              by_cases hz : cc = 0
              · subst hz
                have E6 : Hid _ := (E5.out.set 6 255 (by omega)).set 7 255 (by omega)
                have HC : Hid (chkC src dst 2 (LL) = 65535) := by
                  show _ = _
                  unfold chkC
                  rw [if_pos ⟨rfl, by rw [HS.out]; rfl⟩]
                clear hc0 hcb
                go_wp2
                go_ret2
                refine ⟨some ⟨g, 0, none⟩, c5, rfl, ?_, ⟨by omega, E6.out.fr BB.out.size⟩, BB.out.trans (E6.out.bel.mono BB.out.size)⟩
                unfold setC
                rw [HC.out]
                exact E6.out.bs
              have hz1 : (cc == 0) = false := by simp [hz]

              have t1 : (cc : Int).tdiv 256 = cc / 256 := Int.tdiv_eq_ediv_of_nonneg hcb.1
              have t2 : (cc : Int).tmod 256 = cc % 256 := Int.tmod_eq_emod_of_nonneg hcb.1
              have t3 : IntKind.u8.wrap (cc / 256) = cc / 256 := by rw [IntKind.wrap_u8]; omega
              have t4 : IntKind.u8.wrap (cc % 256) = cc % 256 := by rw [IntKind.wrap_u8]; omega
              have t5 : IntKind.u16.wrap (cc / 256) = cc / 256 := by rw [IntKind.wrap_u16]; omega

              have E6 : Hid _ := (E5.out.set 6 (cc / 256) (by omega)).set 7 (cc % 256) (by omega)
              have HC : Hid (chkC src dst 2 (LL) = cc) := by
                show _ = _
                unfold chkC
                rw [HS.out, if_neg (by omega)]
                omega
              go_wp2
              go_ret2
              refine ⟨some ⟨g, 0, none⟩, c5, rfl, ?_, ⟨by omega, E6.out.fr BB.out.size⟩, BB.out.trans (E6.out.bel.mono BB.out.size)⟩
              unfold setC
              rw [HC.out]
              exact E6.out.bs
            · obtain ⟨x0, x1, x2, x3, x4, x5, x6, x7, x8, x9, x10, x11, x12, x13⟩ := AtB.cells14 A5.out
              go_wp2
              go_ret2
              exact ⟨some ⟨g, 0, none⟩, c5, rfl, E5.out.bs, ⟨by omega, E5.out.fr BB.out.size⟩, BB.out.trans (E5.out.bel.mono BB.out.size)⟩
        · go_simp
          have U11 : Hid (UR (some V3.heap.size) W2 (V3.alloc (.cells #[.int .u8 0, .int .u8 0] 5)) (.slice a3 4 c3) 4 (be (sp) 2 ++ be (dp) 2)) := U3.out.build
          have A11 : Hid (AtB (V3.alloc (.cells #[.int .u8 0, .int .u8 0] 5)) w.heap.size #[.int .i64 2, .int .i64 ty, .int .i64 co, .int .u32 re, .int .i64 sp, .int .i64 dp, .bool ns, .int .u32 sq, .int .u32 ak, .int .i64 fl, .int .i64 wi, .int .i64 ur, .string (strOfNums os), .string (strOfNums ds)]) := AtB.below AA.out U11.out.rb.bel
          clear U3 A3
          obtain ⟨V11, hV⟩ : ∃ V', V3.alloc (.cells #[.int .u8 0, .int .u8 0] 5) = V' := ⟨_, rfl⟩
          obtain ⟨b11, hb⟩ : ∃ b', V3.heap.size = b' := ⟨_, rfl⟩
          rw [hV] at U11 A11
          rw [hb] at U11
          rw [hV, hb]
          clear hV hb
          refine hK _ _ A11.out (fun hHeld => ?_)
          try simp only [List.getElem_toArray, List.getElem_cons_zero, List.getElem_cons_succ, Act.put, List.setIfInBounds_toArray, List.set_cons_zero, List.set_cons_succ]
          refine wpAnyH_ready (rs := [11]) (by kernel_rfl) (by simp) ?_
          refine AllReadyH.cons (o := _) rfl (fun K hK => ?_) AllReadyH.nil
          go_simp
          refine (two_next U11.out (8 + (ds.length : Int)) (by omega)).mono ?_
          rintro e V12 ⟨a66_12, rfl, u, b⟩
          have U12 : Hid (UR (some b11) W2 V12 (.slice a3 4 c3) 4 (be (sp) 2 ++ be (dp) 2)) := u
          have B12 : Hid (BS V12 a66_12 2 (be (8 + (ds.length : Int)) 2)) := b
          have A12 : Hid (AtB V12 w.heap.size #[.int .i64 2, .int .i64 ty, .int .i64 co, .int .u32 re, .int .i64 sp, .int .i64 dp, .bool ns, .int .u32 sq, .int .u32 ak, .int .i64 fl, .int .i64 wi, .int .i64 ur, .string (strOfNums os), .string (strOfNums ds)]) := AtB.below AA.out u.rb.bel
          clear u b U11
          clear A11
          refine hK _ _ A12.out (fun hHeld => ?_)
          try simp only [List.getElem_toArray, List.getElem_cons_zero, List.getElem_cons_succ, Act.put, List.setIfInBounds_toArray, List.set_cons_zero, List.set_cons_succ]
          refine wpAnyH_ready (rs := [12]) (by kernel_rfl) (by simp) ?_
          refine AllReadyH.cons (o := _) rfl (fun K hK => ?_) AllReadyH.nil
          refine step_append_ur (w1 := W2) Try.underlying22 info5 rfl (.tmp 61) (.tmp 66) rfl _ 4 (be (sp) 2 ++ be (dp) 2) rfl U12.out _ 2 2 (be ((8 + (ds.length : Int))) 2) rfl B12.out (by omega) (by omega) ?_
          intro a13 c13 V13 u
          have U13 : Hid (UR (some b11) W2 V13 (.slice a13 6 c13) 6 (be (sp) 2 ++ be (dp) 2 ++ be ((8 + (ds.length : Int))) 2)) := u
          have A13 : Hid (AtB V13 w.heap.size #[.int .i64 2, .int .i64 ty, .int .i64 co, .int .u32 re, .int .i64 sp, .int .i64 dp, .bool ns, .int .u32 sq, .int .u32 ak, .int .i64 fl, .int .i64 wi, .int .i64 ur, .string (strOfNums os), .string (strOfNums ds)]) := AtB.below AA.out u.rb.bel
          clear u U12 A12 B12
          refine hK _ _ A13.out (fun hHeld => ?_)
          try simp only [List.getElem_toArray, List.getElem_cons_zero, List.getElem_cons_succ, Act.put, List.setIfInBounds_toArray, List.set_cons_zero, List.set_cons_succ]
          refine wpAnyH_ready (rs := [14]) (by kernel_rfl) (by simp) ?_
          refine AllReadyH.cons (o := _) rfl (fun K hK => ?_) AllReadyH.nil
          refine step_append_ur (w1 := W2) Try.underlying22 info5 rfl (.tmp 67) (.tmp 68) rfl _ 6 (be (sp) 2 ++ be (dp) 2 ++ be ((8 + (ds.length : Int))) 2) rfl U13.out _ 2 2 ([0, 0]) rfl U13.out.zr.bs (by omega) (by omega) ?_
          intro a14 c14 V14 u
          have U14 : Hid (UR (some b11) W2 V14 (.slice a14 8 c14) 8 (be (sp) 2 ++ be (dp) 2 ++ be ((8 + (ds.length : Int))) 2 ++ [0, 0])) := u
          have A14 : Hid (AtB V14 w.heap.size #[.int .i64 2, .int .i64 ty, .int .i64 co, .int .u32 re, .int .i64 sp, .int .i64 dp, .bool ns, .int .u32 sq, .int .u32 ak, .int .i64 fl, .int .i64 wi, .int .i64 ur, .string (strOfNums os), .string (strOfNums ds)]) := AtB.below AA.out u.rb.bel
          clear u U13 A13
          refine hK _ _ A14.out (fun hHeld => ?_)
          try simp only [List.getElem_toArray, List.getElem_cons_zero, List.getElem_cons_succ, Act.put, List.setIfInBounds_toArray, List.set_cons_zero, List.set_cons_succ]
          refine wpAnyH_ready (rs := [15]) (by kernel_rfl) (by simp) ?_
          refine AllReadyH.cons (o := _) rfl (fun K hK => ?_) AllReadyH.nil
          go_simp
          refine hK _ _ A14.out (fun hHeld => ?_)
          refine wpAnyH_done (by kernel_rfl) ?_ _
          try simp only [List.getElem_toArray, List.getElem_cons_zero, List.getElem_cons_succ, Act.put, List.setIfInBounds_toArray, List.set_cons_zero, List.set_cons_succ]
          obtain ⟨x0, x1, x2, x3, x4, x5, x6, x7, x8, x9, x10, x11, x12, x13⟩ := AtB.cells14 A14.out
          go_wp2_with (at_builtin; refine wpList_append_str (by rfl) _ _ 22 9 rfl W2.heap.size 5 i0 Try.underlying22 Try.underlying9 hi hz0 hz1 hz2 _ 8 _ rfl U14.out.rb.own ds hfd rfl (by omega) U14.out.rb.bel.size ?_)
          intro a5 c5 W5 own5 g5
          have B5 : Hid (Below W2.heap.size W2 W5) := U14.out.rb.bel.grown g5 U14.out.rb.bel.size (fun k hk => (World.ownsRow.lt U14.out.rb.own k hk).1)
          obtain ⟨g, rfl, hg1, hg2⟩ := own_some own5 (by omega)
          have hcc := own_caps own5
          have E5 : Hid (EncS W2 W5 g (8 + ds.length) c5 LL) := by
            show EncS W2 W5 g (8 + ds.length) c5 LL
            rw [← HLL.out]
            exact ⟨own5, B5.out, fits_append (fits_append (fits_append (fits_append (be_bd _ _) (be_bd _ _)) (be_bd _ _)) (fits_two (by omega) (by omega))) hfd, by omega⟩
          have A5 : Hid (AtB W5 w.heap.size #[.int .i64 2, .int .i64 ty, .int .i64 co, .int .u32 re, .int .i64 sp, .int .i64 dp, .bool ns, .int .u32 sq, .int .u32 ak, .int .i64 fl, .int .i64 wi, .int .i64 ur, .string (strOfNums os), .string (strOfNums ds)]) := AtB.below AA.out B5.out
          clear x0 x1 x2 x3 x4 x5 x6 x7 x8 x9 x10 x11 x12 x13 own5 g5 U14 A14 AA
          cases ns
          · have hLl : (LL).length = 8 + ds.length := by have := E5.out.own.1; simpa using this
            obtain ⟨Pv, hP⟩ : ∃ p, psd src dst 17 ((8 + ds.length : Nat) : Int) = p := ⟨_, rfl⟩
            obtain ⟨Fv, hF⟩ : ∃ f, fld (wsum (LL)) = f := ⟨_, rfl⟩
            obtain ⟨Sm, hA⟩ : ∃ f, fld (Pv + Fv) = f := ⟨_, rfl⟩
            have hp1 := psd_bd src dst 17 ((8 + ds.length : Nat) : Int) hs.1 ht.1
            have hp2 := fld_bd (wsum (LL)) (wsum_bd E5.out.fits)
            rw [hP] at hp1
            rw [hF] at hp2
            have hp3 := fld_bd (Pv + Fv) (by omega)
            rw [hA] at hp3
            have HS : Hid (sumV src dst 2 (LL) = Sm) := by
              show _ = _
              unfold sumV
              rw [if_neg (by omega), hLl, show protoN 2 = 17 from rfl, hP, hF, hA]
            have HP : Hid (psd src dst 17 ((8 + ds.length : Nat) : Int) = Pv) := hP
            have HF : Hid (fld (wsum (LL)) = Fv) := hF
            have HA : Hid (fld (Pv + Fv) = Sm) := hA
            clear hP hF hA hLl
            obtain ⟨x0, x1, x2, x3, x4, x5, x6, x7, x8, x9, x10, x11, x12, x13⟩ := AtB.cells14 A5.out
            go_wp2_with fail
            clear x0 x1 x2 x3 x4 x5 x6 x7 x8 x9 x10 x11 x12 x13
            refine (rpseudo_any _ src dst 17 ((8 + ds.length : Nat) : Int) hs ht).mono ?_
            rintro e w' ⟨rfl, hw'⟩
            rw [hw', HP.out]
            clear hw' HP
            go_wp2_with fail
            refine (rsum_any _ E5.out.bs).mono ?_
            rintro e w' ⟨rfl, hw'⟩
            rw [hw', HF.out]
            clear hw' HF
            go_wp2_with fail
            refine (radd_any _ _ hp1.1 hp1.2 hp2.1 hp2.2 _).mono ?_
            rintro e w' ⟨rfl, hw'⟩
            rw [hw', HA.out]
            clear hw' HA hp1 hp2
            have k2 := E5.out.cell 6 (by omega)
            have k3 := E5.out.cell 7 (by omega)
            have f2 := E5.out.own.frozenAt 6
            have f3 := E5.out.own.frozenAt 7
            have hN2 : (6 : Int) < 8 + (ds.length : Int) := by omega
            have hN3 : (7 : Int) < 8 + (ds.length : Int) := by omega
            obtain ⟨cc, rfl⟩ : ∃ cc, Sm = 65535 - cc := ⟨65535 - Sm, by omega⟩
            have hcb : 0 ≤ cc ∧ cc ≤ 65535 := by omega
            have hc0 : 65535 - (65535 - cc) = cc := by omega
            clear hp3

            by_cases hz : cc = 0
            · subst hz
              have E6 : Hid _ := (E5.out.set 6 255 (by omega)).set 7 255 (by omega)
              have HC : Hid (chkC src dst 2 (LL) = 65535) := by
                show _ = _
                unfold chkC
                rw [if_pos ⟨rfl, by rw [HS.out]; rfl⟩]
              clear hc0 hcb
              go_wp2
              go_ret2
              refine ⟨some ⟨g, 0, none⟩, c5, rfl, ?_, ⟨by omega, E6.out.fr BB.out.size⟩, BB.out.trans (E6.out.bel.mono BB.out.size)⟩
              unfold setC
              rw [HC.out]
              exact E6.out.bs
            have hz1 : (cc == 0) = false := by simp [hz]

            have t1 : (cc : Int).tdiv 256 = cc / 256 := Int.tdiv_eq_ediv_of_nonneg hcb.1
            have t2 : (cc : Int).tmod 256 = cc % 256 := Int.tmod_eq_emod_of_nonneg hcb.1
            have t3 : IntKind.u8.wrap (cc / 256) = cc / 256 := by rw [IntKind.wrap_u8]; omega
            have t4 : IntKind.u8.wrap (cc % 256) = cc % 256 := by rw [IntKind.wrap_u8]; omega
            have t5 : IntKind.u16.wrap (cc / 256) = cc / 256 := by rw [IntKind.wrap_u16]; omega

            have E6 : Hid _ := (E5.out.set 6 (cc / 256) (by omega)).set 7 (cc % 256) (by omega)
            have HC : Hid (chkC src dst 2 (LL) = cc) := by
              show _ = _
              unfold chkC
              rw [HS.out, if_neg (by omega)]
              omega
            go_wp2
            go_ret2
            refine ⟨some ⟨g, 0, none⟩, c5, rfl, ?_, ⟨by omega, E6.out.fr BB.out.size⟩, BB.out.trans (E6.out.bel.mono BB.out.size)⟩
            unfold setC
            rw [HC.out]
            exact E6.out.bs
          · obtain ⟨x0, x1, x2, x3, x4, x5, x6, x7, x8, x9, x10, x11, x12, x13⟩ := AtB.cells14 A5.out
            go_wp2
            go_ret2
            exact ⟨some ⟨g, 0, none⟩, c5, rfl, E5.out.bs, ⟨by omega, E5.out.fr BB.out.size⟩, BB.out.trans (E5.out.bel.mono BB.out.size)⟩
      · go_simp
        have U15 : Hid (UR (some V2.heap.size) W2 (V2.alloc (.cells #[.int .u8 0, .int .u8 0] 5)) (.slice a57_1 2 2) 2 (be (sp) 2)) := U2.out.build
        have B15 : Hid (BS (V2.alloc (.cells #[.int .u8 0, .int .u8 0] 5)) a60_2 2 (be (dp) 2)) := B2.out.below (below1 _ _)
        have A15 : Hid (AtB (V2.alloc (.cells #[.int .u8 0, .int .u8 0] 5)) w.heap.size #[.int .i64 2, .int .i64 ty, .int .i64 co, .int .u32 re, .int .i64 sp, .int .i64 dp, .bool ns, .int .u32 sq, .int .u32 ak, .int .i64 fl, .int .i64 wi, .int .i64 ur, .string (strOfNums os), .string (strOfNums ds)]) := AtB.below AA.out U15.out.rb.bel
        clear U2 B2 A2
        obtain ⟨V15, hV⟩ : ∃ V', V2.alloc (.cells #[.int .u8 0, .int .u8 0] 5) = V' := ⟨_, rfl⟩
        obtain ⟨b15, hb⟩ : ∃ b', V2.heap.size = b' := ⟨_, rfl⟩
        rw [hV] at U15 B15 A15
        rw [hb] at U15
        rw [hV, hb]
        clear hV hb
        refine hK _ _ A15.out (fun hHeld => ?_)
        try simp only [List.getElem_toArray, List.getElem_cons_zero, List.getElem_cons_succ, Act.put, List.setIfInBounds_toArray, List.set_cons_zero, List.set_cons_succ]
        refine wpAnyH_ready (rs := [6]) (by kernel_rfl) (by simp) ?_
        refine AllReadyH.cons (o := _) rfl (fun K hK => ?_) AllReadyH.nil
        refine step_append_ur (w1 := W2) Try.underlying22 info5 rfl (.tmp 57) (.tmp 60) rfl _ 2 (be (sp) 2) rfl U15.out _ 2 2 (be (dp) 2) rfl B15.out (by omega) (by omega) ?_
        intro a16 c16 V16 u
        have U16 : Hid (UR (some b15) W2 V16 (.slice a16 4 c16) 4 (be (sp) 2 ++ be (dp) 2)) := u
        have A16 : Hid (AtB V16 w.heap.size #[.int .i64 2, .int .i64 ty, .int .i64 co, .int .u32 re, .int .i64 sp, .int .i64 dp, .bool ns, .int .u32 sq, .int .u32 ak, .int .i64 fl, .int .i64 wi, .int .i64 ur, .string (strOfNums os), .string (strOfNums ds)]) := AtB.below AA.out u.rb.bel
        clear u U15 A15 B15
        refine hK _ _ A16.out (fun hHeld => ?_)
        try simp only [List.getElem_toArray, List.getElem_cons_zero, List.getElem_cons_succ, Act.put, List.setIfInBounds_toArray, List.set_cons_zero, List.set_cons_succ]
        refine wpAnyH_ready (rs := [11]) (by kernel_rfl) (by simp) ?_
        refine AllReadyH.cons (o := _) rfl (fun K hK => ?_) AllReadyH.nil
        go_simp
        refine (two_next U16.out (8 + (ds.length : Int)) (by omega)).mono ?_
        rintro e V17 ⟨a66_17, rfl, u, b⟩
        have U17 : Hid (UR (some b15) W2 V17 (.slice a16 4 c16) 4 (be (sp) 2 ++ be (dp) 2)) := u
        have B17 : Hid (BS V17 a66_17 2 (be (8 + (ds.length : Int)) 2)) := b
        have A17 : Hid (AtB V17 w.heap.size #[.int .i64 2, .int .i64 ty, .int .i64 co, .int .u32 re, .int .i64 sp, .int .i64 dp, .bool ns, .int .u32 sq, .int .u32 ak, .int .i64 fl, .int .i64 wi, .int .i64 ur, .string (strOfNums os), .string (strOfNums ds)]) := AtB.below AA.out u.rb.bel
        clear u b U16
        clear A16
        refine hK _ _ A17.out (fun hHeld => ?_)
        try simp only [List.getElem_toArray, List.getElem_cons_zero, List.getElem_cons_succ, Act.put, List.setIfInBounds_toArray, List.set_cons_zero, List.set_cons_succ]
        refine wpAnyH_ready (rs := [12]) (by kernel_rfl) (by simp) ?_
        refine AllReadyH.cons (o := _) rfl (fun K hK => ?_) AllReadyH.nil
        refine step_append_ur (w1 := W2) Try.underlying22 info5 rfl (.tmp 61) (.tmp 66) rfl _ 4 (be (sp) 2 ++ be (dp) 2) rfl U17.out _ 2 2 (be ((8 + (ds.length : Int))) 2) rfl B17.out (by omega) (by omega) ?_
        intro a18 c18 V18 u
        have U18 : Hid (UR (some b15) W2 V18 (.slice a18 6 c18) 6 (be (sp) 2 ++ be (dp) 2 ++ be ((8 + (ds.length : Int))) 2)) := u
        have A18 : Hid (AtB V18 w.heap.size #[.int .i64 2, .int .i64 ty, .int .i64 co, .int .u32 re, .int .i64 sp, .int .i64 dp, .bool ns, .int .u32 sq, .int .u32 ak, .int .i64 fl, .int .i64 wi, .int .i64 ur, .string (strOfNums os), .string (strOfNums ds)]) := AtB.below AA.out u.rb.bel
        clear u U17 A17 B17
        refine hK _ _ A18.out (fun hHeld => ?_)
        try simp only [List.getElem_toArray, List.getElem_cons_zero, List.getElem_cons_succ, Act.put, List.setIfInBounds_toArray, List.set_cons_zero, List.set_cons_succ]
        refine wpAnyH_ready (rs := [14]) (by kernel_rfl) (by simp) ?_
        refine AllReadyH.cons (o := _) rfl (fun K hK => ?_) AllReadyH.nil
        refine step_append_ur (w1 := W2) Try.underlying22 info5 rfl (.tmp 67) (.tmp 68) rfl _ 6 (be (sp) 2 ++ be (dp) 2 ++ be ((8 + (ds.length : Int))) 2) rfl U18.out _ 2 2 ([0, 0]) rfl U18.out.zr.bs (by omega) (by omega) ?_
        intro a19 c19 V19 u
        have U19 : Hid (UR (some b15) W2 V19 (.slice a19 8 c19) 8 (be (sp) 2 ++ be (dp) 2 ++ be ((8 + (ds.length : Int))) 2 ++ [0, 0])) := u
        have A19 : Hid (AtB V19 w.heap.size #[.int .i64 2, .int .i64 ty, .int .i64 co, .int .u32 re, .int .i64 sp, .int .i64 dp, .bool ns, .int .u32 sq, .int .u32 ak, .int .i64 fl, .int .i64 wi, .int .i64 ur, .string (strOfNums os), .string (strOfNums ds)]) := AtB.below AA.out u.rb.bel
        clear u U18 A18
        refine hK _ _ A19.out (fun hHeld => ?_)
        try simp only [List.getElem_toArray, List.getElem_cons_zero, List.getElem_cons_succ, Act.put, List.setIfInBounds_toArray, List.set_cons_zero, List.set_cons_succ]
        refine wpAnyH_ready (rs := [15]) (by kernel_rfl) (by simp) ?_
        refine AllReadyH.cons (o := _) rfl (fun K hK => ?_) AllReadyH.nil
        go_simp
        refine hK _ _ A19.out (fun hHeld => ?_)
        refine wpAnyH_done (by kernel_rfl) ?_ _
        try simp only [List.getElem_toArray, List.getElem_cons_zero, List.getElem_cons_succ, Act.put, List.setIfInBounds_toArray, List.set_cons_zero, List.set_cons_succ]
        obtain ⟨x0, x1, x2, x3, x4, x5, x6, x7, x8, x9, x10, x11, x12, x13⟩ := AtB.cells14 A19.out
        go_wp2_with (at_builtin; refine wpList_append_str (by rfl) _ _ 22 9 rfl W2.heap.size 5 i0 Try.underlying22 Try.underlying9 hi hz0 hz1 hz2 _ 8 _ rfl U19.out.rb.own ds hfd rfl (by omega) U19.out.rb.bel.size ?_)
        intro a5 c5 W5 own5 g5
        have B5 : Hid (Below W2.heap.size W2 W5) := U19.out.rb.bel.grown g5 U19.out.rb.bel.size (fun k hk => (World.ownsRow.lt U19.out.rb.own k hk).1)
        obtain ⟨g, rfl, hg1, hg2⟩ := own_some own5 (by omega)
        have hcc := own_caps own5
        have E5 : Hid (EncS W2 W5 g (8 + ds.length) c5 LL) := by
          show EncS W2 W5 g (8 + ds.length) c5 LL
          rw [← HLL.out]
          exact ⟨own5, B5.out, fits_append (fits_append (fits_append (fits_append (be_bd _ _) (be_bd _ _)) (be_bd _ _)) (fits_two (by omega) (by omega))) hfd, by omega⟩
        have A5 : Hid (AtB W5 w.heap.size #[.int .i64 2, .int .i64 ty, .int .i64 co, .int .u32 re, .int .i64 sp, .int .i64 dp, .bool ns, .int .u32 sq, .int .u32 ak, .int .i64 fl, .int .i64 wi, .int .i64 ur, .string (strOfNums os), .string (strOfNums ds)]) := AtB.below AA.out B5.out
        clear x0 x1 x2 x3 x4 x5 x6 x7 x8 x9 x10 x11 x12 x13 own5 g5 U19 A19 AA
        cases ns
        · have hLl : (LL).length = 8 + ds.length := by have := E5.out.own.1; simpa using this
          obtain ⟨Pv, hP⟩ : ∃ p, psd src dst 17 ((8 + ds.length : Nat) : Int) = p := ⟨_, rfl⟩
          obtain ⟨Fv, hF⟩ : ∃ f, fld (wsum (LL)) = f := ⟨_, rfl⟩
          obtain ⟨Sm, hA⟩ : ∃ f, fld (Pv + Fv) = f := ⟨_, rfl⟩
          have hp1 := psd_bd src dst 17 ((8 + ds.length : Nat) : Int) hs.1 ht.1
          have hp2 := fld_bd (wsum (LL)) (wsum_bd E5.out.fits)
          rw [hP] at hp1
          rw [hF] at hp2
          have hp3 := fld_bd (Pv + Fv) (by omega)
          rw [hA] at hp3
          have HS : Hid (sumV src dst 2 (LL) = Sm) := by
            show _ = _
            unfold sumV
            rw [if_neg (by omega), hLl, show protoN 2 = 17 from rfl, hP, hF, hA]
          have HP : Hid (psd src dst 17 ((8 + ds.length : Nat) : Int) = Pv) := hP
          have HF : Hid (fld (wsum (LL)) = Fv) := hF
          have HA : Hid (fld (Pv + Fv) = Sm) := hA
          clear hP hF hA hLl
          obtain ⟨x0, x1, x2, x3, x4, x5, x6, x7, x8, x9, x10, x11, x12, x13⟩ := AtB.cells14 A5.out
          go_wp2_with fail
          clear x0 x1 x2 x3 x4 x5 x6 x7 x8 x9 x10 x11 x12 x13
          refine (rpseudo_any _ src dst 17 ((8 + ds.length : Nat) : Int) hs ht).mono ?_
          rintro e w' ⟨rfl, hw'⟩
          rw [hw', HP.out]
          clear hw' HP
          go_wp2_with fail
          refine (rsum_any _ E5.out.bs).mono ?_
          rintro e w' ⟨rfl, hw'⟩
          rw [hw', HF.out]
          clear hw' HF
          go_wp2_with fail
          refine (radd_any _ _ hp1.1 hp1.2 hp2.1 hp2.2 _).mono ?_
          rintro e w' ⟨rfl, hw'⟩
          rw [hw', HA.out]
          clear hw' HA hp1 hp2
          have k2 := E5.out.cell 6 (by omega)
          have k3 := E5.out.cell 7 (by omega)
          have f2 := E5.out.own.frozenAt 6
          have f3 := E5.out.own.frozenAt 7
          have hN2 : (6 : Int) < 8 + (ds.length : Int) := by omega
          have hN3 : (7 : Int) < 8 + (ds.length : Int) := by omega
          obtain ⟨cc, rfl⟩ : ∃ cc, Sm = 65535 - cc := ⟨65535 - Sm, by omega⟩
          have hcb : 0 ≤ cc ∧ cc ≤ 65535 := by omega
          have hc0 : 65535 - (65535 - cc) = cc := by omega
          clear hp3

          by_cases hz : cc = 0
          · subst hz
            have E6 : Hid _ := (E5.out.set 6 255 (by omega)).set 7 255 (by omega)
            have HC : Hid (chkC src dst 2 (LL) = 65535) := by
              show _ = _
              unfold chkC
              rw [if_pos ⟨rfl, by rw [HS.out]; rfl⟩]
            clear hc0 hcb
            go_wp2
            go_ret2
            refine ⟨some ⟨g, 0, none⟩, c5, rfl, ?_, ⟨by omega, E6.out.fr BB.out.size⟩, BB.out.trans (E6.out.bel.mono BB.out.size)⟩
            unfold setC
            rw [HC.out]
            exact E6.out.bs
          have hz1 : (cc == 0) = false := by simp [hz]

          have t1 : (cc : Int).tdiv 256 = cc / 256 := Int.tdiv_eq_ediv_of_nonneg hcb.1
          have t2 : (cc : Int).tmod 256 = cc % 256 := Int.tmod_eq_emod_of_nonneg hcb.1
          have t3 : IntKind.u8.wrap (cc / 256) = cc / 256 := by rw [IntKind.wrap_u8]; omega
          have t4 : IntKind.u8.wrap (cc % 256) = cc % 256 := by rw [IntKind.wrap_u8]; omega
          have t5 : IntKind.u16.wrap (cc / 256) = cc / 256 := by rw [IntKind.wrap_u16]; omega

          have E6 : Hid _ := (E5.out.set 6 (cc / 256) (by omega)).set 7 (cc % 256) (by omega)
          have HC : Hid (chkC src dst 2 (LL) = cc) := by
            show _ = _
            unfold chkC
            rw [HS.out, if_neg (by omega)]
            omega
          go_wp2
          go_ret2
          refine ⟨some ⟨g, 0, none⟩, c5, rfl, ?_, ⟨by omega, E6.out.fr BB.out.size⟩, BB.out.trans (E6.out.bel.mono BB.out.size)⟩
          unfold setC
          rw [HC.out]
          exact E6.out.bs
        · obtain ⟨x0, x1, x2, x3, x4, x5, x6, x7, x8, x9, x10, x11, x12, x13⟩ := AtB.cells14 A5.out
          go_wp2
          go_ret2
          exact ⟨some ⟨g, 0, none⟩, c5, rfl, E5.out.bs, ⟨by omega, E5.out.fr BB.out.size⟩, BB.out.trans (E5.out.bel.mono BB.out.size)⟩
    · go_simp
      have U20 : Hid (UR (some V1.heap.size) W2 (V1.alloc (.cells #[.int .u8 0, .int .u8 0] 5)) (.slice a57_1 2 2) 2 (be (sp) 2)) := U1.out.build
      have A20 : Hid (AtB (V1.alloc (.cells #[.int .u8 0, .int .u8 0] 5)) w.heap.size #[.int .i64 2, .int .i64 ty, .int .i64 co, .int .u32 re, .int .i64 sp, .int .i64 dp, .bool ns, .int .u32 sq, .int .u32 ak, .int .i64 fl, .int .i64 wi, .int .i64 ur, .string (strOfNums os), .string (strOfNums ds)]) := AtB.below AA.out U20.out.rb.bel
      clear U1 A1
      obtain ⟨V20, hV⟩ : ∃ V', V1.alloc (.cells #[.int .u8 0, .int .u8 0] 5) = V' := ⟨_, rfl⟩
      obtain ⟨b20, hb⟩ : ∃ b', V1.heap.size = b' := ⟨_, rfl⟩
      rw [hV] at U20 A20
      rw [hb] at U20
      rw [hV, hb]
      clear hV hb
      refine hK _ _ A20.out (fun hHeld => ?_)
      try simp only [List.getElem_toArray, List.getElem_cons_zero, List.getElem_cons_succ, Act.put, List.setIfInBounds_toArray, List.set_cons_zero, List.set_cons_succ]
      refine wpAnyH_ready (rs := [5]) (by kernel_rfl) (by simp) ?_
      refine AllReadyH.cons (o := _) rfl (fun K hK => ?_) AllReadyH.nil
      go_simp
      refine (two_next U20.out dp (by omega)).mono ?_
      rintro e V21 ⟨a60_21, rfl, u, b⟩
      have U21 : Hid (UR (some b20) W2 V21 (.slice a57_1 2 2) 2 (be (sp) 2)) := u
      have B21 : Hid (BS V21 a60_21 2 (be dp 2)) := b
      have A21 : Hid (AtB V21 w.heap.size #[.int .i64 2, .int .i64 ty, .int .i64 co, .int .u32 re, .int .i64 sp, .int .i64 dp, .bool ns, .int .u32 sq, .int .u32 ak, .int .i64 fl, .int .i64 wi, .int .i64 ur, .string (strOfNums os), .string (strOfNums ds)]) := AtB.below AA.out u.rb.bel
      clear u b U20
      clear A20
      refine hK _ _ A21.out (fun hHeld => ?_)
      try simp only [List.getElem_toArray, List.getElem_cons_zero, List.getElem_cons_succ, Act.put, List.setIfInBounds_toArray, List.set_cons_zero, List.set_cons_succ]
      refine wpAnyH_ready (rs := [6]) (by kernel_rfl) (by simp) ?_
      refine AllReadyH.cons (o := _) rfl (fun K hK => ?_) AllReadyH.nil
      refine step_append_ur (w1 := W2) Try.underlying22 info5 rfl (.tmp 57) (.tmp 60) rfl _ 2 (be (sp) 2) rfl U21.out _ 2 2 (be (dp) 2) rfl B21.out (by omega) (by omega) ?_
      intro a22 c22 V22 u
      have U22 : Hid (UR (some b20) W2 V22 (.slice a22 4 c22) 4 (be (sp) 2 ++ be (dp) 2)) := u
      have A22 : Hid (AtB V22 w.heap.size #[.int .i64 2, .int .i64 ty, .int .i64 co, .int .u32 re, .int .i64 sp, .int .i64 dp, .bool ns, .int .u32 sq, .int .u32 ak, .int .i64 fl, .int .i64 wi, .int .i64 ur, .string (strOfNums os), .string (strOfNums ds)]) := AtB.below AA.out u.rb.bel
      clear u U21 A21 B21
      refine hK _ _ A22.out (fun hHeld => ?_)
      try simp only [List.getElem_toArray, List.getElem_cons_zero, List.getElem_cons_succ, Act.put, List.setIfInBounds_toArray, List.set_cons_zero, List.set_cons_succ]
      refine wpAnyH_ready (rs := [11]) (by kernel_rfl) (by simp) ?_
      refine AllReadyH.cons (o := _) rfl (fun K hK => ?_) AllReadyH.nil
      go_simp
      refine (two_next U22.out (8 + (ds.length : Int)) (by omega)).mono ?_
      rintro e V23 ⟨a66_23, rfl, u, b⟩
      have U23 : Hid (UR (some b20) W2 V23 (.slice a22 4 c22) 4 (be (sp) 2 ++ be (dp) 2)) := u
      have B23 : Hid (BS V23 a66_23 2 (be (8 + (ds.length : Int)) 2)) := b
      have A23 : Hid (AtB V23 w.heap.size #[.int .i64 2, .int .i64 ty, .int .i64 co, .int .u32 re, .int .i64 sp, .int .i64 dp, .bool ns, .int .u32 sq, .int .u32 ak, .int .i64 fl, .int .i64 wi, .int .i64 ur, .string (strOfNums os), .string (strOfNums ds)]) := AtB.below AA.out u.rb.bel
      clear u b U22
      clear A22
      refine hK _ _ A23.out (fun hHeld => ?_)
      try simp only [List.getElem_toArray, List.getElem_cons_zero, List.getElem_cons_succ, Act.put, List.setIfInBounds_toArray, List.set_cons_zero, List.set_cons_succ]
      refine wpAnyH_ready (rs := [12]) (by kernel_rfl) (by simp) ?_
      refine AllReadyH.cons (o := _) rfl (fun K hK => ?_) AllReadyH.nil
      refine step_append_ur (w1 := W2) Try.underlying22 info5 rfl (.tmp 61) (.tmp 66) rfl _ 4 (be (sp) 2 ++ be (dp) 2) rfl U23.out _ 2 2 (be ((8 + (ds.length : Int))) 2) rfl B23.out (by omega) (by omega) ?_
      intro a24 c24 V24 u
      have U24 : Hid (UR (some b20) W2 V24 (.slice a24 6 c24) 6 (be (sp) 2 ++ be (dp) 2 ++ be ((8 + (ds.length : Int))) 2)) := u
      have A24 : Hid (AtB V24 w.heap.size #[.int .i64 2, .int .i64 ty, .int .i64 co, .int .u32 re, .int .i64 sp, .int .i64 dp, .bool ns, .int .u32 sq, .int .u32 ak, .int .i64 fl, .int .i64 wi, .int .i64 ur, .string (strOfNums os), .string (strOfNums ds)]) := AtB.below AA.out u.rb.bel
      clear u U23 A23 B23
      refine hK _ _ A24.out (fun hHeld => ?_)
      try simp only [List.getElem_toArray, List.getElem_cons_zero, List.getElem_cons_succ, Act.put, List.setIfInBounds_toArray, List.set_cons_zero, List.set_cons_succ]
      refine wpAnyH_ready (rs := [14]) (by kernel_rfl) (by simp) ?_
      refine AllReadyH.cons (o := _) rfl (fun K hK => ?_) AllReadyH.nil
      refine step_append_ur (w1 := W2) Try.underlying22 info5 rfl (.tmp 67) (.tmp 68) rfl _ 6 (be (sp) 2 ++ be (dp) 2 ++ be ((8 + (ds.length : Int))) 2) rfl U24.out _ 2 2 ([0, 0]) rfl U24.out.zr.bs (by omega) (by omega) ?_
      intro a25 c25 V25 u
      have U25 : Hid (UR (some b20) W2 V25 (.slice a25 8 c25) 8 (be (sp) 2 ++ be (dp) 2 ++ be ((8 + (ds.length : Int))) 2 ++ [0, 0])) := u
      have A25 : Hid (AtB V25 w.heap.size #[.int .i64 2, .int .i64 ty, .int .i64 co, .int .u32 re, .int .i64 sp, .int .i64 dp, .bool ns, .int .u32 sq, .int .u32 ak, .int .i64 fl, .int .i64 wi, .int .i64 ur, .string (strOfNums os), .string (strOfNums ds)]) := AtB.below AA.out u.rb.bel
      clear u U24 A24
      refine hK _ _ A25.out (fun hHeld => ?_)
      try simp only [List.getElem_toArray, List.getElem_cons_zero, List.getElem_cons_succ, Act.put, List.setIfInBounds_toArray, List.set_cons_zero, List.set_cons_succ]
      refine wpAnyH_ready (rs := [15]) (by kernel_rfl) (by simp) ?_
      refine AllReadyH.cons (o := _) rfl (fun K hK => ?_) AllReadyH.nil
      go_simp
      refine hK _ _ A25.out (fun hHeld => ?_)
      refine wpAnyH_done (by kernel_rfl) ?_ _
      try simp only [List.getElem_toArray, List.getElem_cons_zero, List.getElem_cons_succ, Act.put, List.setIfInBounds_toArray, List.set_cons_zero, List.set_cons_succ]
      obtain ⟨x0, x1, x2, x3, x4, x5, x6, x7, x8, x9, x10, x11, x12, x13⟩ := AtB.cells14 A25.out
      go_wp2_with (at_builtin; refine wpList_append_str (by rfl) _ _ 22 9 rfl W2.heap.size 5 i0 Try.underlying22 Try.underlying9 hi hz0 hz1 hz2 _ 8 _ rfl U25.out.rb.own ds hfd rfl (by omega) U25.out.rb.bel.size ?_)
      intro a5 c5 W5 own5 g5
      have B5 : Hid (Below W2.heap.size W2 W5) := U25.out.rb.bel.grown g5 U25.out.rb.bel.size (fun k hk => (World.ownsRow.lt U25.out.rb.own k hk).1)
      obtain ⟨g, rfl, hg1, hg2⟩ := own_some own5 (by omega)
      have hcc := own_caps own5
      have E5 : Hid (EncS W2 W5 g (8 + ds.length) c5 LL) := by
        show EncS W2 W5 g (8 + ds.length) c5 LL
        rw [← HLL.out]
        exact ⟨own5, B5.out, fits_append (fits_append (fits_append (fits_append (be_bd _ _) (be_bd _ _)) (be_bd _ _)) (fits_two (by omega) (by omega))) hfd, by omega⟩
      have A5 : Hid (AtB W5 w.heap.size #[.int .i64 2, .int .i64 ty, .int .i64 co, .int .u32 re, .int .i64 sp, .int .i64 dp, .bool ns, .int .u32 sq, .int .u32 ak, .int .i64 fl, .int .i64 wi, .int .i64 ur, .string (strOfNums os), .string (strOfNums ds)]) := AtB.below AA.out B5.out
      clear x0 x1 x2 x3 x4 x5 x6 x7 x8 x9 x10 x11 x12 x13 own5 g5 U25 A25 AA
      cases ns
      · have hLl : (LL).length = 8 + ds.length := by have := E5.out.own.1; simpa using this
        obtain ⟨Pv, hP⟩ : ∃ p, psd src dst 17 ((8 + ds.length : Nat) : Int) = p := ⟨_, rfl⟩
        obtain ⟨Fv, hF⟩ : ∃ f, fld (wsum (LL)) = f := ⟨_, rfl⟩
        obtain ⟨Sm, hA⟩ : ∃ f, fld (Pv + Fv) = f := ⟨_, rfl⟩
        have hp1 := psd_bd src dst 17 ((8 + ds.length : Nat) : Int) hs.1 ht.1
        have hp2 := fld_bd (wsum (LL)) (wsum_bd E5.out.fits)
        rw [hP] at hp1
        rw [hF] at hp2
        have hp3 := fld_bd (Pv + Fv) (by omega)
        rw [hA] at hp3
        have HS : Hid (sumV src dst 2 (LL) = Sm) := by
          show _ = _
          unfold sumV
          rw [if_neg (by omega), hLl, show protoN 2 = 17 from rfl, hP, hF, hA]
        have HP : Hid (psd src dst 17 ((8 + ds.length : Nat) : Int) = Pv) := hP
        have HF : Hid (fld (wsum (LL)) = Fv) := hF
        have HA : Hid (fld (Pv + Fv) = Sm) := hA
        clear hP hF hA hLl
        obtain ⟨x0, x1, x2, x3, x4, x5, x6, x7, x8, x9, x10, x11, x12, x13⟩ := AtB.cells14 A5.out
        go_wp2_with fail
        clear x0 x1 x2 x3 x4 x5 x6 x7 x8 x9 x10 x11 x12 x13
        refine (rpseudo_any _ src dst 17 ((8 + ds.length : Nat) : Int) hs ht).mono ?_
        rintro e w' ⟨rfl, hw'⟩
        rw [hw', HP.out]
        clear hw' HP
        go_wp2_with fail
        refine (rsum_any _ E5.out.bs).mono ?_
        rintro e w' ⟨rfl, hw'⟩
        rw [hw', HF.out]
        clear hw' HF
        go_wp2_with fail
        refine (radd_any _ _ hp1.1 hp1.2 hp2.1 hp2.2 _).mono ?_
        rintro e w' ⟨rfl, hw'⟩
        rw [hw', HA.out]
        clear hw' HA hp1 hp2
        have k2 := E5.out.cell 6 (by omega)
        have k3 := E5.out.cell 7 (by omega)
        have f2 := E5.out.own.frozenAt 6
        have f3 := E5.out.own.frozenAt 7
        have hN2 : (6 : Int) < 8 + (ds.length : Int) := by omega
        have hN3 : (7 : Int) < 8 + (ds.length : Int) := by omega
        obtain ⟨cc, rfl⟩ : ∃ cc, Sm = 65535 - cc := ⟨65535 - Sm, by omega⟩
        have hcb : 0 ≤ cc ∧ cc ≤ 65535 := by omega
        have hc0 : 65535 - (65535 - cc) = cc := by omega
        clear hp3

        by_cases hz : cc = 0
        · subst hz
          have E6 : Hid _ := (E5.out.set 6 255 (by omega)).set 7 255 (by omega)
          have HC : Hid (chkC src dst 2 (LL) = 65535) := by
            show _ = _
            unfold chkC
            rw [if_pos ⟨rfl, by rw [HS.out]; rfl⟩]
          clear hc0 hcb
          go_wp2
          go_ret2
          refine ⟨some ⟨g, 0, none⟩, c5, rfl, ?_, ⟨by omega, E6.out.fr BB.out.size⟩, BB.out.trans (E6.out.bel.mono BB.out.size)⟩
          unfold setC
          rw [HC.out]
          exact E6.out.bs
        have hz1 : (cc == 0) = false := by simp [hz]

        have t1 : (cc : Int).tdiv 256 = cc / 256 := Int.tdiv_eq_ediv_of_nonneg hcb.1
        have t2 : (cc : Int).tmod 256 = cc % 256 := Int.tmod_eq_emod_of_nonneg hcb.1
        have t3 : IntKind.u8.wrap (cc / 256) = cc / 256 := by rw [IntKind.wrap_u8]; omega
        have t4 : IntKind.u8.wrap (cc % 256) = cc % 256 := by rw [IntKind.wrap_u8]; omega
        have t5 : IntKind.u16.wrap (cc / 256) = cc / 256 := by rw [IntKind.wrap_u16]; omega

        have E6 : Hid _ := (E5.out.set 6 (cc / 256) (by omega)).set 7 (cc % 256) (by omega)
        have HC : Hid (chkC src dst 2 (LL) = cc) := by
          show _ = _
          unfold chkC
          rw [HS.out, if_neg (by omega)]
          omega
        go_wp2
        go_ret2
        refine ⟨some ⟨g, 0, none⟩, c5, rfl, ?_, ⟨by omega, E6.out.fr BB.out.size⟩, BB.out.trans (E6.out.bel.mono BB.out.size)⟩
        unfold setC
        rw [HC.out]
        exact E6.out.bs
      · obtain ⟨x0, x1, x2, x3, x4, x5, x6, x7, x8, x9, x10, x11, x12, x13⟩ := AtB.cells14 A5.out
        go_wp2
        go_ret2
        exact ⟨some ⟨g, 0, none⟩, c5, rfl, E5.out.bs, ⟨by omega, E5.out.fr BB.out.size⟩, BB.out.trans (E5.out.bel.mono BB.out.size)⟩
  · go_simp
    have Z26 : Hid (Zr (some W2.heap.size) W2 (W2.alloc (.cells #[.int .u8 0, .int .u8 0] 5))) := ZZ.out.build
    have A26 : Hid (AtB (W2.alloc (.cells #[.int .u8 0, .int .u8 0] 5)) w.heap.size #[.int .i64 2, .int .i64 ty, .int .i64 co, .int .u32 re, .int .i64 sp, .int .i64 dp, .bool ns, .int .u32 sq, .int .u32 ak, .int .i64 fl, .int .i64 wi, .int .i64 ur, .string (strOfNums os), .string (strOfNums ds)]) := AtB.below AA.out Z26.out.bel
    clear ZZ
    obtain ⟨V26, hV⟩ : ∃ V', W2.alloc (.cells #[.int .u8 0, .int .u8 0] 5) = V' := ⟨_, rfl⟩
    obtain ⟨b26, hb⟩ : ∃ b', W2.heap.size = b' := ⟨_, rfl⟩
    rw [hV] at Z26 A26
    rw [hb] at Z26
    rw [hV, hb]
    clear hV hb
    refine hK _ _ A26.out (fun hHeld => ?_)
    try simp only [List.getElem_toArray, List.getElem_cons_zero, List.getElem_cons_succ, Act.put, List.setIfInBounds_toArray, List.set_cons_zero, List.set_cons_succ]
    refine wpAnyH_ready (rs := [2]) (by kernel_rfl) (by simp) ?_
    refine AllReadyH.cons (o := _) rfl (fun K hK => ?_) AllReadyH.nil
    go_simp
    refine (two_first Z26.out sp (by omega)).mono ?_
    rintro e V27 ⟨a57_27, rfl, u⟩
    have U27 : Hid (UR (some b26) W2 V27 (.slice a57_27 2 2) 2 (be sp 2)) := u
    have A27 : Hid (AtB V27 w.heap.size #[.int .i64 2, .int .i64 ty, .int .i64 co, .int .u32 re, .int .i64 sp, .int .i64 dp, .bool ns, .int .u32 sq, .int .u32 ak, .int .i64 fl, .int .i64 wi, .int .i64 ur, .string (strOfNums os), .string (strOfNums ds)]) := AtB.below AA.out u.rb.bel
    clear u Z26
    clear A26
    refine hK _ _ A27.out (fun hHeld => ?_)
    try simp only [List.getElem_toArray, List.getElem_cons_zero, List.getElem_cons_succ, Act.put, List.setIfInBounds_toArray, List.set_cons_zero, List.set_cons_succ]
    refine wpAnyH_ready (rs := [5]) (by kernel_rfl) (by simp) ?_
    refine AllReadyH.cons (o := _) rfl (fun K hK => ?_) AllReadyH.nil
    go_simp
    refine (two_next U27.out dp (by omega)).mono ?_
    rintro e V28 ⟨a60_28, rfl, u, b⟩
    have U28 : Hid (UR (some b26) W2 V28 (.slice a57_27 2 2) 2 (be (sp) 2)) := u
    have B28 : Hid (BS V28 a60_28 2 (be dp 2)) := b
    have A28 : Hid (AtB V28 w.heap.size #[.int .i64 2, .int .i64 ty, .int .i64 co, .int .u32 re, .int .i64 sp, .int .i64 dp, .bool ns, .int .u32 sq, .int .u32 ak, .int .i64 fl, .int .i64 wi, .int .i64 ur, .string (strOfNums os), .string (strOfNums ds)]) := AtB.below AA.out u.rb.bel
    clear u b U27
    clear A27
    refine hK _ _ A28.out (fun hHeld => ?_)
    try simp only [List.getElem_toArray, List.getElem_cons_zero, List.getElem_cons_succ, Act.put, List.setIfInBounds_toArray, List.set_cons_zero, List.set_cons_succ]
    refine wpAnyH_ready (rs := [6]) (by kernel_rfl) (by simp) ?_
    refine AllReadyH.cons (o := _) rfl (fun K hK => ?_) AllReadyH.nil
    refine step_append_ur (w1 := W2) Try.underlying22 info5 rfl (.tmp 57) (.tmp 60) rfl _ 2 (be (sp) 2) rfl U28.out _ 2 2 (be (dp) 2) rfl B28.out (by omega) (by omega) ?_
    intro a29 c29 V29 u
    have U29 : Hid (UR (some b26) W2 V29 (.slice a29 4 c29) 4 (be (sp) 2 ++ be (dp) 2)) := u
    have A29 : Hid (AtB V29 w.heap.size #[.int .i64 2, .int .i64 ty, .int .i64 co, .int .u32 re, .int .i64 sp, .int .i64 dp, .bool ns, .int .u32 sq, .int .u32 ak, .int .i64 fl, .int .i64 wi, .int .i64 ur, .string (strOfNums os), .string (strOfNums ds)]) := AtB.below AA.out u.rb.bel
    clear u U28 A28 B28
    refine hK _ _ A29.out (fun hHeld => ?_)
    try simp only [List.getElem_toArray, List.getElem_cons_zero, List.getElem_cons_succ, Act.put, List.setIfInBounds_toArray, List.set_cons_zero, List.set_cons_succ]
    refine wpAnyH_ready (rs := [11]) (by kernel_rfl) (by simp) ?_
    refine AllReadyH.cons (o := _) rfl (fun K hK => ?_) AllReadyH.nil
    go_simp
    refine (two_next U29.out (8 + (ds.length : Int)) (by omega)).mono ?_
    rintro e V30 ⟨a66_30, rfl, u, b⟩
    have U30 : Hid (UR (some b26) W2 V30 (.slice a29 4 c29) 4 (be (sp) 2 ++ be (dp) 2)) := u
    have B30 : Hid (BS V30 a66_30 2 (be (8 + (ds.length : Int)) 2)) := b
    have A30 : Hid (AtB V30 w.heap.size #[.int .i64 2, .int .i64 ty, .int .i64 co, .int .u32 re, .int .i64 sp, .int .i64 dp, .bool ns, .int .u32 sq, .int .u32 ak, .int .i64 fl, .int .i64 wi, .int .i64 ur, .string (strOfNums os), .string (strOfNums ds)]) := AtB.below AA.out u.rb.bel
    clear u b U29
    clear A29
    refine hK _ _ A30.out (fun hHeld => ?_)
    try simp only [List.getElem_toArray, List.getElem_cons_zero, List.getElem_cons_succ, Act.put, List.setIfInBounds_toArray, List.set_cons_zero, List.set_cons_succ]
    refine wpAnyH_ready (rs := [12]) (by kernel_rfl) (by simp) ?_
    refine AllReadyH.cons (o := _) rfl (fun K hK => ?_) AllReadyH.nil
    refine step_append_ur (w1 := W2) Try.underlying22 info5 rfl (.tmp 61) (.tmp 66) rfl _ 4 (be (sp) 2 ++ be (dp) 2) rfl U30.out _ 2 2 (be ((8 + (ds.length : Int))) 2) rfl B30.out (by omega) (by omega) ?_
    intro a31 c31 V31 u
    have U31 : Hid (UR (some b26) W2 V31 (.slice a31 6 c31) 6 (be (sp) 2 ++ be (dp) 2 ++ be ((8 + (ds.length : Int))) 2)) := u
    have A31 : Hid (AtB V31 w.heap.size #[.int .i64 2, .int .i64 ty, .int .i64 co, .int .u32 re, .int .i64 sp, .int .i64 dp, .bool ns, .int .u32 sq, .int .u32 ak, .int .i64 fl, .int .i64 wi, .int .i64 ur, .string (strOfNums os), .string (strOfNums ds)]) := AtB.below AA.out u.rb.bel
    clear u U30 A30 B30
    refine hK _ _ A31.out (fun hHeld => ?_)
    try simp only [List.getElem_toArray, List.getElem_cons_zero, List.getElem_cons_succ, Act.put, List.setIfInBounds_toArray, List.set_cons_zero, List.set_cons_succ]
    refine wpAnyH_ready (rs := [14]) (by kernel_rfl) (by simp) ?_
    refine AllReadyH.cons (o := _) rfl (fun K hK => ?_) AllReadyH.nil
    refine step_append_ur (w1 := W2) Try.underlying22 info5 rfl (.tmp 67) (.tmp 68) rfl _ 6 (be (sp) 2 ++ be (dp) 2 ++ be ((8 + (ds.length : Int))) 2) rfl U31.out _ 2 2 ([0, 0]) rfl U31.out.zr.bs (by omega) (by omega) ?_
    intro a32 c32 V32 u
    have U32 : Hid (UR (some b26) W2 V32 (.slice a32 8 c32) 8 (be (sp) 2 ++ be (dp) 2 ++ be ((8 + (ds.length : Int))) 2 ++ [0, 0])) := u
    have A32 : Hid (AtB V32 w.heap.size #[.int .i64 2, .int .i64 ty, .int .i64 co, .int .u32 re, .int .i64 sp, .int .i64 dp, .bool ns, .int .u32 sq, .int .u32 ak, .int .i64 fl, .int .i64 wi, .int .i64 ur, .string (strOfNums os), .string (strOfNums ds)]) := AtB.below AA.out u.rb.bel
    clear u U31 A31
    refine hK _ _ A32.out (fun hHeld => ?_)
    try simp only [List.getElem_toArray, List.getElem_cons_zero, List.getElem_cons_succ, Act.put, List.setIfInBounds_toArray, List.set_cons_zero, List.set_cons_succ]
    refine wpAnyH_ready (rs := [15]) (by kernel_rfl) (by simp) ?_
    refine AllReadyH.cons (o := _) rfl (fun K hK => ?_) AllReadyH.nil
    go_simp
    refine hK _ _ A32.out (fun hHeld => ?_)
    refine wpAnyH_done (by kernel_rfl) ?_ _
    try simp only [List.getElem_toArray, List.getElem_cons_zero, List.getElem_cons_succ, Act.put, List.setIfInBounds_toArray, List.set_cons_zero, List.set_cons_succ]
    obtain ⟨x0, x1, x2, x3, x4, x5, x6, x7, x8, x9, x10, x11, x12, x13⟩ := AtB.cells14 A32.out
    go_wp2_with (at_builtin; refine wpList_append_str (by rfl) _ _ 22 9 rfl W2.heap.size 5 i0 Try.underlying22 Try.underlying9 hi hz0 hz1 hz2 _ 8 _ rfl U32.out.rb.own ds hfd rfl (by omega) U32.out.rb.bel.size ?_)
    intro a5 c5 W5 own5 g5
    have B5 : Hid (Below W2.heap.size W2 W5) := U32.out.rb.bel.grown g5 U32.out.rb.bel.size (fun k hk => (World.ownsRow.lt U32.out.rb.own k hk).1)
    obtain ⟨g, rfl, hg1, hg2⟩ := own_some own5 (by omega)
    have hcc := own_caps own5
    have E5 : Hid (EncS W2 W5 g (8 + ds.length) c5 LL) := by
      show EncS W2 W5 g (8 + ds.length) c5 LL
      rw [← HLL.out]
      exact ⟨own5, B5.out, fits_append (fits_append (fits_append (fits_append (be_bd _ _) (be_bd _ _)) (be_bd _ _)) (fits_two (by omega) (by omega))) hfd, by omega⟩
    have A5 : Hid (AtB W5 w.heap.size #[.int .i64 2, .int .i64 ty, .int .i64 co, .int .u32 re, .int .i64 sp, .int .i64 dp, .bool ns, .int .u32 sq, .int .u32 ak, .int .i64 fl, .int .i64 wi, .int .i64 ur, .string (strOfNums os), .string (strOfNums ds)]) := AtB.below AA.out B5.out
    clear x0 x1 x2 x3 x4 x5 x6 x7 x8 x9 x10 x11 x12 x13 own5 g5 U32 A32 AA
    cases ns
    · have hLl : (LL).length = 8 + ds.length := by have := E5.out.own.1; simpa using this
      obtain ⟨Pv, hP⟩ : ∃ p, psd src dst 17 ((8 + ds.length : Nat) : Int) = p := ⟨_, rfl⟩
      obtain ⟨Fv, hF⟩ : ∃ f, fld (wsum (LL)) = f := ⟨_, rfl⟩
      obtain ⟨Sm, hA⟩ : ∃ f, fld (Pv + Fv) = f := ⟨_, rfl⟩
      have hp1 := psd_bd src dst 17 ((8 + ds.length : Nat) : Int) hs.1 ht.1
      have hp2 := fld_bd (wsum (LL)) (wsum_bd E5.out.fits)
      rw [hP] at hp1
      rw [hF] at hp2
      have hp3 := fld_bd (Pv + Fv) (by omega)
      rw [hA] at hp3
      have HS : Hid (sumV src dst 2 (LL) = Sm) := by
        show _ = _
        unfold sumV
        rw [if_neg (by omega), hLl, show protoN 2 = 17 from rfl, hP, hF, hA]
      have HP : Hid (psd src dst 17 ((8 + ds.length : Nat) : Int) = Pv) := hP
      have HF : Hid (fld (wsum (LL)) = Fv) := hF
      have HA : Hid (fld (Pv + Fv) = Sm) := hA
      clear hP hF hA hLl
      obtain ⟨x0, x1, x2, x3, x4, x5, x6, x7, x8, x9, x10, x11, x12, x13⟩ := AtB.cells14 A5.out
      go_wp2_with fail
      clear x0 x1 x2 x3 x4 x5 x6 x7 x8 x9 x10 x11 x12 x13
      refine (rpseudo_any _ src dst 17 ((8 + ds.length : Nat) : Int) hs ht).mono ?_
      rintro e w' ⟨rfl, hw'⟩
      rw [hw', HP.out]
      clear hw' HP
      go_wp2_with fail
      refine (rsum_any _ E5.out.bs).mono ?_
      rintro e w' ⟨rfl, hw'⟩
      rw [hw', HF.out]
      clear hw' HF
      go_wp2_with fail
      refine (radd_any _ _ hp1.1 hp1.2 hp2.1 hp2.2 _).mono ?_
      rintro e w' ⟨rfl, hw'⟩
      rw [hw', HA.out]
      clear hw' HA hp1 hp2
      have k2 := E5.out.cell 6 (by omega)
      have k3 := E5.out.cell 7 (by omega)
      have f2 := E5.out.own.frozenAt 6
      have f3 := E5.out.own.frozenAt 7
      have hN2 : (6 : Int) < 8 + (ds.length : Int) := by omega
      have hN3 : (7 : Int) < 8 + (ds.length : Int) := by omega
      obtain ⟨cc, rfl⟩ : ∃ cc, Sm = 65535 - cc := ⟨65535 - Sm, by omega⟩
      have hcb : 0 ≤ cc ∧ cc ≤ 65535 := by omega
      have hc0 : 65535 - (65535 - cc) = cc := by omega
      clear hp3

      by_cases hz : cc = 0
      · subst hz
        have E6 : Hid _ := (E5.out.set 6 255 (by omega)).set 7 255 (by omega)
        have HC : Hid (chkC src dst 2 (LL) = 65535) := by
          show _ = _
          unfold chkC
          rw [if_pos ⟨rfl, by rw [HS.out]; rfl⟩]
        clear hc0 hcb
        go_wp2
        go_ret2
        refine ⟨some ⟨g, 0, none⟩, c5, rfl, ?_, ⟨by omega, E6.out.fr BB.out.size⟩, BB.out.trans (E6.out.bel.mono BB.out.size)⟩
        unfold setC
        rw [HC.out]
        exact E6.out.bs
      have hz1 : (cc == 0) = false := by simp [hz]

      have t1 : (cc : Int).tdiv 256 = cc / 256 := Int.tdiv_eq_ediv_of_nonneg hcb.1
      have t2 : (cc : Int).tmod 256 = cc % 256 := Int.tmod_eq_emod_of_nonneg hcb.1
      have t3 : IntKind.u8.wrap (cc / 256) = cc / 256 := by rw [IntKind.wrap_u8]; omega
      have t4 : IntKind.u8.wrap (cc % 256) = cc % 256 := by rw [IntKind.wrap_u8]; omega
      have t5 : IntKind.u16.wrap (cc / 256) = cc / 256 := by rw [IntKind.wrap_u16]; omega

      have E6 : Hid _ := (E5.out.set 6 (cc / 256) (by omega)).set 7 (cc % 256) (by omega)
      have HC : Hid (chkC src dst 2 (LL) = cc) := by
        show _ = _
        unfold chkC
        rw [HS.out, if_neg (by omega)]
        omega
      go_wp2
      go_ret2
      refine ⟨some ⟨g, 0, none⟩, c5, rfl, ?_, ⟨by omega, E6.out.fr BB.out.size⟩, BB.out.trans (E6.out.bel.mono BB.out.size)⟩
      unfold setC
      rw [HC.out]
      exact E6.out.bs
    · obtain ⟨x0, x1, x2, x3, x4, x5, x6, x7, x8, x9, x10, x11, x12, x13⟩ := AtB.cells14 A5.out
      go_wp2
      go_ret2
      exact ⟨some ⟨g, 0, none⟩, c5, rfl, E5.out.bs, ⟨by omega, E5.out.fr BB.out.size⟩, BB.out.trans (E5.out.bel.mono BB.out.size)⟩
end Go.Proofs.Ytpiokeidcnbmbaa

namespace Go.Proofs.Ytpiokeidcnbmbaa
open Go.RowKit Go.Lib
theorem UR.drew {z : Option Nat} {w1 W : World} {v : Value} {n : Nat} {xs : List Int} (h : UR z w1 W v n xs) : UR z w1 W.drew v n xs := ⟨h.rb.drew, ⟨h.zr.bel.drew, h.zr.at0⟩, h.ap⟩
theorem wpList_append_ur {P : Program} (hP : P.underlying 22 = some (.slice 5)) (hi5 : (P.info? 5).map (fun i => (i.zero, i.size, i.bytes)) = some (some (.int .u8 0), 1, 1)) {z : Option Nat} {w1 w : World} {ops : Array Oper} {rest : List Oper} {o : Oper} {act : Act} {Q : Exit → Act → World → Prop} (hgd : o.guard = none) (s x : Operand)
    (ho : o.op = .call { callee := .builtin .append, args := #[s, x], argTypes := #[22, 22] })
    (v : Value) (n : Nat) (xs : List Int) (hs : act.eval s = v) (hr : UR z w1 w v n xs)
    (a : Option Addr) (m c : Nat) (zs : List Int) (hx : act.eval x = .slice a m c) (hbs : BS w a m zs) (hsum : n + m ≤ 140737488355328) (hn : 2 < n + m)
    (h : ∀ a' cap' w', UR z w1 w' (.slice a' (n + m) cap') (n + m) (xs ++ zs) → wpList P ops Q rest (act.put o.dst (.slice a' (n + m) cap')) w') : wpList P ops Q (o :: rest) act w := by
  have hw : Region.wanted o (yielded ops act.tmps) = true := by simp [Region.wanted, hgd]
  refine BigFrame.wpList_want hw fun K hK => ?_
  have := step_append_ur (ops := ops) (E := True) (K := K) (Q := Q) hP hi5 hgd s x ho v n xs hs hr a m c zs hx hbs hsum hn (fun a' cap' w' u => hK _ _ (h a' cap' w' u))
  rw [if_pos hw] at this
  exact this
theorem step_append_str {P : Program} {z : Option Nat} {w1 w : World} {ops : Array Oper} {o : Oper} {act : Act} {K : Act → World → Prop} {Q : Exit → Act → World → Prop} {E : Prop} (hgd : o.guard = none) (s x : Operand) (u : TypeId)
    (ho : o.op = .call { callee := .builtin .append, args := #[s, x], argTypes := #[22, u] })
    (i : TypeInfo) (ht : P.underlying 22 = some (.slice 5)) (hu : P.underlying u = some .string) (hi : P.info? 5 = some i) (hz : i.zero = some (.int .u8 0)) (hsize : i.size = 1) (hby : i.bytes = 1)
    (v : Value) (n : Nat) (xs : List Int) (hs : act.eval s = v) (hr : UR z w1 w v n xs)
    (os : List Int) (hf : ∀ i, 0 ≤ os.getD i 0 ∧ os.getD i 0 ≤ 255) (hx : act.eval x = .string (strOfNums os)) (hsum : n + os.length ≤ 140737488355328) (hn : 2 < n + os.length)
    (h : ∀ a' cap' w', UR z w1 w' (.slice a' (n + os.length) cap') (n + os.length) (xs ++ os) → K (act.put o.dst (.slice a' (n + os.length) cap')) w') :
    if Region.wanted o (yielded ops act.tmps) = true then Oper.wp P o act w K Q else E := by
  have hw : Region.wanted o (yielded ops act.tmps) = true := by simp [Region.wanted, hgd]
  rw [if_pos hw]
  have hsz := strOfNums_size os
  obtain ⟨v', w', hrun, h2, h3, _⟩ := run_append_own_string (P := P) w w1.heap.size 22 u o.type 5 i ht hu hi hz hsize hby v n _ hr.rb.own (strOfNums os) (by rw [hsz]; unfold maxLen; omega) (by rw [hsz]; omega) hr.rb.bel.size
  rw [hsz, strCells_nums hf, ← List.map_append] at h2
  obtain ⟨a', cap', rfl, _⟩ := own_form h2
  unfold Oper.wp execOp
  simp only [ho, resolve, invoke, builtin, Sem.run_bind, Sem.run_pure, Result.andThen_ok, List.map_toArray, List.map_cons, List.map_nil, hs, hx, hrun]
  exact h a' cap' w' (ur_step hr h2 h3 hn)
end Go.Proofs.Ytpiokeidcnbmbaa

namespace Go.Proofs.Ytpiokeidcnbmbaa
open Go.RowKit Go.Lib
set_option linter.unusedSimpArgs false
set_option maxRecDepth 20000 in
set_option maxHeartbeats 16000000 in
theorem renf_tcp (src dst : Int) (hs : 0 ≤ src ∧ src ≤ 4294967295) (ht : 0 ≤ dst ∧ dst ≤ 4294967295) (ty co re sp dp : Int) (ns : Bool) (sq ak fl wi ur : Int) (os ds : List Int) (h1 : 0 ≤ sp ∧ sp ≤ 65535) (h2 : 0 ≤ dp ∧ dp ≤ 65535) (h3 : 0 ≤ sq ∧ sq ≤ 4294967295) (h4 : 0 ≤ ak ∧ ak ≤ 4294967295) (h5 : 0 ≤ fl ∧ fl ≤ 4095) (h6 : 0 ≤ wi ∧ wi ≤ 65535) (h7 : 0 ≤ ur ∧ ur ≤ 65535) (ho : os.length ≤ 40) (hd : ds.length ≤ 65495) (hfos : ∀ i, 0 ≤ os.getD i 0 ∧ os.getD i 0 ≤ 255) (hfds : ∀ i, 0 ≤ ds.getD i 0 ∧ ds.getD i 0 ≤ 255) (q : Int) (hq : (os.length : Int) / 4 = q) (w : World)
    (HK : Hid (∀ W, Calls Try.prog 66 #[.agg #[.int .i64 3, .int .i64 ty, .int .i64 co, .int .u32 re, .int .i64 sp, .int .i64 dp, .bool ns, .int .u32 sq, .int .u32 ak, .int .i64 fl, .int .i64 wi, .int .i64 ur, .string (strOfNums os), .string (strOfNums ds)]] W fun e w' => e = .returned (.int .i64 0) ∧ Below W.heap.size W w')) :
    Calls Try.prog 34 #[.int .u32 src, .int .u32 dst, .agg #[.int .i64 3, .int .i64 ty, .int .i64 co, .int .u32 re, .int .i64 sp, .int .i64 dp, .bool ns, .int .u32 sq, .int .u32 ak, .int .i64 fl, .int .i64 wi, .int .i64 ur, .string (strOfNums os), .string (strOfNums ds)]] w fun e w' => ∃ a cap, e = .returned (.tuple #[.slice a (20 + os.length + ds.length) cap, .int .i64 0]) ∧ BS w' a (20 + os.length + ds.length) (setC src dst 3 (be sp 2 ++ be dp 2 ++ be sq 4 ++ be ak 4 ++ be ((5 + q) * 4096 + fl) 2 ++ be wi 2 ++ [0, 0] ++ be ur 2 ++ os ++ ds)) ∧ FrA w a ∧ Below w.heap.size w w' := by
  obtain ⟨i0, hi, hz0, hz1, hz2⟩ := info_parts info5
  have hs2 := strOfNums_size ds
  have hs1 := strOfNums_size os
  obtain ⟨LL, hLL⟩ : ∃ l, be sp 2 ++ be dp 2 ++ be sq 4 ++ be ak 4 ++ be ((5 + q) * 4096 + fl) 2 ++ be wi 2 ++ [0, 0] ++ be ur 2 ++ os ++ ds = l := ⟨_, rfl⟩
  rw [hLL]
  have HLL : Hid (be sp 2 ++ be dp 2 ++ be sq 4 ++ be ak 4 ++ be ((5 + q) * 4096 + fl) 2 ++ be wi 2 ++ [0, 0] ++ be ur 2 ++ os ++ ds = LL) := hLL
  clear hLL
  have hI1 : (os.length : Int) ≤ 40 := by omega
  have hI2 : (ds.length : Int) ≤ 65495 := by omega
  have hq1 : IntKind.u64.wrap sq = sq := by simp [IntKind.wrap, IntKind.bits, IntKind.signed]; omega
  have hq2 : IntKind.u64.wrap ak = ak := by simp [IntKind.wrap, IntKind.bits, IntKind.signed]; omega
  have hqb : 0 ≤ q ∧ q ≤ 10 := by omega
  have hq3 : (os.length : Int).tdiv 4 = q := by rw [Int.tdiv_eq_ediv_of_nonneg (by omega)]; exact hq
  have hw1 : IntKind.i64.wrap (5 + q) = 5 + q := by simp [IntKind.wrap, IntKind.bits, IntKind.signed]; omega
  have hw2 : IntKind.i64.wrap ((5 + q) * 4096) = (5 + q) * 4096 := by simp [IntKind.wrap, IntKind.bits, IntKind.signed]; omega
  have hw3 : IntKind.i64.wrap ((5 + q) * 4096 + fl) = (5 + q) * 4096 + fl := by simp [IntKind.wrap, IntKind.bits, IntKind.signed]; omega
  clear hq
  go_enter Try.func34, Try.ntmps34
  go_wp2_with fail
  refine (HK.out _).mono ?_
  clear HK
  rintro e W1 ⟨rfl, hb1⟩
  have A1 : Hid (AtB W1 w.heap.size #[.int .i64 3, .int .i64 ty, .int .i64 co, .int .u32 re, .int .i64 sp, .int .i64 dp, .bool ns, .int .u32 sq, .int .u32 ak, .int .i64 fl, .int .i64 wi, .int .i64 ur, .string (strOfNums os), .string (strOfNums ds)]) := AtB.below (atB_new w #[.int .i64 3, .int .i64 ty, .int .i64 co, .int .u32 re, .int .i64 sp, .int .i64 dp, .bool ns, .int .u32 sq, .int .u32 ak, .int .i64 fl, .int .i64 wi, .int .i64 ur, .string (strOfNums os), .string (strOfNums ds)] 32 _ rfl) hb1
  have B1 : Hid (Below w.heap.size w W1) := (below1 w _).trans (hb1.mono (by simp))
  clear hb1
  obtain ⟨x0, x1, x2, x3, x4, x5, x6, x7, x8, x9, x10, x11, x12, x13⟩ := AtB.cells14 A1.out
  go_wp2_with fail
  clear x0 x1 x2 x3 x4 x5 x6 x7 x8 x9 x10 x11 x12 x13
  refine wp_region_held_drew (S := (fun W => AtB W w.heap.size #[.int .i64 3, .int .i64 ty, .int .i64 co, .int .u32 re, .int .i64 sp, .int .i64 dp, .bool ns, .int .u32 sq, .int .u32 ak, .int .i64 fl, .int .i64 wi, .int .i64 ur, .string (strOfNums os), .string (strOfNums ds)])) (by kernel_rfl) A1.out (fun hHeld => ?_)
  have AA : Hid (AtB W1.drew w.heap.size #[.int .i64 3, .int .i64 ty, .int .i64 co, .int .u32 re, .int .i64 sp, .int .i64 dp, .bool ns, .int .u32 sq, .int .u32 ak, .int .i64 fl, .int .i64 wi, .int .i64 ur, .string (strOfNums os), .string (strOfNums ds)]) := A1.out
  have BB : Hid (Below w.heap.size w W1.drew) := B1.out.drew
  obtain ⟨W2, hW2⟩ : ∃ W2, W1.drew = W2 := ⟨_, rfl⟩
  rw [hW2] at AA BB hHeld ⊢
  clear hW2 A1 B1
  have ZZ : Hid (Zr none W2 W2) := ⟨Below.refl _ _, fun b hb => by cases hb⟩
  refine wpAnyH_take (i := 0) (v := ?_) rfl (by kernel_rfl) (by kernel_rfl) (by kernel_rfl) (fun _ _ _ h => h) (Or.inl ⟨by rfl, ?_⟩) (by assumption) ?_
  rotate_left
  · (intro w hSw; (try dsimp only at hSw); go_simp; try with_reducible rfl)
  try simp only [List.getElem_toArray, List.getElem_cons_zero, List.getElem_cons_succ, Act.put, List.setIfInBounds_toArray, List.set_cons_zero, List.set_cons_succ]
  refine wpAnyH_take (i := 1) (v := .int .i64 sp) rfl (by kernel_rfl) (by kernel_rfl) (by kernel_rfl) (fun _ _ _ h => h) (Or.inl ⟨by rfl, fun W hW => by obtain ⟨x0, x1, x2, x3, x4, x5, x6, x7, x8, x9, x10, x11, x12, x13⟩ := AtB.cells14 hW; go_simp⟩) (by assumption) ?_
  try simp only [List.getElem_toArray, List.getElem_cons_zero, List.getElem_cons_succ, Act.put, List.setIfInBounds_toArray, List.set_cons_zero, List.set_cons_succ]
  refine wpAnyH_take (i := 3) (v := ?_) rfl (by kernel_rfl) (by kernel_rfl) (by kernel_rfl) (fun _ _ _ h => h) (Or.inl ⟨by rfl, ?_⟩) (by assumption) ?_
  rotate_left
  · (intro w hSw; (try dsimp only at hSw); go_simp; try with_reducible rfl)
  try simp only [List.getElem_toArray, List.getElem_cons_zero, List.getElem_cons_succ, Act.put, List.setIfInBounds_toArray, List.set_cons_zero, List.set_cons_succ]
  refine wpAnyH_take (i := 4) (v := .int .i64 dp) rfl (by kernel_rfl) (by kernel_rfl) (by kernel_rfl) (fun _ _ _ h => h) (Or.inl ⟨by rfl, fun W hW => by obtain ⟨x0, x1, x2, x3, x4, x5, x6, x7, x8, x9, x10, x11, x12, x13⟩ := AtB.cells14 hW; go_simp⟩) (by assumption) ?_
  try simp only [List.getElem_toArray, List.getElem_cons_zero, List.getElem_cons_succ, Act.put, List.setIfInBounds_toArray, List.set_cons_zero, List.set_cons_succ]
  refine wpAnyH_ready (rs := [2]) (by kernel_rfl) (by simp) ?_
  refine AllReadyH.cons (o := _) rfl (fun K hK => ?_) AllReadyH.nil
  go_simp
  refine (two_first ZZ.out sp (by omega)).mono ?_
  rintro e V1 ⟨a103_1, rfl, u⟩
  have U1 : Hid (UR none W2 V1 (.slice a103_1 2 2) 2 (be sp 2)) := u
  have A1 : Hid (AtB V1 w.heap.size #[.int .i64 3, .int .i64 ty, .int .i64 co, .int .u32 re, .int .i64 sp, .int .i64 dp, .bool ns, .int .u32 sq, .int .u32 ak, .int .i64 fl, .int .i64 wi, .int .i64 ur, .string (strOfNums os), .string (strOfNums ds)]) := AtB.below AA.out u.rb.bel
  clear u ZZ
  refine hK _ _ A1.out (fun hHeld => ?_)
  try simp only [List.getElem_toArray, List.getElem_cons_zero, List.getElem_cons_succ, Act.put, List.setIfInBounds_toArray, List.set_cons_zero, List.set_cons_succ]
  refine wpAnyH_ready (rs := [5]) (by kernel_rfl) (by simp) ?_
  refine AllReadyH.cons (o := _) rfl (fun K hK => ?_) AllReadyH.nil
  go_simp
  refine (two_next U1.out dp (by omega)).mono ?_
  rintro e V2 ⟨a106_2, rfl, u, b⟩
  have U2 : Hid (UR none W2 V2 (.slice a103_1 2 2) 2 (be (sp) 2)) := u
  have B2 : Hid (BS V2 a106_2 2 (be dp 2)) := b
  have A2 : Hid (AtB V2 w.heap.size #[.int .i64 3, .int .i64 ty, .int .i64 co, .int .u32 re, .int .i64 sp, .int .i64 dp, .bool ns, .int .u32 sq, .int .u32 ak, .int .i64 fl, .int .i64 wi, .int .i64 ur, .string (strOfNums os), .string (strOfNums ds)]) := AtB.below AA.out u.rb.bel
  clear u b U1
  clear A1
  refine hK _ _ A2.out (fun hHeld => ?_)
  try simp only [List.getElem_toArray, List.getElem_cons_zero, List.getElem_cons_succ, Act.put, List.setIfInBounds_toArray, List.set_cons_zero, List.set_cons_succ]
  refine wpAnyH_ready (rs := [6]) (by kernel_rfl) (by simp) ?_
  refine AllReadyH.cons (o := _) rfl (fun K hK => ?_) AllReadyH.nil
  refine step_append_ur (w1 := W2) Try.underlying22 info5 rfl (.tmp 103) (.tmp 106) rfl _ 2 (be (sp) 2) rfl U2.out _ 2 2 (be (dp) 2) rfl B2.out (by omega) (by omega) ?_
  intro a3 c3 V3 u
  have U3 : Hid (UR none W2 V3 (.slice a3 4 c3) 4 (be (sp) 2 ++ be (dp) 2)) := u
  have A3 : Hid (AtB V3 w.heap.size #[.int .i64 3, .int .i64 ty, .int .i64 co, .int .u32 re, .int .i64 sp, .int .i64 dp, .bool ns, .int .u32 sq, .int .u32 ak, .int .i64 fl, .int .i64 wi, .int .i64 ur, .string (strOfNums os), .string (strOfNums ds)]) := AtB.below AA.out u.rb.bel
  clear u U2 A2 B2
  refine hK _ _ A3.out (fun hHeld => ?_)
  try simp only [List.getElem_toArray, List.getElem_cons_zero, List.getElem_cons_succ, Act.put, List.setIfInBounds_toArray, List.set_cons_zero, List.set_cons_succ]
  refine wpAnyH_ready (rs := [7]) (by kernel_rfl) (by simp) ?_
  refine AllReadyH.cons (o := _) rfl (fun K hK => ?_) AllReadyH.nil
  go_simp
  refine hK _ _ A3.out (fun hHeld => ?_)
  refine wpAnyH_done (by kernel_rfl) ?_ _
  try simp only [List.getElem_toArray, List.getElem_cons_zero, List.getElem_cons_succ, Act.put, List.setIfInBounds_toArray, List.set_cons_zero, List.set_cons_succ]
  obtain ⟨x0, x1, x2, x3, x4, x5, x6, x7, x8, x9, x10, x11, x12, x13⟩ := AtB.cells14 A3.out
  go_wp2_with fail
  clear x0 x1 x2 x3 x4 x5 x6 x7 x8 x9 x10 x11 x12 x13
  refine wp_region_held_drew (S := (fun W => AtB W w.heap.size #[.int .i64 3, .int .i64 ty, .int .i64 co, .int .u32 re, .int .i64 sp, .int .i64 dp, .bool ns, .int .u32 sq, .int .u32 ak, .int .i64 fl, .int .i64 wi, .int .i64 ur, .string (strOfNums os), .string (strOfNums ds)])) (by kernel_rfl) A3.out (fun hHeld => ?_)
  have Ur4 : Hid (UR none W2 V3.drew (.slice a3 4 c3) 4 (be (sp) 2 ++ be (dp) 2)) := U3.out.drew
  have Ar4 : Hid (AtB V3.drew w.heap.size #[.int .i64 3, .int .i64 ty, .int .i64 co, .int .u32 re, .int .i64 sp, .int .i64 dp, .bool ns, .int .u32 sq, .int .u32 ak, .int .i64 fl, .int .i64 wi, .int .i64 ur, .string (strOfNums os), .string (strOfNums ds)]) := A3.out
  obtain ⟨Vr4, hV⟩ : ∃ V', V3.drew = V' := ⟨_, rfl⟩
  rw [hV] at Ur4 Ar4 hHeld ⊢
  clear hV U3 A3
  refine wpAnyH_take (i := 0) (v := ?_) rfl (by kernel_rfl) (by kernel_rfl) (by kernel_rfl) (fun _ _ _ h => h) (Or.inl ⟨by rfl, ?_⟩) (by assumption) ?_
  rotate_left
  · (intro w hSw; (try dsimp only at hSw); go_simp; try with_reducible rfl)
  try simp only [List.getElem_toArray, List.getElem_cons_zero, List.getElem_cons_succ, Act.put, List.setIfInBounds_toArray, List.set_cons_zero, List.set_cons_succ]
  refine wpAnyH_take (i := 1) (v := ?_) rfl (by kernel_rfl) (by kernel_rfl) (by kernel_rfl) (fun _ _ _ h => h) (Or.inl ⟨by rfl, ?_⟩) (by assumption) ?_
  rotate_left
  · (intro w hSw; (try dsimp only at hSw); go_simp; try with_reducible rfl)
  try simp only [List.getElem_toArray, List.getElem_cons_zero, List.getElem_cons_succ, Act.put, List.setIfInBounds_toArray, List.set_cons_zero, List.set_cons_succ]
  refine wpAnyH_take (i := 2) (v := .int .u32 sq) rfl (by kernel_rfl) (by kernel_rfl) (by kernel_rfl) (fun _ _ _ h => h) (Or.inl ⟨by rfl, fun W hW => by obtain ⟨x0, x1, x2, x3, x4, x5, x6, x7, x8, x9, x10, x11, x12, x13⟩ := AtB.cells14 hW; go_simp⟩) (by assumption) ?_
  try simp only [List.getElem_toArray, List.getElem_cons_zero, List.getElem_cons_succ, Act.put, List.setIfInBounds_toArray, List.set_cons_zero, List.set_cons_succ]
  refine wpAnyH_take (i := 3) (v := ?_) rfl (by kernel_rfl) (by kernel_rfl) (by kernel_rfl) (fun _ _ _ h => h) (Or.inl ⟨by rfl, ?_⟩) (by assumption) ?_
  rotate_left
  · (intro w hSw; (try dsimp only at hSw); go_simp; try with_reducible rfl)
  try simp only [List.getElem_toArray, List.getElem_cons_zero, List.getElem_cons_succ, Act.put, List.setIfInBounds_toArray, List.set_cons_zero, List.set_cons_succ]
  refine wpAnyH_take (i := 6) (v := ?_) rfl (by kernel_rfl) (by kernel_rfl) (by kernel_rfl) (fun _ _ _ h => h) (Or.inl ⟨by rfl, ?_⟩) (by assumption) ?_
  rotate_left
  · (intro w hSw; (try dsimp only at hSw); go_simp; try with_reducible rfl)
  try simp only [List.getElem_toArray, List.getElem_cons_zero, List.getElem_cons_succ, Act.put, List.setIfInBounds_toArray, List.set_cons_zero, List.set_cons_succ]
  refine wpAnyH_take (i := 7) (v := .int .u32 ak) rfl (by kernel_rfl) (by kernel_rfl) (by kernel_rfl) (fun _ _ _ h => h) (Or.inl ⟨by rfl, fun W hW => by obtain ⟨x0, x1, x2, x3, x4, x5, x6, x7, x8, x9, x10, x11, x12, x13⟩ := AtB.cells14 hW; go_simp⟩) (by assumption) ?_
  try simp only [List.getElem_toArray, List.getElem_cons_zero, List.getElem_cons_succ, Act.put, List.setIfInBounds_toArray, List.set_cons_zero, List.set_cons_succ]
  refine wpAnyH_take (i := 8) (v := ?_) rfl (by kernel_rfl) (by kernel_rfl) (by kernel_rfl) (fun _ _ _ h => h) (Or.inl ⟨by rfl, ?_⟩) (by assumption) ?_
  rotate_left
  · (intro w hSw; (try dsimp only at hSw); go_simp; try with_reducible rfl)
  try simp only [List.getElem_toArray, List.getElem_cons_zero, List.getElem_cons_succ, Act.put, List.setIfInBounds_toArray, List.set_cons_zero, List.set_cons_succ]
  refine wpAnyH_ready (rs := [4]) (by kernel_rfl) (by simp) ?_
  refine AllReadyH.cons (o := _) rfl (fun K hK => ?_) AllReadyH.nil
  go_simp
  refine (four_next Ur4.out sq (by omega)).mono ?_
  rintro e V5 ⟨a112_5, rfl, u, b⟩
  have U5 : Hid (UR none W2 V5 (.slice a3 4 c3) 4 (be (sp) 2 ++ be (dp) 2)) := u
  have B5 : Hid (BS V5 a112_5 4 (be sq 4)) := b
  have A5 : Hid (AtB V5 w.heap.size #[.int .i64 3, .int .i64 ty, .int .i64 co, .int .u32 re, .int .i64 sp, .int .i64 dp, .bool ns, .int .u32 sq, .int .u32 ak, .int .i64 fl, .int .i64 wi, .int .i64 ur, .string (strOfNums os), .string (strOfNums ds)]) := AtB.below AA.out u.rb.bel
  clear u b Ur4
  clear Ar4
  refine hK _ _ A5.out (fun hHeld => ?_)
  try simp only [List.getElem_toArray, List.getElem_cons_zero, List.getElem_cons_succ, Act.put, List.setIfInBounds_toArray, List.set_cons_zero, List.set_cons_succ]
  refine wpAnyH_ready (rs := [5]) (by kernel_rfl) (by simp) ?_
  refine AllReadyH.cons (o := _) rfl (fun K hK => ?_) AllReadyH.nil
  refine step_append_ur (w1 := W2) Try.underlying22 info5 rfl (.tmp 108) (.tmp 112) rfl _ 4 (be (sp) 2 ++ be (dp) 2) rfl U5.out _ 4 4 (be (sq) 4) rfl B5.out (by omega) (by omega) ?_
  intro a6 c6 V6 u
  have U6 : Hid (UR none W2 V6 (.slice a6 8 c6) 8 (be (sp) 2 ++ be (dp) 2 ++ be (sq) 4)) := u
  have A6 : Hid (AtB V6 w.heap.size #[.int .i64 3, .int .i64 ty, .int .i64 co, .int .u32 re, .int .i64 sp, .int .i64 dp, .bool ns, .int .u32 sq, .int .u32 ak, .int .i64 fl, .int .i64 wi, .int .i64 ur, .string (strOfNums os), .string (strOfNums ds)]) := AtB.below AA.out u.rb.bel
  clear u U5 A5 B5
  refine hK _ _ A6.out (fun hHeld => ?_)
  try simp only [List.getElem_toArray, List.getElem_cons_zero, List.getElem_cons_succ, Act.put, List.setIfInBounds_toArray, List.set_cons_zero, List.set_cons_succ]
  refine wpAnyH_ready (rs := [9]) (by kernel_rfl) (by simp) ?_
  refine AllReadyH.cons (o := _) rfl (fun K hK => ?_) AllReadyH.nil
  go_simp
  refine (four_next U6.out ak (by omega)).mono ?_
  rintro e V7 ⟨a117_7, rfl, u, b⟩
  have U7 : Hid (UR none W2 V7 (.slice a6 8 c6) 8 (be (sp) 2 ++ be (dp) 2 ++ be (sq) 4)) := u
  have B7 : Hid (BS V7 a117_7 4 (be ak 4)) := b
  have A7 : Hid (AtB V7 w.heap.size #[.int .i64 3, .int .i64 ty, .int .i64 co, .int .u32 re, .int .i64 sp, .int .i64 dp, .bool ns, .int .u32 sq, .int .u32 ak, .int .i64 fl, .int .i64 wi, .int .i64 ur, .string (strOfNums os), .string (strOfNums ds)]) := AtB.below AA.out u.rb.bel
  clear u b U6
  clear A6
  refine hK _ _ A7.out (fun hHeld => ?_)
  try simp only [List.getElem_toArray, List.getElem_cons_zero, List.getElem_cons_succ, Act.put, List.setIfInBounds_toArray, List.set_cons_zero, List.set_cons_succ]
  refine wpAnyH_ready (rs := [10]) (by kernel_rfl) (by simp) ?_
  refine AllReadyH.cons (o := _) rfl (fun K hK => ?_) AllReadyH.nil
  refine step_append_ur (w1 := W2) Try.underlying22 info5 rfl (.tmp 113) (.tmp 117) rfl _ 8 (be (sp) 2 ++ be (dp) 2 ++ be (sq) 4) rfl U7.out _ 4 4 (be (ak) 4) rfl B7.out (by omega) (by omega) ?_
  intro a8 c8 V8 u
  have U8 : Hid (UR none W2 V8 (.slice a8 12 c8) 12 (be (sp) 2 ++ be (dp) 2 ++ be (sq) 4 ++ be (ak) 4)) := u
  have A8 : Hid (AtB V8 w.heap.size #[.int .i64 3, .int .i64 ty, .int .i64 co, .int .u32 re, .int .i64 sp, .int .i64 dp, .bool ns, .int .u32 sq, .int .u32 ak, .int .i64 fl, .int .i64 wi, .int .i64 ur, .string (strOfNums os), .string (strOfNums ds)]) := AtB.below AA.out u.rb.bel
  clear u U7 A7 B7
  refine hK _ _ A8.out (fun hHeld => ?_)
  try simp only [List.getElem_toArray, List.getElem_cons_zero, List.getElem_cons_succ, Act.put, List.setIfInBounds_toArray, List.set_cons_zero, List.set_cons_succ]
  refine wpAnyH_ready (rs := [11]) (by kernel_rfl) (by simp) ?_
  refine AllReadyH.cons (o := _) rfl (fun K hK => ?_) AllReadyH.nil
  go_simp
  refine hK _ _ A8.out (fun hHeld => ?_)
  refine wpAnyH_done (by kernel_rfl) ?_ _
  try simp only [List.getElem_toArray, List.getElem_cons_zero, List.getElem_cons_succ, Act.put, List.setIfInBounds_toArray, List.set_cons_zero, List.set_cons_succ]
  obtain ⟨x0, x1, x2, x3, x4, x5, x6, x7, x8, x9, x10, x11, x12, x13⟩ := AtB.cells14 A8.out
  go_wp2_with fail
  clear x0 x1 x2 x3 x4 x5 x6 x7 x8 x9 x10 x11 x12 x13
  refine (two_next U8.out ((5 + q) * 4096 + fl) (by omega)).mono ?_
  rintro e V9 ⟨a9, rfl, u, b⟩
  have U9 : Hid (UR none W2 V9 (.slice a8 12 c8) 12 (be (sp) 2 ++ be (dp) 2 ++ be (sq) 4 ++ be (ak) 4)) := u
  have B9 : Hid (BS V9 a9 2 (be ((5 + q) * 4096 + fl) 2)) := b
  clear u b U8 A8
  go_wp2_with (at_builtin; refine wpList_append_ur (w1 := W2) Try.underlying22 info5 (by rfl) _ _ rfl _ 12 (be (sp) 2 ++ be (dp) 2 ++ be (sq) 4 ++ be (ak) 4) rfl U9.out _ 2 2 (be ((5 + q) * 4096 + fl) 2) rfl B9.out (by omega) (by omega) ?_; intro a10 c10 V10 u; have U10 : Hid (UR none W2 V10 (.slice a10 14 c10) 14 (be (sp) 2 ++ be (dp) 2 ++ be (sq) 4 ++ be (ak) 4 ++ be ((5 + q) * 4096 + fl) 2)) := u; have A10 : Hid (AtB V10 w.heap.size #[.int .i64 3, .int .i64 ty, .int .i64 co, .int .u32 re, .int .i64 sp, .int .i64 dp, .bool ns, .int .u32 sq, .int .u32 ak, .int .i64 fl, .int .i64 wi, .int .i64 ur, .string (strOfNums os), .string (strOfNums ds)]) := AtB.below AA.out u.rb.bel; clear u U9 B9)
  refine wp_region_held_drew (S := (fun W => AtB W w.heap.size #[.int .i64 3, .int .i64 ty, .int .i64 co, .int .u32 re, .int .i64 sp, .int .i64 dp, .bool ns, .int .u32 sq, .int .u32 ak, .int .i64 fl, .int .i64 wi, .int .i64 ur, .string (strOfNums os), .string (strOfNums ds)])) (by kernel_rfl) A10.out (fun hHeld => ?_)
  have Ur11 : Hid (UR none W2 V10.drew (.slice a10 14 c10) 14 (be (sp) 2 ++ be (dp) 2 ++ be (sq) 4 ++ be (ak) 4 ++ be ((5 + q) * 4096 + fl) 2)) := U10.out.drew
  have Ar11 : Hid (AtB V10.drew w.heap.size #[.int .i64 3, .int .i64 ty, .int .i64 co, .int .u32 re, .int .i64 sp, .int .i64 dp, .bool ns, .int .u32 sq, .int .u32 ak, .int .i64 fl, .int .i64 wi, .int .i64 ur, .string (strOfNums os), .string (strOfNums ds)]) := A10.out
  obtain ⟨Vr11, hV⟩ : ∃ V', V10.drew = V' := ⟨_, rfl⟩
  rw [hV] at Ur11 Ar11 hHeld ⊢
  clear hV U10 A10
  refine wpAnyH_take (i := 0) (v := ?_) rfl (by kernel_rfl) (by kernel_rfl) (by kernel_rfl) (fun _ _ _ h => h) (Or.inl ⟨by rfl, ?_⟩) (by assumption) ?_
  rotate_left
  · (intro w hSw; (try dsimp only at hSw); go_simp; try with_reducible rfl)
  try simp only [List.getElem_toArray, List.getElem_cons_zero, List.getElem_cons_succ, Act.put, List.setIfInBounds_toArray, List.set_cons_zero, List.set_cons_succ]
  refine wpAnyH_take (i := 1) (v := ?_) rfl (by kernel_rfl) (by kernel_rfl) (by kernel_rfl) (fun _ _ _ h => h) (Or.inl ⟨by rfl, ?_⟩) (by assumption) ?_
  rotate_left
  · (intro w hSw; (try dsimp only at hSw); go_simp; try with_reducible rfl)
  try simp only [List.getElem_toArray, List.getElem_cons_zero, List.getElem_cons_succ, Act.put, List.setIfInBounds_toArray, List.set_cons_zero, List.set_cons_succ]
  refine wpAnyH_take (i := 2) (v := .int .i64 wi) rfl (by kernel_rfl) (by kernel_rfl) (by kernel_rfl) (fun _ _ _ h => h) (Or.inl ⟨by rfl, fun W hW => by obtain ⟨x0, x1, x2, x3, x4, x5, x6, x7, x8, x9, x10, x11, x12, x13⟩ := AtB.cells14 hW; go_simp⟩) (by assumption) ?_
  try simp only [List.getElem_toArray, List.getElem_cons_zero, List.getElem_cons_succ, Act.put, List.setIfInBounds_toArray, List.set_cons_zero, List.set_cons_succ]
  refine wpAnyH_take (i := 7) (v := ?_) rfl (by kernel_rfl) (by kernel_rfl) (by kernel_rfl) (fun _ _ _ h => h) (Or.inl ⟨by rfl, ?_⟩) (by assumption) ?_
  rotate_left
  · (intro w hSw; (try dsimp only at hSw); go_simp; try with_reducible rfl)
  try simp only [List.getElem_toArray, List.getElem_cons_zero, List.getElem_cons_succ, Act.put, List.setIfInBounds_toArray, List.set_cons_zero, List.set_cons_succ]
  refine wpAnyH_take (i := 8) (v := .int .i64 ur) rfl (by kernel_rfl) (by kernel_rfl) (by kernel_rfl) (fun _ _ _ h => h) (Or.inl ⟨by rfl, fun W hW => by obtain ⟨x0, x1, x2, x3, x4, x5, x6, x7, x8, x9, x10, x11, x12, x13⟩ := AtB.cells14 hW; go_simp⟩) (by assumption) ?_
  try simp only [List.getElem_toArray, List.getElem_cons_zero, List.getElem_cons_succ, Act.put, List.setIfInBounds_toArray, List.set_cons_zero, List.set_cons_succ]
  refine wpAnyH_ready (rs := [3, 5]) (by kernel_rfl) (by simp) ?_
  refine AllReadyH.cons (o := _) rfl (fun K hK => ?_) (AllReadyH.cons (o := _) rfl (fun K hK => ?_) AllReadyH.nil)
  · go_simp
    refine (two_next Ur11.out wi (by omega)).mono ?_
    rintro e V12 ⟨a134_12, rfl, u, b⟩
    have U12 : Hid (UR none W2 V12 (.slice a10 14 c10) 14 (be (sp) 2 ++ be (dp) 2 ++ be (sq) 4 ++ be (ak) 4 ++ be ((5 + q) * 4096 + fl) 2)) := u
    have B12 : Hid (BS V12 a134_12 2 (be wi 2)) := b
    have A12 : Hid (AtB V12 w.heap.size #[.int .i64 3, .int .i64 ty, .int .i64 co, .int .u32 re, .int .i64 sp, .int .i64 dp, .bool ns, .int .u32 sq, .int .u32 ak, .int .i64 fl, .int .i64 wi, .int .i64 ur, .string (strOfNums os), .string (strOfNums ds)]) := AtB.below AA.out u.rb.bel
    clear u b Ur11
    clear Ar11
    refine hK _ _ A12.out (fun hHeld => ?_)
    try simp only [List.getElem_toArray, List.getElem_cons_zero, List.getElem_cons_succ, Act.put, List.setIfInBounds_toArray, List.set_cons_zero, List.set_cons_succ]
    refine wpAnyH_ready (rs := [4, 5]) (by kernel_rfl) (by simp) ?_
    refine AllReadyH.cons (o := _) rfl (fun K hK => ?_) (AllReadyH.cons (o := _) rfl (fun K hK => ?_) AllReadyH.nil)
    · refine step_append_ur (w1 := W2) Try.underlying22 info5 rfl (.tmp 131) (.tmp 134) rfl _ 14 (be (sp) 2 ++ be (dp) 2 ++ be (sq) 4 ++ be (ak) 4 ++ be ((5 + q) * 4096 + fl) 2) rfl U12.out _ 2 2 (be (wi) 2) rfl B12.out (by omega) (by omega) ?_
      intro a13 c13 V13 u
      have U13 : Hid (UR none W2 V13 (.slice a13 16 c13) 16 (be (sp) 2 ++ be (dp) 2 ++ be (sq) 4 ++ be (ak) 4 ++ be ((5 + q) * 4096 + fl) 2 ++ be (wi) 2)) := u
      have A13 : Hid (AtB V13 w.heap.size #[.int .i64 3, .int .i64 ty, .int .i64 co, .int .u32 re, .int .i64 sp, .int .i64 dp, .bool ns, .int .u32 sq, .int .u32 ak, .int .i64 fl, .int .i64 wi, .int .i64 ur, .string (strOfNums os), .string (strOfNums ds)]) := AtB.below AA.out u.rb.bel
      clear u U12 A12 B12
      refine hK _ _ A13.out (fun hHeld => ?_)
      try simp only [List.getElem_toArray, List.getElem_cons_zero, List.getElem_cons_succ, Act.put, List.setIfInBounds_toArray, List.set_cons_zero, List.set_cons_succ]
      refine wpAnyH_ready (rs := [5]) (by kernel_rfl) (by simp) ?_
      refine AllReadyH.cons (o := _) rfl (fun K hK => ?_) AllReadyH.nil
      go_simp
      have U14 : Hid (UR (some V13.heap.size) W2 (V13.alloc (.cells #[.int .u8 0, .int .u8 0] 5)) (.slice a13 16 c13) 16 (be (sp) 2 ++ be (dp) 2 ++ be (sq) 4 ++ be (ak) 4 ++ be ((5 + q) * 4096 + fl) 2 ++ be (wi) 2)) := U13.out.build
      have A14 : Hid (AtB (V13.alloc (.cells #[.int .u8 0, .int .u8 0] 5)) w.heap.size #[.int .i64 3, .int .i64 ty, .int .i64 co, .int .u32 re, .int .i64 sp, .int .i64 dp, .bool ns, .int .u32 sq, .int .u32 ak, .int .i64 fl, .int .i64 wi, .int .i64 ur, .string (strOfNums os), .string (strOfNums ds)]) := AtB.below AA.out U14.out.rb.bel
      clear U13 A13
      obtain ⟨V14, hV⟩ : ∃ V', V13.alloc (.cells #[.int .u8 0, .int .u8 0] 5) = V' := ⟨_, rfl⟩
      obtain ⟨b14, hb⟩ : ∃ b', V13.heap.size = b' := ⟨_, rfl⟩
      rw [hV] at U14 A14
      rw [hb] at U14
      rw [hV, hb]
      clear hV hb
      refine hK _ _ A14.out (fun hHeld => ?_)
      try simp only [List.getElem_toArray, List.getElem_cons_zero, List.getElem_cons_succ, Act.put, List.setIfInBounds_toArray, List.set_cons_zero, List.set_cons_succ]
      refine wpAnyH_ready (rs := [6]) (by kernel_rfl) (by simp) ?_
      refine AllReadyH.cons (o := _) rfl (fun K hK => ?_) AllReadyH.nil
      refine step_append_ur (w1 := W2) Try.underlying22 info5 rfl (.tmp 135) (.tmp 136) rfl _ 16 (be (sp) 2 ++ be (dp) 2 ++ be (sq) 4 ++ be (ak) 4 ++ be ((5 + q) * 4096 + fl) 2 ++ be (wi) 2) rfl U14.out _ 2 2 ([0, 0]) rfl U14.out.zr.bs (by omega) (by omega) ?_
      intro a15 c15 V15 u
      have U15 : Hid (UR (some b14) W2 V15 (.slice a15 18 c15) 18 (be (sp) 2 ++ be (dp) 2 ++ be (sq) 4 ++ be (ak) 4 ++ be ((5 + q) * 4096 + fl) 2 ++ be (wi) 2 ++ [0, 0])) := u
      have A15 : Hid (AtB V15 w.heap.size #[.int .i64 3, .int .i64 ty, .int .i64 co, .int .u32 re, .int .i64 sp, .int .i64 dp, .bool ns, .int .u32 sq, .int .u32 ak, .int .i64 fl, .int .i64 wi, .int .i64 ur, .string (strOfNums os), .string (strOfNums ds)]) := AtB.below AA.out u.rb.bel
      clear u U14 A14
      refine hK _ _ A15.out (fun hHeld => ?_)
      try simp only [List.getElem_toArray, List.getElem_cons_zero, List.getElem_cons_succ, Act.put, List.setIfInBounds_toArray, List.set_cons_zero, List.set_cons_succ]
      refine wpAnyH_ready (rs := [9]) (by kernel_rfl) (by simp) ?_
      refine AllReadyH.cons (o := _) rfl (fun K hK => ?_) AllReadyH.nil
      go_simp
      refine (two_next U15.out ur (by omega)).mono ?_
      rintro e V16 ⟨a140_16, rfl, u, b⟩
      have U16 : Hid (UR (some b14) W2 V16 (.slice a15 18 c15) 18 (be (sp) 2 ++ be (dp) 2 ++ be (sq) 4 ++ be (ak) 4 ++ be ((5 + q) * 4096 + fl) 2 ++ be (wi) 2 ++ [0, 0])) := u
      have B16 : Hid (BS V16 a140_16 2 (be ur 2)) := b
      have A16 : Hid (AtB V16 w.heap.size #[.int .i64 3, .int .i64 ty, .int .i64 co, .int .u32 re, .int .i64 sp, .int .i64 dp, .bool ns, .int .u32 sq, .int .u32 ak, .int .i64 fl, .int .i64 wi, .int .i64 ur, .string (strOfNums os), .string (strOfNums ds)]) := AtB.below AA.out u.rb.bel
      clear u b U15
      clear A15
      refine hK _ _ A16.out (fun hHeld => ?_)
      try simp only [List.getElem_toArray, List.getElem_cons_zero, List.getElem_cons_succ, Act.put, List.setIfInBounds_toArray, List.set_cons_zero, List.set_cons_succ]
      refine wpAnyH_ready (rs := [10]) (by kernel_rfl) (by simp) ?_
      refine AllReadyH.cons (o := _) rfl (fun K hK => ?_) AllReadyH.nil
      refine step_append_ur (w1 := W2) Try.underlying22 info5 rfl (.tmp 137) (.tmp 140) rfl _ 18 (be (sp) 2 ++ be (dp) 2 ++ be (sq) 4 ++ be (ak) 4 ++ be ((5 + q) * 4096 + fl) 2 ++ be (wi) 2 ++ [0, 0]) rfl U16.out _ 2 2 (be (ur) 2) rfl B16.out (by omega) (by omega) ?_
      intro a17 c17 V17 u
      have U17 : Hid (UR (some b14) W2 V17 (.slice a17 20 c17) 20 (be (sp) 2 ++ be (dp) 2 ++ be (sq) 4 ++ be (ak) 4 ++ be ((5 + q) * 4096 + fl) 2 ++ be (wi) 2 ++ [0, 0] ++ be (ur) 2)) := u
      have A17 : Hid (AtB V17 w.heap.size #[.int .i64 3, .int .i64 ty, .int .i64 co, .int .u32 re, .int .i64 sp, .int .i64 dp, .bool ns, .int .u32 sq, .int .u32 ak, .int .i64 fl, .int .i64 wi, .int .i64 ur, .string (strOfNums os), .string (strOfNums ds)]) := AtB.below AA.out u.rb.bel
      clear u U16 A16 B16
      refine hK _ _ A17.out (fun hHeld => ?_)
      try simp only [List.getElem_toArray, List.getElem_cons_zero, List.getElem_cons_succ, Act.put, List.setIfInBounds_toArray, List.set_cons_zero, List.set_cons_succ]
      refine wpAnyH_ready (rs := [11]) (by kernel_rfl) (by simp) ?_
      refine AllReadyH.cons (o := _) rfl (fun K hK => ?_) AllReadyH.nil
      go_simp
      refine hK _ _ A17.out (fun hHeld => ?_)
      refine wpAnyH_done (by kernel_rfl) ?_ _
      try simp only [List.getElem_toArray, List.getElem_cons_zero, List.getElem_cons_succ, Act.put, List.setIfInBounds_toArray, List.set_cons_zero, List.set_cons_succ]
      obtain ⟨x0, x1, x2, x3, x4, x5, x6, x7, x8, x9, x10, x11, x12, x13⟩ := AtB.cells14 A17.out
      go_wp2_with fail
      clear x0 x1 x2 x3 x4 x5 x6 x7 x8 x9 x10 x11 x12 x13
      refine wp_region_held_drew (S := (fun W => AtB W w.heap.size #[.int .i64 3, .int .i64 ty, .int .i64 co, .int .u32 re, .int .i64 sp, .int .i64 dp, .bool ns, .int .u32 sq, .int .u32 ak, .int .i64 fl, .int .i64 wi, .int .i64 ur, .string (strOfNums os), .string (strOfNums ds)])) (by kernel_rfl) A17.out (fun hHeld => ?_)
      have Ur18 : Hid (UR (some b14) W2 V17.drew (.slice a17 20 c17) 20 (be (sp) 2 ++ be (dp) 2 ++ be (sq) 4 ++ be (ak) 4 ++ be ((5 + q) * 4096 + fl) 2 ++ be (wi) 2 ++ [0, 0] ++ be (ur) 2)) := U17.out.drew
      have Ar18 : Hid (AtB V17.drew w.heap.size #[.int .i64 3, .int .i64 ty, .int .i64 co, .int .u32 re, .int .i64 sp, .int .i64 dp, .bool ns, .int .u32 sq, .int .u32 ak, .int .i64 fl, .int .i64 wi, .int .i64 ur, .string (strOfNums os), .string (strOfNums ds)]) := A17.out
      obtain ⟨Vr18, hV⟩ : ∃ V', V17.drew = V' := ⟨_, rfl⟩
      rw [hV] at Ur18 Ar18 hHeld ⊢
      clear hV U17 A17
      refine wpAnyH_take (i := 0) (v := ?_) rfl (by kernel_rfl) (by kernel_rfl) (by kernel_rfl) (fun _ _ _ h => h) (Or.inl ⟨by rfl, ?_⟩) (by assumption) ?_
      rotate_left
      · (intro w hSw; (try dsimp only at hSw); go_simp; try with_reducible rfl)
      try simp only [List.getElem_toArray, List.getElem_cons_zero, List.getElem_cons_succ, Act.put, List.setIfInBounds_toArray, List.set_cons_zero, List.set_cons_succ]
      refine wpAnyH_take (i := 1) (v := ?_) rfl (by kernel_rfl) (by kernel_rfl) (by kernel_rfl) (fun _ _ _ h => h) (Or.inl ⟨by rfl, ?_⟩) (by assumption) ?_
      rotate_left
      · (intro w hSw; (try dsimp only at hSw); go_simp; try with_reducible rfl)
      try simp only [List.getElem_toArray, List.getElem_cons_zero, List.getElem_cons_succ, Act.put, List.setIfInBounds_toArray, List.set_cons_zero, List.set_cons_succ]
      refine wpAnyH_take (i := 2) (v := .string (strOfNums os)) rfl (by kernel_rfl) (by kernel_rfl) (by kernel_rfl) (fun _ _ _ h => h) (Or.inl ⟨by rfl, fun W hW => by obtain ⟨x0, x1, x2, x3, x4, x5, x6, x7, x8, x9, x10, x11, x12, x13⟩ := AtB.cells14 hW; go_simp⟩) (by assumption) ?_
      try simp only [List.getElem_toArray, List.getElem_cons_zero, List.getElem_cons_succ, Act.put, List.setIfInBounds_toArray, List.set_cons_zero, List.set_cons_succ]
      refine wpAnyH_take (i := 4) (v := ?_) rfl (by kernel_rfl) (by kernel_rfl) (by kernel_rfl) (fun _ _ _ h => h) (Or.inl ⟨by rfl, ?_⟩) (by assumption) ?_
      rotate_left
      · (intro w hSw; (try dsimp only at hSw); go_simp; try with_reducible rfl)
      try simp only [List.getElem_toArray, List.getElem_cons_zero, List.getElem_cons_succ, Act.put, List.setIfInBounds_toArray, List.set_cons_zero, List.set_cons_succ]
      refine wpAnyH_take (i := 5) (v := .string (strOfNums ds)) rfl (by kernel_rfl) (by kernel_rfl) (by kernel_rfl) (fun _ _ _ h => h) (Or.inl ⟨by rfl, fun W hW => by obtain ⟨x0, x1, x2, x3, x4, x5, x6, x7, x8, x9, x10, x11, x12, x13⟩ := AtB.cells14 hW; go_simp⟩) (by assumption) ?_
      try simp only [List.getElem_toArray, List.getElem_cons_zero, List.getElem_cons_succ, Act.put, List.setIfInBounds_toArray, List.set_cons_zero, List.set_cons_succ]
      refine wpAnyH_ready (rs := [3]) (by kernel_rfl) (by simp) ?_
      refine AllReadyH.cons (o := _) rfl (fun K hK => ?_) AllReadyH.nil
      refine step_append_str (w1 := W2) rfl (.tmp 142) (.tmp 144) 9 rfl i0 Try.underlying22 Try.underlying9 hi hz0 hz1 hz2 _ (20) (be (sp) 2 ++ be (dp) 2 ++ be (sq) 4 ++ be (ak) 4 ++ be ((5 + q) * 4096 + fl) 2 ++ be (wi) 2 ++ [0, 0] ++ be (ur) 2) rfl Ur18.out os hfos rfl (by omega) (by omega) ?_
      intro a19 c19 V19 u
      have U19 : Hid (UR (some b14) W2 V19 (.slice a19 (20 + os.length) c19) (20 + os.length) (be (sp) 2 ++ be (dp) 2 ++ be (sq) 4 ++ be (ak) 4 ++ be ((5 + q) * 4096 + fl) 2 ++ be (wi) 2 ++ [0, 0] ++ be (ur) 2 ++ os)) := u
      have A19 : Hid (AtB V19 w.heap.size #[.int .i64 3, .int .i64 ty, .int .i64 co, .int .u32 re, .int .i64 sp, .int .i64 dp, .bool ns, .int .u32 sq, .int .u32 ak, .int .i64 fl, .int .i64 wi, .int .i64 ur, .string (strOfNums os), .string (strOfNums ds)]) := AtB.below AA.out u.rb.bel
      clear u Ur18 Ar18
      refine hK _ _ A19.out (fun hHeld => ?_)
      try simp only [List.getElem_toArray, List.getElem_cons_zero, List.getElem_cons_succ, Act.put, List.setIfInBounds_toArray, List.set_cons_zero, List.set_cons_succ]
      refine wpAnyH_ready (rs := [6]) (by kernel_rfl) (by simp) ?_
      refine AllReadyH.cons (o := _) rfl (fun K hK => ?_) AllReadyH.nil
      refine step_append_str (w1 := W2) rfl (.tmp 145) (.tmp 147) 9 rfl i0 Try.underlying22 Try.underlying9 hi hz0 hz1 hz2 _ (20 + os.length) (be (sp) 2 ++ be (dp) 2 ++ be (sq) 4 ++ be (ak) 4 ++ be ((5 + q) * 4096 + fl) 2 ++ be (wi) 2 ++ [0, 0] ++ be (ur) 2 ++ os) rfl U19.out ds hfds rfl (by omega) (by omega) ?_
      intro a20 c20 V20 u
      have U20 : Hid (UR (some b14) W2 V20 (.slice a20 (20 + os.length + ds.length) c20) (20 + os.length + ds.length) (be (sp) 2 ++ be (dp) 2 ++ be (sq) 4 ++ be (ak) 4 ++ be ((5 + q) * 4096 + fl) 2 ++ be (wi) 2 ++ [0, 0] ++ be (ur) 2 ++ os ++ ds)) := u
      have A20 : Hid (AtB V20 w.heap.size #[.int .i64 3, .int .i64 ty, .int .i64 co, .int .u32 re, .int .i64 sp, .int .i64 dp, .bool ns, .int .u32 sq, .int .u32 ak, .int .i64 fl, .int .i64 wi, .int .i64 ur, .string (strOfNums os), .string (strOfNums ds)]) := AtB.below AA.out u.rb.bel
      clear u U19 A19
      refine hK _ _ A20.out (fun hHeld => ?_)
      try simp only [List.getElem_toArray, List.getElem_cons_zero, List.getElem_cons_succ, Act.put, List.setIfInBounds_toArray, List.set_cons_zero, List.set_cons_succ]
      refine wpAnyH_ready (rs := [7]) (by kernel_rfl) (by simp) ?_
      refine AllReadyH.cons (o := _) rfl (fun K hK => ?_) AllReadyH.nil
      go_simp
      refine hK _ _ A20.out (fun hHeld => ?_)
      refine wpAnyH_done (by kernel_rfl) ?_ _
      try simp only [List.getElem_toArray, List.getElem_cons_zero, List.getElem_cons_succ, Act.put, List.setIfInBounds_toArray, List.set_cons_zero, List.set_cons_succ]
      have own5 := U20.out.rb.own
      have B5 : Hid (Below W2.heap.size W2 V20) := U20.out.rb.bel
      obtain ⟨g, e5, hg1, hg2⟩ := own_some own5 (by omega)
      have hcc := own_caps own5
      rw [e5] at own5 ⊢
      have E5 : Hid (EncS W2 V20 g (20 + os.length + ds.length) c20 LL) := by
        show EncS W2 V20 g (20 + os.length + ds.length) c20 LL
        rw [← HLL.out]
        exact ⟨own5, B5.out, fits_append (fits_append (fits_append (fits_append (fits_append (fits_append (fits_append (fits_append (fits_append (be_bd _ _) (be_bd _ _)) (be_bd _ _)) (be_bd _ _)) (be_bd _ _)) (be_bd _ _)) (fits_two (by omega) (by omega))) (be_bd _ _)) hfos) hfds, by omega⟩
      have A5 : Hid (AtB V20 w.heap.size #[.int .i64 3, .int .i64 ty, .int .i64 co, .int .u32 re, .int .i64 sp, .int .i64 dp, .bool ns, .int .u32 sq, .int .u32 ak, .int .i64 fl, .int .i64 wi, .int .i64 ur, .string (strOfNums os), .string (strOfNums ds)]) := A20.out
      clear own5 U20 A20 AA e5
      have hLl : (LL).length = 20 + os.length + ds.length := by have := E5.out.own.1; simpa using this
      obtain ⟨Pv, hP⟩ : ∃ p, psd src dst 6 ((20 + os.length + ds.length : Nat) : Int) = p := ⟨_, rfl⟩
      obtain ⟨Fv, hF⟩ : ∃ f, fld (wsum (LL)) = f := ⟨_, rfl⟩
      obtain ⟨Sm, hA⟩ : ∃ f, fld (Pv + Fv) = f := ⟨_, rfl⟩
      have hp1 := psd_bd src dst 6 ((20 + os.length + ds.length : Nat) : Int) hs.1 ht.1
      have hp2 := fld_bd (wsum (LL)) (wsum_bd E5.out.fits)
      rw [hP] at hp1
      rw [hF] at hp2
      have hp3 := fld_bd (Pv + Fv) (by omega)
      rw [hA] at hp3
      have HS : Hid (sumV src dst 3 (LL) = Sm) := by
        show _ = _
        unfold sumV
        rw [if_neg (by omega), hLl, show protoN 3 = 6 from rfl, hP, hF, hA]
      have HP : Hid (psd src dst 6 ((20 + os.length + ds.length : Nat) : Int) = Pv) := hP
      have HF : Hid (fld (wsum (LL)) = Fv) := hF
      have HA : Hid (fld (Pv + Fv) = Sm) := hA
      clear hP hF hA hLl
      obtain ⟨x0, x1, x2, x3, x4, x5, x6, x7, x8, x9, x10, x11, x12, x13⟩ := AtB.cells14 A5.out
      go_wp2_with fail
      clear x0 x1 x2 x3 x4 x5 x6 x7 x8 x9 x10 x11 x12 x13
      refine (rpseudo_any _ src dst 6 ((20 + os.length + ds.length : Nat) : Int) hs ht).mono ?_
      rintro e w' ⟨rfl, hw'⟩
      rw [hw', HP.out]
      clear hw' HP
      go_wp2_with fail
      refine (rsum_any _ E5.out.bs).mono ?_
      rintro e w' ⟨rfl, hw'⟩
      rw [hw', HF.out]
      clear hw' HF
      go_wp2_with fail
      refine (radd_any _ _ hp1.1 hp1.2 hp2.1 hp2.2 _).mono ?_
      rintro e w' ⟨rfl, hw'⟩
      rw [hw', HA.out]
      clear hw' HA hp1 hp2
      have k2 := E5.out.cell 16 (by omega)
      have k3 := E5.out.cell 17 (by omega)
      have f2 := E5.out.own.frozenAt 16
      have f3 := E5.out.own.frozenAt 17
      have hN2 : (16 : Int) < 20 + (os.length : Int) + (ds.length : Int) := by omega
      have hN3 : (17 : Int) < 20 + (os.length : Int) + (ds.length : Int) := by omega
      obtain ⟨cc, rfl⟩ : ∃ cc, Sm = 65535 - cc := ⟨65535 - Sm, by omega⟩
      have hcb : 0 ≤ cc ∧ cc ≤ 65535 := by omega
      have hc0 : 65535 - (65535 - cc) = cc := by omega
      clear hp3

      have t1 : (cc : Int).tdiv 256 = cc / 256 := Int.tdiv_eq_ediv_of_nonneg hcb.1
      have t2 : (cc : Int).tmod 256 = cc % 256 := Int.tmod_eq_emod_of_nonneg hcb.1
      have t3 : IntKind.u8.wrap (cc / 256) = cc / 256 := by rw [IntKind.wrap_u8]; omega
      have t4 : IntKind.u8.wrap (cc % 256) = cc % 256 := by rw [IntKind.wrap_u8]; omega
      have t5 : IntKind.u16.wrap (cc / 256) = cc / 256 := by rw [IntKind.wrap_u16]; omega

      have E6 : Hid _ := (E5.out.set 16 (cc / 256) (by omega)).set 17 (cc % 256) (by omega)
      have HC : Hid (chkC src dst 3 (LL) = cc) := by
        show _ = _
        unfold chkC
        rw [HS.out, if_neg (by omega)]
        omega
      go_wp2
      go_ret2
      refine ⟨some ⟨g, 0, none⟩, c20, rfl, ?_, E6.out.fr BB.out.size, BB.out.trans (E6.out.bel.mono BB.out.size)⟩
      unfold setC
      rw [HC.out]
      exact E6.out.bs
    · go_simp
      have U21 : Hid (UR (some V12.heap.size) W2 (V12.alloc (.cells #[.int .u8 0, .int .u8 0] 5)) (.slice a10 14 c10) 14 (be (sp) 2 ++ be (dp) 2 ++ be (sq) 4 ++ be (ak) 4 ++ be ((5 + q) * 4096 + fl) 2)) := U12.out.build
      have B21 : Hid (BS (V12.alloc (.cells #[.int .u8 0, .int .u8 0] 5)) a134_12 2 (be (wi) 2)) := B12.out.below (below1 _ _)
      have A21 : Hid (AtB (V12.alloc (.cells #[.int .u8 0, .int .u8 0] 5)) w.heap.size #[.int .i64 3, .int .i64 ty, .int .i64 co, .int .u32 re, .int .i64 sp, .int .i64 dp, .bool ns, .int .u32 sq, .int .u32 ak, .int .i64 fl, .int .i64 wi, .int .i64 ur, .string (strOfNums os), .string (strOfNums ds)]) := AtB.below AA.out U21.out.rb.bel
      clear U12 B12 A12
      obtain ⟨V21, hV⟩ : ∃ V', V12.alloc (.cells #[.int .u8 0, .int .u8 0] 5) = V' := ⟨_, rfl⟩
      obtain ⟨b21, hb⟩ : ∃ b', V12.heap.size = b' := ⟨_, rfl⟩
      rw [hV] at U21 B21 A21
      rw [hb] at U21
      rw [hV, hb]
      clear hV hb
      refine hK _ _ A21.out (fun hHeld => ?_)
      try simp only [List.getElem_toArray, List.getElem_cons_zero, List.getElem_cons_succ, Act.put, List.setIfInBounds_toArray, List.set_cons_zero, List.set_cons_succ]
      refine wpAnyH_ready (rs := [4]) (by kernel_rfl) (by simp) ?_
      refine AllReadyH.cons (o := _) rfl (fun K hK => ?_) AllReadyH.nil
      refine step_append_ur (w1 := W2) Try.underlying22 info5 rfl (.tmp 131) (.tmp 134) rfl _ 14 (be (sp) 2 ++ be (dp) 2 ++ be (sq) 4 ++ be (ak) 4 ++ be ((5 + q) * 4096 + fl) 2) rfl U21.out _ 2 2 (be (wi) 2) rfl B21.out (by omega) (by omega) ?_
      intro a22 c22 V22 u
      have U22 : Hid (UR (some b21) W2 V22 (.slice a22 16 c22) 16 (be (sp) 2 ++ be (dp) 2 ++ be (sq) 4 ++ be (ak) 4 ++ be ((5 + q) * 4096 + fl) 2 ++ be (wi) 2)) := u
      have A22 : Hid (AtB V22 w.heap.size #[.int .i64 3, .int .i64 ty, .int .i64 co, .int .u32 re, .int .i64 sp, .int .i64 dp, .bool ns, .int .u32 sq, .int .u32 ak, .int .i64 fl, .int .i64 wi, .int .i64 ur, .string (strOfNums os), .string (strOfNums ds)]) := AtB.below AA.out u.rb.bel
      clear u U21 A21 B21
      refine hK _ _ A22.out (fun hHeld => ?_)
      try simp only [List.getElem_toArray, List.getElem_cons_zero, List.getElem_cons_succ, Act.put, List.setIfInBounds_toArray, List.set_cons_zero, List.set_cons_succ]
      refine wpAnyH_ready (rs := [6]) (by kernel_rfl) (by simp) ?_
      refine AllReadyH.cons (o := _) rfl (fun K hK => ?_) AllReadyH.nil
      refine step_append_ur (w1 := W2) Try.underlying22 info5 rfl (.tmp 135) (.tmp 136) rfl _ 16 (be (sp) 2 ++ be (dp) 2 ++ be (sq) 4 ++ be (ak) 4 ++ be ((5 + q) * 4096 + fl) 2 ++ be (wi) 2) rfl U22.out _ 2 2 ([0, 0]) rfl U22.out.zr.bs (by omega) (by omega) ?_
      intro a23 c23 V23 u
      have U23 : Hid (UR (some b21) W2 V23 (.slice a23 18 c23) 18 (be (sp) 2 ++ be (dp) 2 ++ be (sq) 4 ++ be (ak) 4 ++ be ((5 + q) * 4096 + fl) 2 ++ be (wi) 2 ++ [0, 0])) := u
      have A23 : Hid (AtB V23 w.heap.size #[.int .i64 3, .int .i64 ty, .int .i64 co, .int .u32 re, .int .i64 sp, .int .i64 dp, .bool ns, .int .u32 sq, .int .u32 ak, .int .i64 fl, .int .i64 wi, .int .i64 ur, .string (strOfNums os), .string (strOfNums ds)]) := AtB.below AA.out u.rb.bel
      clear u U22 A22
      refine hK _ _ A23.out (fun hHeld => ?_)
      try simp only [List.getElem_toArray, List.getElem_cons_zero, List.getElem_cons_succ, Act.put, List.setIfInBounds_toArray, List.set_cons_zero, List.set_cons_succ]
      refine wpAnyH_ready (rs := [9]) (by kernel_rfl) (by simp) ?_
      refine AllReadyH.cons (o := _) rfl (fun K hK => ?_) AllReadyH.nil
      go_simp
      refine (two_next U23.out ur (by omega)).mono ?_
      rintro e V24 ⟨a140_24, rfl, u, b⟩
      have U24 : Hid (UR (some b21) W2 V24 (.slice a23 18 c23) 18 (be (sp) 2 ++ be (dp) 2 ++ be (sq) 4 ++ be (ak) 4 ++ be ((5 + q) * 4096 + fl) 2 ++ be (wi) 2 ++ [0, 0])) := u
      have B24 : Hid (BS V24 a140_24 2 (be ur 2)) := b
      have A24 : Hid (AtB V24 w.heap.size #[.int .i64 3, .int .i64 ty, .int .i64 co, .int .u32 re, .int .i64 sp, .int .i64 dp, .bool ns, .int .u32 sq, .int .u32 ak, .int .i64 fl, .int .i64 wi, .int .i64 ur, .string (strOfNums os), .string (strOfNums ds)]) := AtB.below AA.out u.rb.bel
      clear u b U23
      clear A23
      refine hK _ _ A24.out (fun hHeld => ?_)
      try simp only [List.getElem_toArray, List.getElem_cons_zero, List.getElem_cons_succ, Act.put, List.setIfInBounds_toArray, List.set_cons_zero, List.set_cons_succ]
      refine wpAnyH_ready (rs := [10]) (by kernel_rfl) (by simp) ?_
      refine AllReadyH.cons (o := _) rfl (fun K hK => ?_) AllReadyH.nil
      refine step_append_ur (w1 := W2) Try.underlying22 info5 rfl (.tmp 137) (.tmp 140) rfl _ 18 (be (sp) 2 ++ be (dp) 2 ++ be (sq) 4 ++ be (ak) 4 ++ be ((5 + q) * 4096 + fl) 2 ++ be (wi) 2 ++ [0, 0]) rfl U24.out _ 2 2 (be (ur) 2) rfl B24.out (by omega) (by omega) ?_
      intro a25 c25 V25 u
      have U25 : Hid (UR (some b21) W2 V25 (.slice a25 20 c25) 20 (be (sp) 2 ++ be (dp) 2 ++ be (sq) 4 ++ be (ak) 4 ++ be ((5 + q) * 4096 + fl) 2 ++ be (wi) 2 ++ [0, 0] ++ be (ur) 2)) := u
      have A25 : Hid (AtB V25 w.heap.size #[.int .i64 3, .int .i64 ty, .int .i64 co, .int .u32 re, .int .i64 sp, .int .i64 dp, .bool ns, .int .u32 sq, .int .u32 ak, .int .i64 fl, .int .i64 wi, .int .i64 ur, .string (strOfNums os), .string (strOfNums ds)]) := AtB.below AA.out u.rb.bel
      clear u U24 A24 B24
      refine hK _ _ A25.out (fun hHeld => ?_)
      try simp only [List.getElem_toArray, List.getElem_cons_zero, List.getElem_cons_succ, Act.put, List.setIfInBounds_toArray, List.set_cons_zero, List.set_cons_succ]
      refine wpAnyH_ready (rs := [11]) (by kernel_rfl) (by simp) ?_
      refine AllReadyH.cons (o := _) rfl (fun K hK => ?_) AllReadyH.nil
      go_simp
      refine hK _ _ A25.out (fun hHeld => ?_)
      refine wpAnyH_done (by kernel_rfl) ?_ _
      try simp only [List.getElem_toArray, List.getElem_cons_zero, List.getElem_cons_succ, Act.put, List.setIfInBounds_toArray, List.set_cons_zero, List.set_cons_succ]
      obtain ⟨x0, x1, x2, x3, x4, x5, x6, x7, x8, x9, x10, x11, x12, x13⟩ := AtB.cells14 A25.out
      go_wp2_with fail
      clear x0 x1 x2 x3 x4 x5 x6 x7 x8 x9 x10 x11 x12 x13
      refine wp_region_held_drew (S := (fun W => AtB W w.heap.size #[.int .i64 3, .int .i64 ty, .int .i64 co, .int .u32 re, .int .i64 sp, .int .i64 dp, .bool ns, .int .u32 sq, .int .u32 ak, .int .i64 fl, .int .i64 wi, .int .i64 ur, .string (strOfNums os), .string (strOfNums ds)])) (by kernel_rfl) A25.out (fun hHeld => ?_)
      have Ur26 : Hid (UR (some b21) W2 V25.drew (.slice a25 20 c25) 20 (be (sp) 2 ++ be (dp) 2 ++ be (sq) 4 ++ be (ak) 4 ++ be ((5 + q) * 4096 + fl) 2 ++ be (wi) 2 ++ [0, 0] ++ be (ur) 2)) := U25.out.drew
      have Ar26 : Hid (AtB V25.drew w.heap.size #[.int .i64 3, .int .i64 ty, .int .i64 co, .int .u32 re, .int .i64 sp, .int .i64 dp, .bool ns, .int .u32 sq, .int .u32 ak, .int .i64 fl, .int .i64 wi, .int .i64 ur, .string (strOfNums os), .string (strOfNums ds)]) := A25.out
      obtain ⟨Vr26, hV⟩ : ∃ V', V25.drew = V' := ⟨_, rfl⟩
      rw [hV] at Ur26 Ar26 hHeld ⊢
      clear hV U25 A25
      refine wpAnyH_take (i := 0) (v := ?_) rfl (by kernel_rfl) (by kernel_rfl) (by kernel_rfl) (fun _ _ _ h => h) (Or.inl ⟨by rfl, ?_⟩) (by assumption) ?_
      rotate_left
      · (intro w hSw; (try dsimp only at hSw); go_simp; try with_reducible rfl)
      try simp only [List.getElem_toArray, List.getElem_cons_zero, List.getElem_cons_succ, Act.put, List.setIfInBounds_toArray, List.set_cons_zero, List.set_cons_succ]
      refine wpAnyH_take (i := 1) (v := ?_) rfl (by kernel_rfl) (by kernel_rfl) (by kernel_rfl) (fun _ _ _ h => h) (Or.inl ⟨by rfl, ?_⟩) (by assumption) ?_
      rotate_left
      · (intro w hSw; (try dsimp only at hSw); go_simp; try with_reducible rfl)
      try simp only [List.getElem_toArray, List.getElem_cons_zero, List.getElem_cons_succ, Act.put, List.setIfInBounds_toArray, List.set_cons_zero, List.set_cons_succ]
      refine wpAnyH_take (i := 2) (v := .string (strOfNums os)) rfl (by kernel_rfl) (by kernel_rfl) (by kernel_rfl) (fun _ _ _ h => h) (Or.inl ⟨by rfl, fun W hW => by obtain ⟨x0, x1, x2, x3, x4, x5, x6, x7, x8, x9, x10, x11, x12, x13⟩ := AtB.cells14 hW; go_simp⟩) (by assumption) ?_
      try simp only [List.getElem_toArray, List.getElem_cons_zero, List.getElem_cons_succ, Act.put, List.setIfInBounds_toArray, List.set_cons_zero, List.set_cons_succ]
      refine wpAnyH_take (i := 4) (v := ?_) rfl (by kernel_rfl) (by kernel_rfl) (by kernel_rfl) (fun _ _ _ h => h) (Or.inl ⟨by rfl, ?_⟩) (by assumption) ?_
      rotate_left
      · (intro w hSw; (try dsimp only at hSw); go_simp; try with_reducible rfl)
      try simp only [List.getElem_toArray, List.getElem_cons_zero, List.getElem_cons_succ, Act.put, List.setIfInBounds_toArray, List.set_cons_zero, List.set_cons_succ]
      refine wpAnyH_take (i := 5) (v := .string (strOfNums ds)) rfl (by kernel_rfl) (by kernel_rfl) (by kernel_rfl) (fun _ _ _ h => h) (Or.inl ⟨by rfl, fun W hW => by obtain ⟨x0, x1, x2, x3, x4, x5, x6, x7, x8, x9, x10, x11, x12, x13⟩ := AtB.cells14 hW; go_simp⟩) (by assumption) ?_
      try simp only [List.getElem_toArray, List.getElem_cons_zero, List.getElem_cons_succ, Act.put, List.setIfInBounds_toArray, List.set_cons_zero, List.set_cons_succ]
      refine wpAnyH_ready (rs := [3]) (by kernel_rfl) (by simp) ?_
      refine AllReadyH.cons (o := _) rfl (fun K hK => ?_) AllReadyH.nil
      refine step_append_str (w1 := W2) rfl (.tmp 142) (.tmp 144) 9 rfl i0 Try.underlying22 Try.underlying9 hi hz0 hz1 hz2 _ (20) (be (sp) 2 ++ be (dp) 2 ++ be (sq) 4 ++ be (ak) 4 ++ be ((5 + q) * 4096 + fl) 2 ++ be (wi) 2 ++ [0, 0] ++ be (ur) 2) rfl Ur26.out os hfos rfl (by omega) (by omega) ?_
      intro a27 c27 V27 u
      have U27 : Hid (UR (some b21) W2 V27 (.slice a27 (20 + os.length) c27) (20 + os.length) (be (sp) 2 ++ be (dp) 2 ++ be (sq) 4 ++ be (ak) 4 ++ be ((5 + q) * 4096 + fl) 2 ++ be (wi) 2 ++ [0, 0] ++ be (ur) 2 ++ os)) := u
      have A27 : Hid (AtB V27 w.heap.size #[.int .i64 3, .int .i64 ty, .int .i64 co, .int .u32 re, .int .i64 sp, .int .i64 dp, .bool ns, .int .u32 sq, .int .u32 ak, .int .i64 fl, .int .i64 wi, .int .i64 ur, .string (strOfNums os), .string (strOfNums ds)]) := AtB.below AA.out u.rb.bel
      clear u Ur26 Ar26
      refine hK _ _ A27.out (fun hHeld => ?_)
      try simp only [List.getElem_toArray, List.getElem_cons_zero, List.getElem_cons_succ, Act.put, List.setIfInBounds_toArray, List.set_cons_zero, List.set_cons_succ]
      refine wpAnyH_ready (rs := [6]) (by kernel_rfl) (by simp) ?_
      refine AllReadyH.cons (o := _) rfl (fun K hK => ?_) AllReadyH.nil
      refine step_append_str (w1 := W2) rfl (.tmp 145) (.tmp 147) 9 rfl i0 Try.underlying22 Try.underlying9 hi hz0 hz1 hz2 _ (20 + os.length) (be (sp) 2 ++ be (dp) 2 ++ be (sq) 4 ++ be (ak) 4 ++ be ((5 + q) * 4096 + fl) 2 ++ be (wi) 2 ++ [0, 0] ++ be (ur) 2 ++ os) rfl U27.out ds hfds rfl (by omega) (by omega) ?_
      intro a28 c28 V28 u
      have U28 : Hid (UR (some b21) W2 V28 (.slice a28 (20 + os.length + ds.length) c28) (20 + os.length + ds.length) (be (sp) 2 ++ be (dp) 2 ++ be (sq) 4 ++ be (ak) 4 ++ be ((5 + q) * 4096 + fl) 2 ++ be (wi) 2 ++ [0, 0] ++ be (ur) 2 ++ os ++ ds)) := u
      have A28 : Hid (AtB V28 w.heap.size #[.int .i64 3, .int .i64 ty, .int .i64 co, .int .u32 re, .int .i64 sp, .int .i64 dp, .bool ns, .int .u32 sq, .int .u32 ak, .int .i64 fl, .int .i64 wi, .int .i64 ur, .string (strOfNums os), .string (strOfNums ds)]) := AtB.below AA.out u.rb.bel
      clear u U27 A27
      refine hK _ _ A28.out (fun hHeld => ?_)
      try simp only [List.getElem_toArray, List.getElem_cons_zero, List.getElem_cons_succ, Act.put, List.setIfInBounds_toArray, List.set_cons_zero, List.set_cons_succ]
      refine wpAnyH_ready (rs := [7]) (by kernel_rfl) (by simp) ?_
      refine AllReadyH.cons (o := _) rfl (fun K hK => ?_) AllReadyH.nil
      go_simp
      refine hK _ _ A28.out (fun hHeld => ?_)
      refine wpAnyH_done (by kernel_rfl) ?_ _
      try simp only [List.getElem_toArray, List.getElem_cons_zero, List.getElem_cons_succ, Act.put, List.setIfInBounds_toArray, List.set_cons_zero, List.set_cons_succ]
      have own5 := U28.out.rb.own
      have B5 : Hid (Below W2.heap.size W2 V28) := U28.out.rb.bel
      obtain ⟨g, e5, hg1, hg2⟩ := own_some own5 (by omega)
      have hcc := own_caps own5
      rw [e5] at own5 ⊢
      have E5 : Hid (EncS W2 V28 g (20 + os.length + ds.length) c28 LL) := by
        show EncS W2 V28 g (20 + os.length + ds.length) c28 LL
        rw [← HLL.out]
        exact ⟨own5, B5.out, fits_append (fits_append (fits_append (fits_append (fits_append (fits_append (fits_append (fits_append (fits_append (be_bd _ _) (be_bd _ _)) (be_bd _ _)) (be_bd _ _)) (be_bd _ _)) (be_bd _ _)) (fits_two (by omega) (by omega))) (be_bd _ _)) hfos) hfds, by omega⟩
      have A5 : Hid (AtB V28 w.heap.size #[.int .i64 3, .int .i64 ty, .int .i64 co, .int .u32 re, .int .i64 sp, .int .i64 dp, .bool ns, .int .u32 sq, .int .u32 ak, .int .i64 fl, .int .i64 wi, .int .i64 ur, .string (strOfNums os), .string (strOfNums ds)]) := A28.out
      clear own5 U28 A28 AA e5
      have hLl : (LL).length = 20 + os.length + ds.length := by have := E5.out.own.1; simpa using this
      obtain ⟨Pv, hP⟩ : ∃ p, psd src dst 6 ((20 + os.length + ds.length : Nat) : Int) = p := ⟨_, rfl⟩
      obtain ⟨Fv, hF⟩ : ∃ f, fld (wsum (LL)) = f := ⟨_, rfl⟩
      obtain ⟨Sm, hA⟩ : ∃ f, fld (Pv + Fv) = f := ⟨_, rfl⟩
      have hp1 := psd_bd src dst 6 ((20 + os.length + ds.length : Nat) : Int) hs.1 ht.1
      have hp2 := fld_bd (wsum (LL)) (wsum_bd E5.out.fits)
      rw [hP] at hp1
      rw [hF] at hp2
      have hp3 := fld_bd (Pv + Fv) (by omega)
      rw [hA] at hp3
      have HS : Hid (sumV src dst 3 (LL) = Sm) := by
        show _ = _
        unfold sumV
        rw [if_neg (by omega), hLl, show protoN 3 = 6 from rfl, hP, hF, hA]
      have HP : Hid (psd src dst 6 ((20 + os.length + ds.length : Nat) : Int) = Pv) := hP
      have HF : Hid (fld (wsum (LL)) = Fv) := hF
      have HA : Hid (fld (Pv + Fv) = Sm) := hA
      clear hP hF hA hLl
      obtain ⟨x0, x1, x2, x3, x4, x5, x6, x7, x8, x9, x10, x11, x12, x13⟩ := AtB.cells14 A5.out
      go_wp2_with fail
      clear x0 x1 x2 x3 x4 x5 x6 x7 x8 x9 x10 x11 x12 x13
      refine (rpseudo_any _ src dst 6 ((20 + os.length + ds.length : Nat) : Int) hs ht).mono ?_
      rintro e w' ⟨rfl, hw'⟩
      rw [hw', HP.out]
      clear hw' HP
      go_wp2_with fail
      refine (rsum_any _ E5.out.bs).mono ?_
      rintro e w' ⟨rfl, hw'⟩
      rw [hw', HF.out]
      clear hw' HF
      go_wp2_with fail
      refine (radd_any _ _ hp1.1 hp1.2 hp2.1 hp2.2 _).mono ?_
      rintro e w' ⟨rfl, hw'⟩
      rw [hw', HA.out]
      clear hw' HA hp1 hp2
      have k2 := E5.out.cell 16 (by omega)
      have k3 := E5.out.cell 17 (by omega)
      have f2 := E5.out.own.frozenAt 16
      have f3 := E5.out.own.frozenAt 17
      have hN2 : (16 : Int) < 20 + (os.length : Int) + (ds.length : Int) := by omega
      have hN3 : (17 : Int) < 20 + (os.length : Int) + (ds.length : Int) := by omega
      obtain ⟨cc, rfl⟩ : ∃ cc, Sm = 65535 - cc := ⟨65535 - Sm, by omega⟩
      have hcb : 0 ≤ cc ∧ cc ≤ 65535 := by omega
      have hc0 : 65535 - (65535 - cc) = cc := by omega
      clear hp3

      have t1 : (cc : Int).tdiv 256 = cc / 256 := Int.tdiv_eq_ediv_of_nonneg hcb.1
      have t2 : (cc : Int).tmod 256 = cc % 256 := Int.tmod_eq_emod_of_nonneg hcb.1
      have t3 : IntKind.u8.wrap (cc / 256) = cc / 256 := by rw [IntKind.wrap_u8]; omega
      have t4 : IntKind.u8.wrap (cc % 256) = cc % 256 := by rw [IntKind.wrap_u8]; omega
      have t5 : IntKind.u16.wrap (cc / 256) = cc / 256 := by rw [IntKind.wrap_u16]; omega

      have E6 : Hid _ := (E5.out.set 16 (cc / 256) (by omega)).set 17 (cc % 256) (by omega)
      have HC : Hid (chkC src dst 3 (LL) = cc) := by
        show _ = _
        unfold chkC
        rw [HS.out, if_neg (by omega)]
        omega
      go_wp2
      go_ret2
      refine ⟨some ⟨g, 0, none⟩, c28, rfl, ?_, E6.out.fr BB.out.size, BB.out.trans (E6.out.bel.mono BB.out.size)⟩
      unfold setC
      rw [HC.out]
      exact E6.out.bs
  · go_simp
    have U29 : Hid (UR (some Vr11.heap.size) W2 (Vr11.alloc (.cells #[.int .u8 0, .int .u8 0] 5)) (.slice a10 14 c10) 14 (be (sp) 2 ++ be (dp) 2 ++ be (sq) 4 ++ be (ak) 4 ++ be ((5 + q) * 4096 + fl) 2)) := Ur11.out.build
    have A29 : Hid (AtB (Vr11.alloc (.cells #[.int .u8 0, .int .u8 0] 5)) w.heap.size #[.int .i64 3, .int .i64 ty, .int .i64 co, .int .u32 re, .int .i64 sp, .int .i64 dp, .bool ns, .int .u32 sq, .int .u32 ak, .int .i64 fl, .int .i64 wi, .int .i64 ur, .string (strOfNums os), .string (strOfNums ds)]) := AtB.below AA.out U29.out.rb.bel
    clear Ur11 Ar11
    obtain ⟨V29, hV⟩ : ∃ V', Vr11.alloc (.cells #[.int .u8 0, .int .u8 0] 5) = V' := ⟨_, rfl⟩
    obtain ⟨b29, hb⟩ : ∃ b', Vr11.heap.size = b' := ⟨_, rfl⟩
    rw [hV] at U29 A29
    rw [hb] at U29
    rw [hV, hb]
    clear hV hb
    refine hK _ _ A29.out (fun hHeld => ?_)
    try simp only [List.getElem_toArray, List.getElem_cons_zero, List.getElem_cons_succ, Act.put, List.setIfInBounds_toArray, List.set_cons_zero, List.set_cons_succ]
    refine wpAnyH_ready (rs := [3]) (by kernel_rfl) (by simp) ?_
    refine AllReadyH.cons (o := _) rfl (fun K hK => ?_) AllReadyH.nil
    go_simp
    refine (two_next U29.out wi (by omega)).mono ?_
    rintro e V30 ⟨a134_30, rfl, u, b⟩
    have U30 : Hid (UR (some b29) W2 V30 (.slice a10 14 c10) 14 (be (sp) 2 ++ be (dp) 2 ++ be (sq) 4 ++ be (ak) 4 ++ be ((5 + q) * 4096 + fl) 2)) := u
    have B30 : Hid (BS V30 a134_30 2 (be wi 2)) := b
    have A30 : Hid (AtB V30 w.heap.size #[.int .i64 3, .int .i64 ty, .int .i64 co, .int .u32 re, .int .i64 sp, .int .i64 dp, .bool ns, .int .u32 sq, .int .u32 ak, .int .i64 fl, .int .i64 wi, .int .i64 ur, .string (strOfNums os), .string (strOfNums ds)]) := AtB.below AA.out u.rb.bel
    clear u b U29
    clear A29
    refine hK _ _ A30.out (fun hHeld => ?_)
    try simp only [List.getElem_toArray, List.getElem_cons_zero, List.getElem_cons_succ, Act.put, List.setIfInBounds_toArray, List.set_cons_zero, List.set_cons_succ]
    refine wpAnyH_ready (rs := [4]) (by kernel_rfl) (by simp) ?_
    refine AllReadyH.cons (o := _) rfl (fun K hK => ?_) AllReadyH.nil
    refine step_append_ur (w1 := W2) Try.underlying22 info5 rfl (.tmp 131) (.tmp 134) rfl _ 14 (be (sp) 2 ++ be (dp) 2 ++ be (sq) 4 ++ be (ak) 4 ++ be ((5 + q) * 4096 + fl) 2) rfl U30.out _ 2 2 (be (wi) 2) rfl B30.out (by omega) (by omega) ?_
    intro a31 c31 V31 u
    have U31 : Hid (UR (some b29) W2 V31 (.slice a31 16 c31) 16 (be (sp) 2 ++ be (dp) 2 ++ be (sq) 4 ++ be (ak) 4 ++ be ((5 + q) * 4096 + fl) 2 ++ be (wi) 2)) := u
    have A31 : Hid (AtB V31 w.heap.size #[.int .i64 3, .int .i64 ty, .int .i64 co, .int .u32 re, .int .i64 sp, .int .i64 dp, .bool ns, .int .u32 sq, .int .u32 ak, .int .i64 fl, .int .i64 wi, .int .i64 ur, .string (strOfNums os), .string (strOfNums ds)]) := AtB.below AA.out u.rb.bel
    clear u U30 A30 B30
    refine hK _ _ A31.out (fun hHeld => ?_)
    try simp only [List.getElem_toArray, List.getElem_cons_zero, List.getElem_cons_succ, Act.put, List.setIfInBounds_toArray, List.set_cons_zero, List.set_cons_succ]
    refine wpAnyH_ready (rs := [6]) (by kernel_rfl) (by simp) ?_
    refine AllReadyH.cons (o := _) rfl (fun K hK => ?_) AllReadyH.nil
    refine step_append_ur (w1 := W2) Try.underlying22 info5 rfl (.tmp 135) (.tmp 136) rfl _ 16 (be (sp) 2 ++ be (dp) 2 ++ be (sq) 4 ++ be (ak) 4 ++ be ((5 + q) * 4096 + fl) 2 ++ be (wi) 2) rfl U31.out _ 2 2 ([0, 0]) rfl U31.out.zr.bs (by omega) (by omega) ?_
    intro a32 c32 V32 u
    have U32 : Hid (UR (some b29) W2 V32 (.slice a32 18 c32) 18 (be (sp) 2 ++ be (dp) 2 ++ be (sq) 4 ++ be (ak) 4 ++ be ((5 + q) * 4096 + fl) 2 ++ be (wi) 2 ++ [0, 0])) := u
    have A32 : Hid (AtB V32 w.heap.size #[.int .i64 3, .int .i64 ty, .int .i64 co, .int .u32 re, .int .i64 sp, .int .i64 dp, .bool ns, .int .u32 sq, .int .u32 ak, .int .i64 fl, .int .i64 wi, .int .i64 ur, .string (strOfNums os), .string (strOfNums ds)]) := AtB.below AA.out u.rb.bel
    clear u U31 A31
    refine hK _ _ A32.out (fun hHeld => ?_)
    try simp only [List.getElem_toArray, List.getElem_cons_zero, List.getElem_cons_succ, Act.put, List.setIfInBounds_toArray, List.set_cons_zero, List.set_cons_succ]
    refine wpAnyH_ready (rs := [9]) (by kernel_rfl) (by simp) ?_
    refine AllReadyH.cons (o := _) rfl (fun K hK => ?_) AllReadyH.nil
    go_simp
    refine (two_next U32.out ur (by omega)).mono ?_
    rintro e V33 ⟨a140_33, rfl, u, b⟩
    have U33 : Hid (UR (some b29) W2 V33 (.slice a32 18 c32) 18 (be (sp) 2 ++ be (dp) 2 ++ be (sq) 4 ++ be (ak) 4 ++ be ((5 + q) * 4096 + fl) 2 ++ be (wi) 2 ++ [0, 0])) := u
    have B33 : Hid (BS V33 a140_33 2 (be ur 2)) := b
    have A33 : Hid (AtB V33 w.heap.size #[.int .i64 3, .int .i64 ty, .int .i64 co, .int .u32 re, .int .i64 sp, .int .i64 dp, .bool ns, .int .u32 sq, .int .u32 ak, .int .i64 fl, .int .i64 wi, .int .i64 ur, .string (strOfNums os), .string (strOfNums ds)]) := AtB.below AA.out u.rb.bel
    clear u b U32
    clear A32
    refine hK _ _ A33.out (fun hHeld => ?_)
    try simp only [List.getElem_toArray, List.getElem_cons_zero, List.getElem_cons_succ, Act.put, List.setIfInBounds_toArray, List.set_cons_zero, List.set_cons_succ]
    refine wpAnyH_ready (rs := [10]) (by kernel_rfl) (by simp) ?_
    refine AllReadyH.cons (o := _) rfl (fun K hK => ?_) AllReadyH.nil
    refine step_append_ur (w1 := W2) Try.underlying22 info5 rfl (.tmp 137) (.tmp 140) rfl _ 18 (be (sp) 2 ++ be (dp) 2 ++ be (sq) 4 ++ be (ak) 4 ++ be ((5 + q) * 4096 + fl) 2 ++ be (wi) 2 ++ [0, 0]) rfl U33.out _ 2 2 (be (ur) 2) rfl B33.out (by omega) (by omega) ?_
    intro a34 c34 V34 u
    have U34 : Hid (UR (some b29) W2 V34 (.slice a34 20 c34) 20 (be (sp) 2 ++ be (dp) 2 ++ be (sq) 4 ++ be (ak) 4 ++ be ((5 + q) * 4096 + fl) 2 ++ be (wi) 2 ++ [0, 0] ++ be (ur) 2)) := u
    have A34 : Hid (AtB V34 w.heap.size #[.int .i64 3, .int .i64 ty, .int .i64 co, .int .u32 re, .int .i64 sp, .int .i64 dp, .bool ns, .int .u32 sq, .int .u32 ak, .int .i64 fl, .int .i64 wi, .int .i64 ur, .string (strOfNums os), .string (strOfNums ds)]) := AtB.below AA.out u.rb.bel
    clear u U33 A33 B33
    refine hK _ _ A34.out (fun hHeld => ?_)
    try simp only [List.getElem_toArray, List.getElem_cons_zero, List.getElem_cons_succ, Act.put, List.setIfInBounds_toArray, List.set_cons_zero, List.set_cons_succ]
    refine wpAnyH_ready (rs := [11]) (by kernel_rfl) (by simp) ?_
    refine AllReadyH.cons (o := _) rfl (fun K hK => ?_) AllReadyH.nil
    go_simp
    refine hK _ _ A34.out (fun hHeld => ?_)
    refine wpAnyH_done (by kernel_rfl) ?_ _
    try simp only [List.getElem_toArray, List.getElem_cons_zero, List.getElem_cons_succ, Act.put, List.setIfInBounds_toArray, List.set_cons_zero, List.set_cons_succ]
    obtain ⟨x0, x1, x2, x3, x4, x5, x6, x7, x8, x9, x10, x11, x12, x13⟩ := AtB.cells14 A34.out
    go_wp2_with fail
    clear x0 x1 x2 x3 x4 x5 x6 x7 x8 x9 x10 x11 x12 x13
    refine wp_region_held_drew (S := (fun W => AtB W w.heap.size #[.int .i64 3, .int .i64 ty, .int .i64 co, .int .u32 re, .int .i64 sp, .int .i64 dp, .bool ns, .int .u32 sq, .int .u32 ak, .int .i64 fl, .int .i64 wi, .int .i64 ur, .string (strOfNums os), .string (strOfNums ds)])) (by kernel_rfl) A34.out (fun hHeld => ?_)
    have Ur35 : Hid (UR (some b29) W2 V34.drew (.slice a34 20 c34) 20 (be (sp) 2 ++ be (dp) 2 ++ be (sq) 4 ++ be (ak) 4 ++ be ((5 + q) * 4096 + fl) 2 ++ be (wi) 2 ++ [0, 0] ++ be (ur) 2)) := U34.out.drew
    have Ar35 : Hid (AtB V34.drew w.heap.size #[.int .i64 3, .int .i64 ty, .int .i64 co, .int .u32 re, .int .i64 sp, .int .i64 dp, .bool ns, .int .u32 sq, .int .u32 ak, .int .i64 fl, .int .i64 wi, .int .i64 ur, .string (strOfNums os), .string (strOfNums ds)]) := A34.out
    obtain ⟨Vr35, hV⟩ : ∃ V', V34.drew = V' := ⟨_, rfl⟩
    rw [hV] at Ur35 Ar35 hHeld ⊢
    clear hV U34 A34
    refine wpAnyH_take (i := 0) (v := ?_) rfl (by kernel_rfl) (by kernel_rfl) (by kernel_rfl) (fun _ _ _ h => h) (Or.inl ⟨by rfl, ?_⟩) (by assumption) ?_
    rotate_left
    · (intro w hSw; (try dsimp only at hSw); go_simp; try with_reducible rfl)
    try simp only [List.getElem_toArray, List.getElem_cons_zero, List.getElem_cons_succ, Act.put, List.setIfInBounds_toArray, List.set_cons_zero, List.set_cons_succ]
    refine wpAnyH_take (i := 1) (v := ?_) rfl (by kernel_rfl) (by kernel_rfl) (by kernel_rfl) (fun _ _ _ h => h) (Or.inl ⟨by rfl, ?_⟩) (by assumption) ?_
    rotate_left
    · (intro w hSw; (try dsimp only at hSw); go_simp; try with_reducible rfl)
    try simp only [List.getElem_toArray, List.getElem_cons_zero, List.getElem_cons_succ, Act.put, List.setIfInBounds_toArray, List.set_cons_zero, List.set_cons_succ]
    refine wpAnyH_take (i := 2) (v := .string (strOfNums os)) rfl (by kernel_rfl) (by kernel_rfl) (by kernel_rfl) (fun _ _ _ h => h) (Or.inl ⟨by rfl, fun W hW => by obtain ⟨x0, x1, x2, x3, x4, x5, x6, x7, x8, x9, x10, x11, x12, x13⟩ := AtB.cells14 hW; go_simp⟩) (by assumption) ?_
    try simp only [List.getElem_toArray, List.getElem_cons_zero, List.getElem_cons_succ, Act.put, List.setIfInBounds_toArray, List.set_cons_zero, List.set_cons_succ]
    refine wpAnyH_take (i := 4) (v := ?_) rfl (by kernel_rfl) (by kernel_rfl) (by kernel_rfl) (fun _ _ _ h => h) (Or.inl ⟨by rfl, ?_⟩) (by assumption) ?_
    rotate_left
    · (intro w hSw; (try dsimp only at hSw); go_simp; try with_reducible rfl)
    try simp only [List.getElem_toArray, List.getElem_cons_zero, List.getElem_cons_succ, Act.put, List.setIfInBounds_toArray, List.set_cons_zero, List.set_cons_succ]
    refine wpAnyH_take (i := 5) (v := .string (strOfNums ds)) rfl (by kernel_rfl) (by kernel_rfl) (by kernel_rfl) (fun _ _ _ h => h) (Or.inl ⟨by rfl, fun W hW => by obtain ⟨x0, x1, x2, x3, x4, x5, x6, x7, x8, x9, x10, x11, x12, x13⟩ := AtB.cells14 hW; go_simp⟩) (by assumption) ?_
    try simp only [List.getElem_toArray, List.getElem_cons_zero, List.getElem_cons_succ, Act.put, List.setIfInBounds_toArray, List.set_cons_zero, List.set_cons_succ]
    refine wpAnyH_ready (rs := [3]) (by kernel_rfl) (by simp) ?_
    refine AllReadyH.cons (o := _) rfl (fun K hK => ?_) AllReadyH.nil
    refine step_append_str (w1 := W2) rfl (.tmp 142) (.tmp 144) 9 rfl i0 Try.underlying22 Try.underlying9 hi hz0 hz1 hz2 _ (20) (be (sp) 2 ++ be (dp) 2 ++ be (sq) 4 ++ be (ak) 4 ++ be ((5 + q) * 4096 + fl) 2 ++ be (wi) 2 ++ [0, 0] ++ be (ur) 2) rfl Ur35.out os hfos rfl (by omega) (by omega) ?_
    intro a36 c36 V36 u
    have U36 : Hid (UR (some b29) W2 V36 (.slice a36 (20 + os.length) c36) (20 + os.length) (be (sp) 2 ++ be (dp) 2 ++ be (sq) 4 ++ be (ak) 4 ++ be ((5 + q) * 4096 + fl) 2 ++ be (wi) 2 ++ [0, 0] ++ be (ur) 2 ++ os)) := u
    have A36 : Hid (AtB V36 w.heap.size #[.int .i64 3, .int .i64 ty, .int .i64 co, .int .u32 re, .int .i64 sp, .int .i64 dp, .bool ns, .int .u32 sq, .int .u32 ak, .int .i64 fl, .int .i64 wi, .int .i64 ur, .string (strOfNums os), .string (strOfNums ds)]) := AtB.below AA.out u.rb.bel
    clear u Ur35 Ar35
    refine hK _ _ A36.out (fun hHeld => ?_)
    try simp only [List.getElem_toArray, List.getElem_cons_zero, List.getElem_cons_succ, Act.put, List.setIfInBounds_toArray, List.set_cons_zero, List.set_cons_succ]
    refine wpAnyH_ready (rs := [6]) (by kernel_rfl) (by simp) ?_
    refine AllReadyH.cons (o := _) rfl (fun K hK => ?_) AllReadyH.nil
    refine step_append_str (w1 := W2) rfl (.tmp 145) (.tmp 147) 9 rfl i0 Try.underlying22 Try.underlying9 hi hz0 hz1 hz2 _ (20 + os.length) (be (sp) 2 ++ be (dp) 2 ++ be (sq) 4 ++ be (ak) 4 ++ be ((5 + q) * 4096 + fl) 2 ++ be (wi) 2 ++ [0, 0] ++ be (ur) 2 ++ os) rfl U36.out ds hfds rfl (by omega) (by omega) ?_
    intro a37 c37 V37 u
    have U37 : Hid (UR (some b29) W2 V37 (.slice a37 (20 + os.length + ds.length) c37) (20 + os.length + ds.length) (be (sp) 2 ++ be (dp) 2 ++ be (sq) 4 ++ be (ak) 4 ++ be ((5 + q) * 4096 + fl) 2 ++ be (wi) 2 ++ [0, 0] ++ be (ur) 2 ++ os ++ ds)) := u
    have A37 : Hid (AtB V37 w.heap.size #[.int .i64 3, .int .i64 ty, .int .i64 co, .int .u32 re, .int .i64 sp, .int .i64 dp, .bool ns, .int .u32 sq, .int .u32 ak, .int .i64 fl, .int .i64 wi, .int .i64 ur, .string (strOfNums os), .string (strOfNums ds)]) := AtB.below AA.out u.rb.bel
    clear u U36 A36
    refine hK _ _ A37.out (fun hHeld => ?_)
    try simp only [List.getElem_toArray, List.getElem_cons_zero, List.getElem_cons_succ, Act.put, List.setIfInBounds_toArray, List.set_cons_zero, List.set_cons_succ]
    refine wpAnyH_ready (rs := [7]) (by kernel_rfl) (by simp) ?_
    refine AllReadyH.cons (o := _) rfl (fun K hK => ?_) AllReadyH.nil
    go_simp
    refine hK _ _ A37.out (fun hHeld => ?_)
    refine wpAnyH_done (by kernel_rfl) ?_ _
    try simp only [List.getElem_toArray, List.getElem_cons_zero, List.getElem_cons_succ, Act.put, List.setIfInBounds_toArray, List.set_cons_zero, List.set_cons_succ]
    have own5 := U37.out.rb.own
    have B5 : Hid (Below W2.heap.size W2 V37) := U37.out.rb.bel
    obtain ⟨g, e5, hg1, hg2⟩ := own_some own5 (by omega)
    have hcc := own_caps own5
    rw [e5] at own5 ⊢
    have E5 : Hid (EncS W2 V37 g (20 + os.length + ds.length) c37 LL) := by
      show EncS W2 V37 g (20 + os.length + ds.length) c37 LL
      rw [← HLL.out]
      exact ⟨own5, B5.out, fits_append (fits_append (fits_append (fits_append (fits_append (fits_append (fits_append (fits_append (fits_append (be_bd _ _) (be_bd _ _)) (be_bd _ _)) (be_bd _ _)) (be_bd _ _)) (be_bd _ _)) (fits_two (by omega) (by omega))) (be_bd _ _)) hfos) hfds, by omega⟩
    have A5 : Hid (AtB V37 w.heap.size #[.int .i64 3, .int .i64 ty, .int .i64 co, .int .u32 re, .int .i64 sp, .int .i64 dp, .bool ns, .int .u32 sq, .int .u32 ak, .int .i64 fl, .int .i64 wi, .int .i64 ur, .string (strOfNums os), .string (strOfNums ds)]) := A37.out
    clear own5 U37 A37 AA e5
    have hLl : (LL).length = 20 + os.length + ds.length := by have := E5.out.own.1; simpa using this
    obtain ⟨Pv, hP⟩ : ∃ p, psd src dst 6 ((20 + os.length + ds.length : Nat) : Int) = p := ⟨_, rfl⟩
    obtain ⟨Fv, hF⟩ : ∃ f, fld (wsum (LL)) = f := ⟨_, rfl⟩
    obtain ⟨Sm, hA⟩ : ∃ f, fld (Pv + Fv) = f := ⟨_, rfl⟩
    have hp1 := psd_bd src dst 6 ((20 + os.length + ds.length : Nat) : Int) hs.1 ht.1
    have hp2 := fld_bd (wsum (LL)) (wsum_bd E5.out.fits)
    rw [hP] at hp1
    rw [hF] at hp2
    have hp3 := fld_bd (Pv + Fv) (by omega)
    rw [hA] at hp3
    have HS : Hid (sumV src dst 3 (LL) = Sm) := by
      show _ = _
      unfold sumV
      rw [if_neg (by omega), hLl, show protoN 3 = 6 from rfl, hP, hF, hA]
    have HP : Hid (psd src dst 6 ((20 + os.length + ds.length : Nat) : Int) = Pv) := hP
    have HF : Hid (fld (wsum (LL)) = Fv) := hF
    have HA : Hid (fld (Pv + Fv) = Sm) := hA
    clear hP hF hA hLl
    obtain ⟨x0, x1, x2, x3, x4, x5, x6, x7, x8, x9, x10, x11, x12, x13⟩ := AtB.cells14 A5.out
    go_wp2_with fail
    clear x0 x1 x2 x3 x4 x5 x6 x7 x8 x9 x10 x11 x12 x13
    refine (rpseudo_any _ src dst 6 ((20 + os.length + ds.length : Nat) : Int) hs ht).mono ?_
    rintro e w' ⟨rfl, hw'⟩
    rw [hw', HP.out]
    clear hw' HP
    go_wp2_with fail
    refine (rsum_any _ E5.out.bs).mono ?_
    rintro e w' ⟨rfl, hw'⟩
    rw [hw', HF.out]
    clear hw' HF
    go_wp2_with fail
    refine (radd_any _ _ hp1.1 hp1.2 hp2.1 hp2.2 _).mono ?_
    rintro e w' ⟨rfl, hw'⟩
    rw [hw', HA.out]
    clear hw' HA hp1 hp2
    have k2 := E5.out.cell 16 (by omega)
    have k3 := E5.out.cell 17 (by omega)
    have f2 := E5.out.own.frozenAt 16
    have f3 := E5.out.own.frozenAt 17
    have hN2 : (16 : Int) < 20 + (os.length : Int) + (ds.length : Int) := by omega
    have hN3 : (17 : Int) < 20 + (os.length : Int) + (ds.length : Int) := by omega
    obtain ⟨cc, rfl⟩ : ∃ cc, Sm = 65535 - cc := ⟨65535 - Sm, by omega⟩
    have hcb : 0 ≤ cc ∧ cc ≤ 65535 := by omega
    have hc0 : 65535 - (65535 - cc) = cc := by omega
    clear hp3

    have t1 : (cc : Int).tdiv 256 = cc / 256 := Int.tdiv_eq_ediv_of_nonneg hcb.1
    have t2 : (cc : Int).tmod 256 = cc % 256 := Int.tmod_eq_emod_of_nonneg hcb.1
    have t3 : IntKind.u8.wrap (cc / 256) = cc / 256 := by rw [IntKind.wrap_u8]; omega
    have t4 : IntKind.u8.wrap (cc % 256) = cc % 256 := by rw [IntKind.wrap_u8]; omega
    have t5 : IntKind.u16.wrap (cc / 256) = cc / 256 := by rw [IntKind.wrap_u16]; omega

    have E6 : Hid _ := (E5.out.set 16 (cc / 256) (by omega)).set 17 (cc % 256) (by omega)
    have HC : Hid (chkC src dst 3 (LL) = cc) := by
      show _ = _
      unfold chkC
      rw [HS.out, if_neg (by omega)]
      omega
    go_wp2
    go_ret2
    refine ⟨some ⟨g, 0, none⟩, c37, rfl, ?_, E6.out.fr BB.out.size, BB.out.trans (E6.out.bel.mono BB.out.size)⟩
    unfold setC
    rw [HC.out]
    exact E6.out.bs
end Go.Proofs.Ytpiokeidcnbmbaa

namespace Go.Proofs.Ytpiokeidcnbmbaa
open Go.RowKit
set_option linter.unusedSimpArgs false
theorem wpList_conv {P : Program} {w w' : World} {ops : Array Oper} {rest : List Oper} {o : Oper} {act : Act} {Q : Exit → Act → World → Prop} (hgd : o.guard = none) (x : Operand) (s d : TypeId) (ho : o.op = .convert s d x)
    (v r : Value) (hx : act.eval x = v) (hr : (convert s d v).run P w = .ok r w') (h : wpList P ops Q rest (act.put o.dst r) w') : wpList P ops Q (o :: rest) act w := by
  have hw : Region.wanted o (yielded ops act.tmps) = true := by simp [Region.wanted, hgd]
  refine BigFrame.wpList_want hw fun K hK => ?_
  unfold Oper.wp execOp
  simp only [ho, hx, hr, Sem.run_bind, Sem.run_pure, Result.andThen_ok]
  exact hK _ _ h
theorem bytesWorld_bel (w : World) (e : TypeId) (s : ByteArray) : Below w.heap.size w (Lib.bytesWorld w e s) :=
  ⟨by rfl, by rfl, by rfl, by rw [Lib.bytesWorld_size]; omega, fun k hk => Lib.bytesWorld_at_old w e s k hk⟩
theorem bytesWorld_bs (w : World) (e : TypeId) (ds : List Int) (hf : ∀ i, 0 ≤ ds.getD i 0 ∧ ds.getD i 0 ≤ 255) (hr : ds.length ≤ 140737488355328) : BS (Lib.bytesWorld w e (strOfNums ds)) (some ⟨w.heap.size, 0, none⟩) ds.length ds := by
  refine ⟨rfl, hf, hr, .inr ⟨w.heap.size, 0, rfl, fun i hi => ?_⟩⟩
  have h1 := Lib.bytesWorld_cell w e (strOfNums ds) i (by rw [strOfNums_size]; exact hi)
  rw [Nat.zero_add, h1]
  have h2 := strCells_nums hf
  unfold Lib.strCells at h2
  have h3 := congrArg (fun l => l[i]?) h2
  simp only [List.getElem?_map] at h3
  have h4 : (strOfNums ds).data.toList.length = ds.length := strOfNums_size ds
  rw [List.getElem?_eq_getElem (by omega), List.getElem?_eq_getElem hi] at h3
  simp only [Option.map_some, Option.some.injEq] at h3
  rw [List.getD_eq_getElem?_getD, List.getElem?_eq_getElem (by omega), List.getD_eq_getElem?_getD, List.getElem?_eq_getElem hi]
  simpa using h3
set_option maxRecDepth 20000 in
set_option maxHeartbeats 4000000 in
theorem renf_opaque (src dst : Int) (ty co re sp dp : Int) (ns : Bool) (sq ak fl wi ur : Int) (os ds : List Int) (hd : ds.length ≤ 65515) (hfd : ∀ i, 0 ≤ ds.getD i 0 ∧ ds.getD i 0 ≤ 255) (w : World)
    (HK : Hid (∀ W, Calls Try.prog 66 #[.agg #[.int .i64 0, .int .i64 ty, .int .i64 co, .int .u32 re, .int .i64 sp, .int .i64 dp, .bool ns, .int .u32 sq, .int .u32 ak, .int .i64 fl, .int .i64 wi, .int .i64 ur, .string (strOfNums os), .string (strOfNums ds)]] W fun e w' => e = .returned (.int .i64 0) ∧ Below W.heap.size W w')) :
    Calls Try.prog 34 #[.int .u32 src, .int .u32 dst, .agg #[.int .i64 0, .int .i64 ty, .int .i64 co, .int .u32 re, .int .i64 sp, .int .i64 dp, .bool ns, .int .u32 sq, .int .u32 ak, .int .i64 fl, .int .i64 wi, .int .i64 ur, .string (strOfNums os), .string (strOfNums ds)]] w fun e w' => ∃ a cap, e = .returned (.tuple #[.slice a ds.length cap, .int .i64 0]) ∧ BS w' a ds.length ds ∧ FrA w a ∧ Below w.heap.size w w' := by
  have hs2 := strOfNums_size ds
  go_enter Try.func34, Try.ntmps34
  go_wp2_with fail
  refine (HK.out _).mono ?_
  clear HK
  rintro e W1 ⟨rfl, hb1⟩
  have A1 : Hid (AtB W1 w.heap.size #[.int .i64 0, .int .i64 ty, .int .i64 co, .int .u32 re, .int .i64 sp, .int .i64 dp, .bool ns, .int .u32 sq, .int .u32 ak, .int .i64 fl, .int .i64 wi, .int .i64 ur, .string (strOfNums os), .string (strOfNums ds)]) := AtB.below (atB_new w #[.int .i64 0, .int .i64 ty, .int .i64 co, .int .u32 re, .int .i64 sp, .int .i64 dp, .bool ns, .int .u32 sq, .int .u32 ak, .int .i64 fl, .int .i64 wi, .int .i64 ur, .string (strOfNums os), .string (strOfNums ds)] 32 _ rfl) hb1
  have B1 : Hid (Below w.heap.size w W1) := (below1 w _).trans (hb1.mono (by simp))
  clear hb1
  obtain ⟨x0, x1, x2, x3, x4, x5, x6, x7, x8, x9, x10, x11, x12, x13⟩ := AtB.cells14 A1.out
  go_wp2_with fail
  rw [Lib.run_convert_string_bytes W1 9 22 5 (strOfNums ds) Try.underlying9 Try.underlying22 Try.underlying5]
  have hb := bytesWorld_bs W1 5 ds hfd (by omega)
  have hfr : w.heap.size ≤ W1.heap.size := B1.out.size
  have hl := bytesWorld_bel W1 5 (strOfNums ds)
  have hg := grownCap_ge W1 (strOfNums ds).size 0 5
  obtain ⟨W2, hW2⟩ : ∃ V, Lib.bytesWorld W1 5 (strOfNums ds) = V := ⟨_, rfl⟩
  obtain ⟨cp, hcp⟩ : ∃ c, grownCap W1 (strOfNums ds).size 0 5 = c := ⟨_, rfl⟩
  obtain ⟨hs, hhs⟩ : ∃ n, W1.heap.size = n := ⟨_, rfl⟩
  rw [hW2] at hb hl
  rw [hcp, hs2] at hg
  rw [hhs] at hb hfr
  rw [hW2, hcp, hs2, hhs]
  have HB : Hid (BS W2 (some ⟨hs, 0, none⟩) ds.length ds) := hb
  have HL : Hid (Below w.heap.size w W2) := B1.out.trans (hl.mono B1.out.size)
  clear hb hl hW2 hcp hhs x0 x1 x2 x3 x4 x5 x6 x7 x8 x9 x10 x11 x12 x13 A1 B1
  go_wp2
  go_ret2
  exact ⟨some ⟨hs, 0, none⟩, cp, rfl, HB.out, fun x hx => (by cases hx; exact hfr), HL.out⟩
end Go.Proofs.Ytpiokeidcnbmbaa

namespace Go.Proofs.Ytpiokeidcnbmbaa
open Go.RowKit
theorem be_one (x : Int) (h : 0 ≤ x ∧ x ≤ 255) : be x (1 : Int).toNat = [x] := by
  show be x 1 = [x]
  simp [be]
  omega
theorem be_zero2 : be 0 (2 : Int).toNat = [0, 0] := by decide +kernel
/-- Refused. -/
theorem renf_none (x : L4R) (hf : x.Fine) (hos : x.os.length ≤ 140737488355328) (hok : x.ok = false) (src dst : Int) (w : World) :
    Calls Try.prog 34 #[.int .u32 src, .int .u32 dst, x.v] w fun e w' => e = .returned (.tuple #[.slice none 0 0, .int .i64 1]) ∧ Below w.heap.size w w' := by
  have HK : Hid (∀ W, Calls Try.prog 66 #[x.v] W fun e w' => e = .returned (.int .i64 1) ∧ Below W.heap.size W w') := fun W => by
    have := rl4check_any x hf hos W
    rw [hok] at this
    exact this
  obtain ⟨k, ty, co, re, sp, dp, ns, sq, ak, fl, wi, ur, os, ds⟩ := x
  exact renc_no src dst k ty co re sp dp ns sq ak fl wi ur os ds w HK
/-- Encoded. -/
theorem renf_any (x : L4R) (hf : x.Fine) (hos : x.os.length ≤ 140737488355328) (hok : x.ok = true) (src dst : Int) (hs : 0 ≤ src ∧ src ≤ 4294967295) (ht : 0 ≤ dst ∧ dst ≤ 4294967295) (w : World) :
    Calls Try.prog 34 #[.int .u32 src, .int .u32 dst, x.v] w fun e w' => ∃ a cap, e = .returned (.tuple #[.slice a x.body.length cap, .int .i64 0]) ∧ BS w' a x.body.length (x.enc src dst) ∧ FrA w a ∧ Below w.heap.size w w' := by
  have o := L4R.okOf hok
  have HK : Hid (∀ W, Calls Try.prog 66 #[x.v] W fun e w' => e = .returned (.int .i64 0) ∧ Below W.heap.size W w') := fun W => by
    have := rl4check_any x hf hos W
    rw [hok] at this
    exact this
  have hbl := x.body_len
  have hall := o.all
  obtain ⟨k, ty, co, re, sp, dp, ns, sq, ak, fl, wi, ur, os, ds⟩ := x
  have fo : ∀ i, 0 ≤ os.getD i 0 ∧ os.getD i 0 ≤ 255 := hf.os
  have fd : ∀ i, 0 ≤ ds.getD i 0 ∧ ds.getD i 0 ≤ 255 := hf.ds
  have hty : 0 ≤ ty ∧ ty ≤ 255 := o.ty
  have hco : 0 ≤ co ∧ co ≤ 255 := o.co
  have hsp : 0 ≤ sp ∧ sp ≤ 65535 := o.sp
  have hdp : 0 ≤ dp ∧ dp ≤ 65535 := o.dp
  have hre : 0 ≤ re ∧ re ≤ 4294967295 := hf.re
  have hsq : 0 ≤ sq ∧ sq ≤ 4294967295 := hf.sq
  have hak : 0 ≤ ak ∧ ak ≤ 4294967295 := hf.ak
  have hfl : 0 ≤ fl ∧ fl ≤ 4095 := o.fl
  have hwi : 0 ≤ wi ∧ wi ≤ 65535 := o.wi
  have hur : 0 ≤ ur ∧ ur ≤ 65535 := o.ur
  have ho40 : os.length ≤ 40 := o.opts
  rcases o.kind with h | h | h | h
  · obtain ⟨h1, -, -, -, -, -, -, -, -, -, -, -, h2⟩ := h
    simp only at h1 h2
    subst h1 h2
    have hd : ds.length ≤ 65515 := by
      have : fixV 0 + (([] : List Int).length : Int) + ds.length ≤ 65515 := hall
      rw [show fixV 0 = 0 from rfl] at this
      simp at this; omega
    have hB : (L4R.mk 0 ty co re sp dp ns sq ak fl wi ur [] ds).body = ds := by
      show headL 0 ty co re sp dp sq ak fl wi ur 0 ds.length ++ [] ++ ds = ds
      rfl
    have hE : (L4R.mk 0 ty co re sp dp ns sq ak fl wi ur [] ds).enc src dst = ds := by
      unfold L4R.enc
      rw [if_pos (.inl rfl), hB]
    rw [hB, hE]
    refine (renf_opaque src dst ty co re sp dp ns sq ak fl wi ur [] ds hd fd w HK).mono ?_
    rintro e w' ⟨a, cap, rfl, hb, hq, hl⟩
    exact ⟨a, cap, rfl, hb, hq, hl⟩
  · obtain ⟨h1, -, -, h3, -, -, -, -, -, h2⟩ := h
    simp only at h1 h2 h3
    subst h1 h2 h3
    have hd : ds.length ≤ 65507 := by
      have : fixV 1 + (([] : List Int).length : Int) + ds.length ≤ 65515 := hall
      rw [show fixV 1 = 8 from rfl] at this
      simp at this; omega
    have hB : (L4R.mk 1 ty co re sp dp false sq ak fl wi ur [] ds).body = [ty, co, 0, 0] ++ be re 4 ++ ds := by
      show headL 1 ty co re sp dp sq ak fl wi ur 0 ds.length ++ [] ++ ds = _
      unfold headL
      rw [if_pos rfl, be_one ty hty, be_one co hco, be_zero2]
      simp
    have hE : (L4R.mk 1 ty co re sp dp false sq ak fl wi ur [] ds).enc src dst = setC src dst 1 ([ty, co, 0, 0] ++ be re 4 ++ ds) := by
      unfold L4R.enc
      rw [if_neg (by simp), hB]
    have hN : (L4R.mk 1 ty co re sp dp false sq ak fl wi ur [] ds).body.length = 8 + ds.length := by rw [hB]; simp [be_len]; omega
    rw [hN, hE]
    refine (renf_icmp src dst ty co re sp dp false sq ak fl wi ur [] ds hty hco hre hd fd w HK).mono ?_
    rintro e w' ⟨a, cap, rfl, hb, hq, hl⟩
    exact ⟨a, cap, rfl, hb, hq, hl⟩
  · obtain ⟨h1, -, -, -, -, -, -, -, -, h2⟩ := h
    simp only at h1 h2
    subst h1 h2
    have hd : ds.length ≤ 65507 := by
      have : fixV 2 + (([] : List Int).length : Int) + ds.length ≤ 65515 := hall
      rw [show fixV 2 = 8 from rfl] at this
      simp at this; omega
    have hB : (L4R.mk 2 ty co re sp dp ns sq ak fl wi ur [] ds).body = be sp 2 ++ be dp 2 ++ be (8 + (ds.length : Int)) 2 ++ [0, 0] ++ ds := by
      show headL 2 ty co re sp dp sq ak fl wi ur 0 ds.length ++ [] ++ ds = _
      unfold headL
      rw [if_neg (by omega), if_pos rfl, be_zero2, List.append_nil]
      rfl
    have hE : (L4R.mk 2 ty co re sp dp ns sq ak fl wi ur [] ds).enc src dst = if ns = true then be sp 2 ++ be dp 2 ++ be (8 + (ds.length : Int)) 2 ++ [0, 0] ++ ds else setC src dst 2 (be sp 2 ++ be dp 2 ++ be (8 + (ds.length : Int)) 2 ++ [0, 0] ++ ds) := by
      unfold L4R.enc
      rw [hB]
      cases ns
      · rw [if_neg (by simp), if_neg (by simp)]
      · rw [if_pos (.inr rfl), if_pos rfl]
    have hN : (L4R.mk 2 ty co re sp dp ns sq ak fl wi ur [] ds).body.length = 8 + ds.length := by rw [hB]; simp [be_len]; omega
    rw [hN, hE]
    refine (renf_udp src dst hs ht ty co re sp dp ns sq ak fl wi ur [] ds hsp hdp hd fd w HK).mono ?_
    rintro e w' ⟨a, cap, rfl, hb, hq, hl⟩
    exact ⟨a, cap, rfl, hb, hq.2, hl⟩
  · obtain ⟨h1, -, -, -, h3⟩ := h
    simp only at h1 h3
    subst h1 h3
    have hd : ds.length ≤ 65495 := by
      have : fixV 3 + (os.length : Int) + ds.length ≤ 65515 := hall
      rw [show fixV 3 = 20 from rfl] at this
      omega
    have hB : (L4R.mk 3 ty co re sp dp false sq ak fl wi ur os ds).body = be sp 2 ++ be dp 2 ++ be sq 4 ++ be ak 4 ++ be ((5 + (os.length : Int) / 4) * 4096 + fl) 2 ++ be wi 2 ++ [0, 0] ++ be ur 2 ++ os ++ ds := by
      show headL 3 ty co re sp dp sq ak fl wi ur os.length ds.length ++ os ++ ds = _
      unfold headL
      rw [if_neg (by omega), if_neg (by omega), if_pos rfl, be_zero2, show (20 + (os.length : Int)) / 4 = 5 + (os.length : Int) / 4 by omega]
      rfl
    have hE : (L4R.mk 3 ty co re sp dp false sq ak fl wi ur os ds).enc src dst = setC src dst 3 (be sp 2 ++ be dp 2 ++ be sq 4 ++ be ak 4 ++ be ((5 + (os.length : Int) / 4) * 4096 + fl) 2 ++ be wi 2 ++ [0, 0] ++ be ur 2 ++ os ++ ds) := by
      unfold L4R.enc
      rw [if_neg (by simp), hB]
    have hN : (L4R.mk 3 ty co re sp dp false sq ak fl wi ur os ds).body.length = 20 + os.length + ds.length := by rw [hB]; simp [be_len]; omega
    rw [hN, hE]
    refine (renf_tcp src dst hs ht ty co re sp dp false sq ak fl wi ur os ds hsp hdp hsq hak hfl hwi hur ho40 hd fo fd _ rfl w HK).mono ?_
    rintro e w' ⟨a, cap, rfl, hb, hq, hl⟩
    exact ⟨a, cap, rfl, hb, hq, hl⟩
end Go.Proofs.Ytpiokeidcnbmbaa
