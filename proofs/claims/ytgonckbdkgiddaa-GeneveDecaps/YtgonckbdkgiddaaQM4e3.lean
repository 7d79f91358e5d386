/- The document's Encode of UDP packets that may be. Conditions: as said. -/
import Derived.Test.YtgonckbdkgiddaaDM
namespace Go.Proofs.Ytgonckbdkgiddaa
open Go.RowKit Go.Lib
set_option linter.unusedSimpArgs false
set_option maxRecDepth 20000 in
set_option maxHeartbeats 16000000 in
theorem renf_udn (src dst : Int) (ty co re sp dp : Int) (ns : Bool) (hns : Hid (ns = true)) (sq ak fl wi ur : Int) (os ds : List Int) (h1 : 0 ≤ sp ∧ sp ≤ 65535) (h2 : 0 ≤ dp ∧ dp ≤ 65535) (hd : ds.length ≤ 65507) (hfd : ∀ i, 0 ≤ ds.getD i 0 ∧ ds.getD i 0 ≤ 255) (w : World)
    (HK : Hid (∀ W, Calls Try.prog 47 #[.agg #[.int .i64 2, .int .i64 ty, .int .i64 co, .int .u32 re, .int .i64 sp, .int .i64 dp, .bool ns, .int .u32 sq, .int .u32 ak, .int .i64 fl, .int .i64 wi, .int .i64 ur, .string (strOfNums os), .string (strOfNums ds)]] W fun e w' => e = .returned (.int .i64 0) ∧ Below W.heap.size W w')) :
    Calls Try.prog 22 #[.int .u32 src, .int .u32 dst, .agg #[.int .i64 2, .int .i64 ty, .int .i64 co, .int .u32 re, .int .i64 sp, .int .i64 dp, .bool ns, .int .u32 sq, .int .u32 ak, .int .i64 fl, .int .i64 wi, .int .i64 ur, .string (strOfNums os), .string (strOfNums ds)]] w fun e w' => ∃ a cap, e = .returned (.tuple #[.slice a (8 + ds.length) cap, .int .i64 0]) ∧ BS w' a (8 + ds.length) (if ns = true then be sp 2 ++ be dp 2 ++ be (8 + (ds.length : Int)) 2 ++ [0, 0] ++ ds else setC src dst 2 (be sp 2 ++ be dp 2 ++ be (8 + (ds.length : Int)) 2 ++ [0, 0] ++ ds)) ∧ (8 + ds.length ≤ cap ∧ FrA w a) ∧ Below w.heap.size w w' := by
  obtain ⟨i0, hi, hz0, hz1, hz2⟩ := info_parts info5
  have hs2 := strOfNums_size ds
  obtain ⟨LL, hLL⟩ : ∃ l, be sp 2 ++ be dp 2 ++ be (8 + (ds.length : Int)) 2 ++ [0, 0] ++ ds = l := ⟨_, rfl⟩
  rw [hLL]
  have HLL : Hid (be sp 2 ++ be dp 2 ++ be (8 + (ds.length : Int)) 2 ++ [0, 0] ++ ds = LL) := hLL
  clear hLL
  have hI2 : (ds.length : Int) ≤ 65507 := by omega
  have hw8 : IntKind.i64.wrap (8 + (ds.length : Int)) = 8 + (ds.length : Int) := by simp [IntKind.wrap, IntKind.bits, IntKind.signed]; omega
  go_enter Try.func22, Try.ntmps22
  go_wp2_with fail
  refine (HK.out _).mono ?_
  clear HK
  rintro e W1 ⟨rfl, hb1⟩
  have A1 : Hid (AtB W1 w.heap.size #[.int .i64 2, .int .i64 ty, .int .i64 co, .int .u32 re, .int .i64 sp, .int .i64 dp, .bool ns, .int .u32 sq, .int .u32 ak, .int .i64 fl, .int .i64 wi, .int .i64 ur, .string (strOfNums os), .string (strOfNums ds)]) := AtB.below (atB_new w #[.int .i64 2, .int .i64 ty, .int .i64 co, .int .u32 re, .int .i64 sp, .int .i64 dp, .bool ns, .int .u32 sq, .int .u32 ak, .int .i64 fl, .int .i64 wi, .int .i64 ur, .string (strOfNums os), .string (strOfNums ds)] 48 _ rfl) hb1
  have B1 : Hid (Below w.heap.size w W1) := (below1 w _).trans (hb1.mono (by simp))
  clear hb1
  obtain ⟨x0, x1, x2, x3, x4, x5, x6, x7, x8, x9, x10, x11, x12, x13⟩ := AtB.cells14 A1.out
  go_wp2_with fail
  clear x0 x1 x2 x3 x4 x5 x6 x7 x8 x9 x10 x11 x12 x13
  refine wp_region_held_drew (S := (fun W => AtB W w.heap.size #[.int .i64 2, .int .i64 ty, .int .i64 co, .int .u32 re, .int .i64 sp, .int .i64 dp, .bool ns, .int .u32 sq, .int .u32 ak, .int .i64 fl, .int .i64 wi, .int .i64 ur, .string (strOfNums os), .string (strOfNums ds)])) (by kernel_rfl) A1.out (fun hHeld => ?_)
  have AA : Hid (AtB W1.drew w.heap.size #[.int .i64 2, .int .i64 ty, .int .i64 co, .int .u32 re, .int .i64 sp, .int .i64 dp, .bool ns, .int .u32 sq, .int .u32 ak, .int .i64 fl, .int .i64 wi, .int .i64 ur, .string (strOfNums os), .string (strOfNums ds)]) := A1.out
  have BB : Hid (Below w.heap.size w W1.drew) := B1.out.drew
  obtain ⟨W2, hW2⟩ : ∃ W2, W1.drew = W2 := ⟨_, rfl⟩
  rw [hW2] at AA BB hHeld ⊢
  clear hW2 A1 B1
  have ZZ : Hid (Zr none W2 W2) := ⟨Below.refl _ _, fun b hb => by cases hb⟩
  refine wpAnyH_take (i := 0) (v := ?_) rfl (by kernel_rfl) (by kernel_rfl) (by kernel_rfl) (fun _ _ _ h => h) (Or.inl ⟨by rfl, ?_⟩) (by assumption) ?_
  rotate_left
  · (intro w hSw; (try dsimp only at hSw); go_simp; try with_reducible rfl)
  try simp only [List.getElem_toArray, List.getElem_cons_zero, List.getElem_cons_succ, Act.put, List.setIfInBounds_toArray, List.set_cons_zero, List.set_cons_succ]
  refine wpAnyH_take (i := 1) (v := .int .i64 sp) rfl (by kernel_rfl) (by kernel_rfl) (by kernel_rfl) (fun _ _ _ h => h) (Or.inl ⟨by rfl, fun W hW => by obtain ⟨x0, x1, x2, x3, x4, x5, x6, x7, x8, x9, x10, x11, x12, x13⟩ := AtB.cells14 hW; go_simp⟩) (by assumption) ?_
  try simp only [List.getElem_toArray, List.getElem_cons_zero, List.getElem_cons_succ, Act.put, List.setIfInBounds_toArray, List.set_cons_zero, List.set_cons_succ]
  refine wpAnyH_take (i := 3) (v := ?_) rfl (by kernel_rfl) (by kernel_rfl) (by kernel_rfl) (fun _ _ _ h => h) (Or.inl ⟨by rfl, ?_⟩) (by assumption) ?_
  rotate_left
  · (intro w hSw; (try dsimp only at hSw); go_simp; try with_reducible rfl)
  try simp only [List.getElem_toArray, List.getElem_cons_zero, List.getElem_cons_succ, Act.put, List.setIfInBounds_toArray, List.set_cons_zero, List.set_cons_succ]
  refine wpAnyH_take (i := 4) (v := .int .i64 dp) rfl (by kernel_rfl) (by kernel_rfl) (by kernel_rfl) (fun _ _ _ h => h) (Or.inl ⟨by rfl, fun W hW => by obtain ⟨x0, x1, x2, x3, x4, x5, x6, x7, x8, x9, x10, x11, x12, x13⟩ := AtB.cells14 hW; go_simp⟩) (by assumption) ?_
  try simp only [List.getElem_toArray, List.getElem_cons_zero, List.getElem_cons_succ, Act.put, List.setIfInBounds_toArray, List.set_cons_zero, List.set_cons_succ]
  refine wpAnyH_take (i := 7) (v := ?_) rfl (by kernel_rfl) (by kernel_rfl) (by kernel_rfl) (fun _ _ _ h => h) (Or.inl ⟨by rfl, ?_⟩) (by assumption) ?_
  rotate_left
  · (intro w hSw; (try dsimp only at hSw); go_simp; try with_reducible rfl)
  try simp only [List.getElem_toArray, List.getElem_cons_zero, List.getElem_cons_succ, Act.put, List.setIfInBounds_toArray, List.set_cons_zero, List.set_cons_succ]
  refine wpAnyH_take (i := 8) (v := .string (strOfNums ds)) rfl (by kernel_rfl) (by kernel_rfl) (by kernel_rfl) (fun _ _ _ h => h) (Or.inl ⟨by rfl, fun W hW => by obtain ⟨x0, x1, x2, x3, x4, x5, x6, x7, x8, x9, x10, x11, x12, x13⟩ := AtB.cells14 hW; go_simp⟩) (by assumption) ?_
  try simp only [List.getElem_toArray, List.getElem_cons_zero, List.getElem_cons_succ, Act.put, List.setIfInBounds_toArray, List.set_cons_zero, List.set_cons_succ]
  refine wpAnyH_take (i := 9) (v := .int .i64 (ds.length : Int)) rfl (by kernel_rfl) (by kernel_rfl) (by kernel_rfl) (fun _ _ _ h => h) (Or.inl ⟨by rfl, fun W hW => by go_simp⟩) (by assumption) ?_
  try simp only [List.getElem_toArray, List.getElem_cons_zero, List.getElem_cons_succ, Act.put, List.setIfInBounds_toArray, List.set_cons_zero, List.set_cons_succ]
  refine wpAnyH_take (i := 10) (v := .int .i64 (8 + (ds.length : Int))) rfl (by kernel_rfl) (by kernel_rfl) (by kernel_rfl) (fun _ _ _ h => h) (Or.inl ⟨by rfl, fun W hW => by go_simp⟩) (by assumption) ?_
  try simp only [List.getElem_toArray, List.getElem_cons_zero, List.getElem_cons_succ, Act.put, List.setIfInBounds_toArray, List.set_cons_zero, List.set_cons_succ]
  refine wpAnyH_ready (rs := [2, 13]) (by kernel_rfl) (by simp) ?_
  refine AllReadyH.cons (o := _) rfl (fun K hK => ?_) (AllReadyH.cons (o := _) rfl (fun K hK => ?_) AllReadyH.nil)
  · go_simp
    refine (two_first ZZ.out sp (by omega)).mono ?_
    rintro e V1 ⟨a57_1, rfl, u⟩
    have U1 : Hid (UR none W2 V1 (.slice a57_1 2 2) 2 (be sp 2)) := u
    have A1 : Hid (AtB V1 w.heap.size #[.int .i64 2, .int .i64 ty, .int .i64 co, .int .u32 re, .int .i64 sp, .int .i64 dp, .bool ns, .int .u32 sq, .int .u32 ak, .int .i64 fl, .int .i64 wi, .int .i64 ur, .string (strOfNums os), .string (strOfNums ds)]) := AtB.below AA.out u.rb.bel
    clear u ZZ
    refine hK _ _ A1.out (fun hHeld => ?_)
    try simp only [List.getElem_toArray, List.getElem_cons_zero, List.getElem_cons_succ, Act.put, List.setIfInBounds_toArray, List.set_cons_zero, List.set_cons_succ]
    refine wpAnyH_ready (rs := [5, 13]) (by kernel_rfl) (by simp) ?_
    refine AllReadyH.cons (o := _) rfl (fun K hK => ?_) (AllReadyH.cons (o := _) rfl (fun K hK => ?_) AllReadyH.nil)
    · go_simp
      refine (two_next U1.out dp (by omega)).mono ?_
      rintro e V2 ⟨a60_2, rfl, u, b⟩
      have U2 : Hid (UR none W2 V2 (.slice a57_1 2 2) 2 (be (sp) 2)) := u
      have B2 : Hid (BS V2 a60_2 2 (be dp 2)) := b
      have A2 : Hid (AtB V2 w.heap.size #[.int .i64 2, .int .i64 ty, .int .i64 co, .int .u32 re, .int .i64 sp, .int .i64 dp, .bool ns, .int .u32 sq, .int .u32 ak, .int .i64 fl, .int .i64 wi, .int .i64 ur, .string (strOfNums os), .string (strOfNums ds)]) := AtB.below AA.out u.rb.bel
      clear u b U1
      clear A1
      refine hK _ _ A2.out (fun hHeld => ?_)
      try simp only [List.getElem_toArray, List.getElem_cons_zero, List.getElem_cons_succ, Act.put, List.setIfInBounds_toArray, List.set_cons_zero, List.set_cons_succ]
      refine wpAnyH_ready (rs := [6, 13]) (by kernel_rfl) (by simp) ?_
      refine AllReadyH.cons (o := _) rfl (fun K hK => ?_) (AllReadyH.cons (o := _) rfl (fun K hK => ?_) AllReadyH.nil)
      · refine step_append_ur (w1 := W2) Try.underlying26 info5 rfl (.tmp 57) (.tmp 60) rfl _ 2 (be (sp) 2) rfl U2.out _ 2 2 (be (dp) 2) rfl B2.out (by omega) (by omega) ?_
        intro a3 c3 V3 u
        have U3 : Hid (UR none W2 V3 (.slice a3 4 c3) 4 (be (sp) 2 ++ be (dp) 2)) := u
        have A3 : Hid (AtB V3 w.heap.size #[.int .i64 2, .int .i64 ty, .int .i64 co, .int .u32 re, .int .i64 sp, .int .i64 dp, .bool ns, .int .u32 sq, .int .u32 ak, .int .i64 fl, .int .i64 wi, .int .i64 ur, .string (strOfNums os), .string (strOfNums ds)]) := AtB.below AA.out u.rb.bel
        clear u U2 A2 B2
        refine hK _ _ A3.out (fun hHeld => ?_)
        try simp only [List.getElem_toArray, List.getElem_cons_zero, List.getElem_cons_succ, Act.put, List.setIfInBounds_toArray, List.set_cons_zero, List.set_cons_succ]
        refine wpAnyH_ready (rs := [11, 13]) (by kernel_rfl) (by simp) ?_
        refine AllReadyH.cons (o := _) rfl (fun K hK => ?_) (AllReadyH.cons (o := _) rfl (fun K hK => ?_) AllReadyH.nil)
        · go_simp
          refine (two_next U3.out (8 + (ds.length : Int)) (by omega)).mono ?_
          rintro e V4 ⟨a66_4, rfl, u, b⟩
          have U4 : Hid (UR none W2 V4 (.slice a3 4 c3) 4 (be (sp) 2 ++ be (dp) 2)) := u
          have B4 : Hid (BS V4 a66_4 2 (be (8 + (ds.length : Int)) 2)) := b
          have A4 : Hid (AtB V4 w.heap.size #[.int .i64 2, .int .i64 ty, .int .i64 co, .int .u32 re, .int .i64 sp, .int .i64 dp, .bool ns, .int .u32 sq, .int .u32 ak, .int .i64 fl, .int .i64 wi, .int .i64 ur, .string (strOfNums os), .string (strOfNums ds)]) := AtB.below AA.out u.rb.bel
          clear u b U3
          clear A3
          refine hK _ _ A4.out (fun hHeld => ?_)
          try simp only [List.getElem_toArray, List.getElem_cons_zero, List.getElem_cons_succ, Act.put, List.setIfInBounds_toArray, List.set_cons_zero, List.set_cons_succ]
          refine wpAnyH_ready (rs := [12, 13]) (by kernel_rfl) (by simp) ?_
          refine AllReadyH.cons (o := _) rfl (fun K hK => ?_) (AllReadyH.cons (o := _) rfl (fun K hK => ?_) AllReadyH.nil)
          · refine step_append_ur (w1 := W2) Try.underlying26 info5 rfl (.tmp 61) (.tmp 66) rfl _ 4 (be (sp) 2 ++ be (dp) 2) rfl U4.out _ 2 2 (be ((8 + (ds.length : Int))) 2) rfl B4.out (by omega) (by omega) ?_
            intro a5 c5 V5 u
            have U5 : Hid (UR none W2 V5 (.slice a5 6 c5) 6 (be (sp) 2 ++ be (dp) 2 ++ be ((8 + (ds.length : Int))) 2)) := u
            have A5 : Hid (AtB V5 w.heap.size #[.int .i64 2, .int .i64 ty, .int .i64 co, .int .u32 re, .int .i64 sp, .int .i64 dp, .bool ns, .int .u32 sq, .int .u32 ak, .int .i64 fl, .int .i64 wi, .int .i64 ur, .string (strOfNums os), .string (strOfNums ds)]) := AtB.below AA.out u.rb.bel
            clear u U4 A4 B4
            refine hK _ _ A5.out (fun hHeld => ?_)
            try simp only [List.getElem_toArray, List.getElem_cons_zero, List.getElem_cons_succ, Act.put, List.setIfInBounds_toArray, List.set_cons_zero, List.set_cons_succ]
            refine wpAnyH_ready (rs := [13]) (by kernel_rfl) (by simp) ?_
            refine AllReadyH.cons (o := _) rfl (fun K hK => ?_) AllReadyH.nil
            go_simp
            have U6 : Hid (UR (some V5.heap.size) W2 (V5.alloc (.cells #[.int .u8 0, .int .u8 0] 5)) (.slice a5 6 c5) 6 (be (sp) 2 ++ be (dp) 2 ++ be ((8 + (ds.length : Int))) 2)) := U5.out.build
            have A6 : Hid (AtB (V5.alloc (.cells #[.int .u8 0, .int .u8 0] 5)) w.heap.size #[.int .i64 2, .int .i64 ty, .int .i64 co, .int .u32 re, .int .i64 sp, .int .i64 dp, .bool ns, .int .u32 sq, .int .u32 ak, .int .i64 fl, .int .i64 wi, .int .i64 ur, .string (strOfNums os), .string (strOfNums ds)]) := AtB.below AA.out U6.out.rb.bel
            clear U5 A5
            obtain ⟨V6, hV⟩ : ∃ V', V5.alloc (.cells #[.int .u8 0, .int .u8 0] 5) = V' := ⟨_, rfl⟩
            obtain ⟨b6, hb⟩ : ∃ b', V5.heap.size = b' := ⟨_, rfl⟩
            rw [hV] at U6 A6
            rw [hb] at U6
            rw [hV, hb]
            clear hV hb
            refine hK _ _ A6.out (fun hHeld => ?_)
            try simp only [List.getElem_toArray, List.getElem_cons_zero, List.getElem_cons_succ, Act.put, List.setIfInBounds_toArray, List.set_cons_zero, List.set_cons_succ]
            refine wpAnyH_ready (rs := [14]) (by kernel_rfl) (by simp) ?_
            refine AllReadyH.cons (o := _) rfl (fun K hK => ?_) AllReadyH.nil
            refine step_append_ur (w1 := W2) Try.underlying26 info5 rfl (.tmp 67) (.tmp 68) rfl _ 6 (be (sp) 2 ++ be (dp) 2 ++ be ((8 + (ds.length : Int))) 2) rfl U6.out _ 2 2 ([0, 0]) rfl U6.out.zr.bs (by omega) (by omega) ?_
            intro a7 c7 V7 u
            have U7 : Hid (UR (some b6) W2 V7 (.slice a7 8 c7) 8 (be (sp) 2 ++ be (dp) 2 ++ be ((8 + (ds.length : Int))) 2 ++ [0, 0])) := u
            have A7 : Hid (AtB V7 w.heap.size #[.int .i64 2, .int .i64 ty, .int .i64 co, .int .u32 re, .int .i64 sp, .int .i64 dp, .bool ns, .int .u32 sq, .int .u32 ak, .int .i64 fl, .int .i64 wi, .int .i64 ur, .string (strOfNums os), .string (strOfNums ds)]) := AtB.below AA.out u.rb.bel
            clear u U6 A6
            refine hK _ _ A7.out (fun hHeld => ?_)
            try simp only [List.getElem_toArray, List.getElem_cons_zero, List.getElem_cons_succ, Act.put, List.setIfInBounds_toArray, List.set_cons_zero, List.set_cons_succ]
            refine wpAnyH_ready (rs := [15]) (by kernel_rfl) (by simp) ?_
            refine AllReadyH.cons (o := _) rfl (fun K hK => ?_) AllReadyH.nil
            go_simp
            refine hK _ _ A7.out (fun hHeld => ?_)
            refine wpAnyH_done (by kernel_rfl) ?_ _
            try simp only [List.getElem_toArray, List.getElem_cons_zero, List.getElem_cons_succ, Act.put, List.setIfInBounds_toArray, List.set_cons_zero, List.set_cons_succ]
            obtain ⟨x0, x1, x2, x3, x4, x5, x6, x7, x8, x9, x10, x11, x12, x13⟩ := AtB.cells14 A7.out
            go_wp2_with (at_builtin; refine wpList_append_str (by rfl) _ _ 26 9 rfl W2.heap.size 5 i0 Try.underlying26 Try.underlying9 hi hz0 hz1 hz2 _ 8 _ rfl U7.out.rb.own ds hfd rfl (by omega) U7.out.rb.bel.size ?_)
            intro a5 c5 W5 own5 g5
            have B5 : Hid (Below W2.heap.size W2 W5) := U7.out.rb.bel.grown g5 U7.out.rb.bel.size (fun k hk => (World.ownsRow.lt U7.out.rb.own k hk).1)
            obtain ⟨g, rfl, hg1, hg2⟩ := own_some own5 (by omega)
            have hcc := own_caps own5
            have E5 : Hid (EncS W2 W5 g (8 + ds.length) c5 LL) := by
              show EncS W2 W5 g (8 + ds.length) c5 LL
              rw [← HLL.out]
              exact ⟨own5, B5.out, fits_append (fits_append (fits_append (fits_append (be_bd _ _) (be_bd _ _)) (be_bd _ _)) (fits_two (by omega) (by omega))) hfd, by omega⟩
            have A5 : Hid (AtB W5 w.heap.size #[.int .i64 2, .int .i64 ty, .int .i64 co, .int .u32 re, .int .i64 sp, .int .i64 dp, .bool ns, .int .u32 sq, .int .u32 ak, .int .i64 fl, .int .i64 wi, .int .i64 ur, .string (strOfNums os), .string (strOfNums ds)]) := AtB.below AA.out B5.out
            clear x0 x1 x2 x3 x4 x5 x6 x7 x8 x9 x10 x11 x12 x13 own5 g5 U7 A7 AA
            cases ns
            · cases hns.out
            · obtain ⟨x0, x1, x2, x3, x4, x5, x6, x7, x8, x9, x10, x11, x12, x13⟩ := AtB.cells14 A5.out
              go_wp2
              go_ret2
              exact ⟨some ⟨g, 0, none⟩, c5, rfl, E5.out.bs, ⟨by omega, E5.out.fr BB.out.size⟩, BB.out.trans (E5.out.bel.mono BB.out.size)⟩
          · go_simp
            have U8 : Hid (UR (some V4.heap.size) W2 (V4.alloc (.cells #[.int .u8 0, .int .u8 0] 5)) (.slice a3 4 c3) 4 (be (sp) 2 ++ be (dp) 2)) := U4.out.build
            have B8 : Hid (BS (V4.alloc (.cells #[.int .u8 0, .int .u8 0] 5)) a66_4 2 (be ((8 + (ds.length : Int))) 2)) := B4.out.below (below1 _ _)
            have A8 : Hid (AtB (V4.alloc (.cells #[.int .u8 0, .int .u8 0] 5)) w.heap.size #[.int .i64 2, .int .i64 ty, .int .i64 co, .int .u32 re, .int .i64 sp, .int .i64 dp, .bool ns, .int .u32 sq, .int .u32 ak, .int .i64 fl, .int .i64 wi, .int .i64 ur, .string (strOfNums os), .string (strOfNums ds)]) := AtB.below AA.out U8.out.rb.bel
            clear U4 B4 A4
            obtain ⟨V8, hV⟩ : ∃ V', V4.alloc (.cells #[.int .u8 0, .int .u8 0] 5) = V' := ⟨_, rfl⟩
            obtain ⟨b8, hb⟩ : ∃ b', V4.heap.size = b' := ⟨_, rfl⟩
            rw [hV] at U8 B8 A8
            rw [hb] at U8
            rw [hV, hb]
            clear hV hb
            refine hK _ _ A8.out (fun hHeld => ?_)
            try simp only [List.getElem_toArray, List.getElem_cons_zero, List.getElem_cons_succ, Act.put, List.setIfInBounds_toArray, List.set_cons_zero, List.set_cons_succ]
            refine wpAnyH_ready (rs := [12]) (by kernel_rfl) (by simp) ?_
            refine AllReadyH.cons (o := _) rfl (fun K hK => ?_) AllReadyH.nil
            refine step_append_ur (w1 := W2) Try.underlying26 info5 rfl (.tmp 61) (.tmp 66) rfl _ 4 (be (sp) 2 ++ be (dp) 2) rfl U8.out _ 2 2 (be ((8 + (ds.length : Int))) 2) rfl B8.out (by omega) (by omega) ?_
            intro a9 c9 V9 u
            have U9 : Hid (UR (some b8) W2 V9 (.slice a9 6 c9) 6 (be (sp) 2 ++ be (dp) 2 ++ be ((8 + (ds.length : Int))) 2)) := u
            have A9 : Hid (AtB V9 w.heap.size #[.int .i64 2, .int .i64 ty, .int .i64 co, .int .u32 re, .int .i64 sp, .int .i64 dp, .bool ns, .int .u32 sq, .int .u32 ak, .int .i64 fl, .int .i64 wi, .int .i64 ur, .string (strOfNums os), .string (strOfNums ds)]) := AtB.below AA.out u.rb.bel
            clear u U8 A8 B8
            refine hK _ _ A9.out (fun hHeld => ?_)
            try simp only [List.getElem_toArray, List.getElem_cons_zero, List.getElem_cons_succ, Act.put, List.setIfInBounds_toArray, List.set_cons_zero, List.set_cons_succ]
            refine wpAnyH_ready (rs := [14]) (by kernel_rfl) (by simp) ?_
            refine AllReadyH.cons (o := _) rfl (fun K hK => ?_) AllReadyH.nil
            refine step_append_ur (w1 := W2) Try.underlying26 info5 rfl (.tmp 67) (.tmp 68) rfl _ 6 (be (sp) 2 ++ be (dp) 2 ++ be ((8 + (ds.length : Int))) 2) rfl U9.out _ 2 2 ([0, 0]) rfl U9.out.zr.bs (by omega) (by omega) ?_
            intro a10 c10 V10 u
            have U10 : Hid (UR (some b8) W2 V10 (.slice a10 8 c10) 8 (be (sp) 2 ++ be (dp) 2 ++ be ((8 + (ds.length : Int))) 2 ++ [0, 0])) := u
            have A10 : Hid (AtB V10 w.heap.size #[.int .i64 2, .int .i64 ty, .int .i64 co, .int .u32 re, .int .i64 sp, .int .i64 dp, .bool ns, .int .u32 sq, .int .u32 ak, .int .i64 fl, .int .i64 wi, .int .i64 ur, .string (strOfNums os), .string (strOfNums ds)]) := AtB.below AA.out u.rb.bel
            clear u U9 A9
            refine hK _ _ A10.out (fun hHeld => ?_)
            try simp only [List.getElem_toArray, List.getElem_cons_zero, List.getElem_cons_succ, Act.put, List.setIfInBounds_toArray, List.set_cons_zero, List.set_cons_succ]
            refine wpAnyH_ready (rs := [15]) (by kernel_rfl) (by simp) ?_
            refine AllReadyH.cons (o := _) rfl (fun K hK => ?_) AllReadyH.nil
            go_simp
            refine hK _ _ A10.out (fun hHeld => ?_)
            refine wpAnyH_done (by kernel_rfl) ?_ _
            try simp only [List.getElem_toArray, List.getElem_cons_zero, List.getElem_cons_succ, Act.put, List.setIfInBounds_toArray, List.set_cons_zero, List.set_cons_succ]
            obtain ⟨x0, x1, x2, x3, x4, x5, x6, x7, x8, x9, x10, x11, x12, x13⟩ := AtB.cells14 A10.out
            go_wp2_with (at_builtin; refine wpList_append_str (by rfl) _ _ 26 9 rfl W2.heap.size 5 i0 Try.underlying26 Try.underlying9 hi hz0 hz1 hz2 _ 8 _ rfl U10.out.rb.own ds hfd rfl (by omega) U10.out.rb.bel.size ?_)
            intro a5 c5 W5 own5 g5
            have B5 : Hid (Below W2.heap.size W2 W5) := U10.out.rb.bel.grown g5 U10.out.rb.bel.size (fun k hk => (World.ownsRow.lt U10.out.rb.own k hk).1)
            obtain ⟨g, rfl, hg1, hg2⟩ := own_some own5 (by omega)
            have hcc := own_caps own5
            have E5 : Hid (EncS W2 W5 g (8 + ds.length) c5 LL) := by
              show EncS W2 W5 g (8 + ds.length) c5 LL
              rw [← HLL.out]
              exact ⟨own5, B5.out, fits_append (fits_append (fits_append (fits_append (be_bd _ _) (be_bd _ _)) (be_bd _ _)) (fits_two (by omega) (by omega))) hfd, by omega⟩
            have A5 : Hid (AtB W5 w.heap.size #[.int .i64 2, .int .i64 ty, .int .i64 co, .int .u32 re, .int .i64 sp, .int .i64 dp, .bool ns, .int .u32 sq, .int .u32 ak, .int .i64 fl, .int .i64 wi, .int .i64 ur, .string (strOfNums os), .string (strOfNums ds)]) := AtB.below AA.out B5.out
            clear x0 x1 x2 x3 x4 x5 x6 x7 x8 x9 x10 x11 x12 x13 own5 g5 U10 A10 AA
            cases ns
            · cases hns.out
            · obtain ⟨x0, x1, x2, x3, x4, x5, x6, x7, x8, x9, x10, x11, x12, x13⟩ := AtB.cells14 A5.out
              go_wp2
              go_ret2
              exact ⟨some ⟨g, 0, none⟩, c5, rfl, E5.out.bs, ⟨by omega, E5.out.fr BB.out.size⟩, BB.out.trans (E5.out.bel.mono BB.out.size)⟩
        · go_simp
          have U11 : Hid (UR (some V3.heap.size) W2 (V3.alloc (.cells #[.int .u8 0, .int .u8 0] 5)) (.slice a3 4 c3) 4 (be (sp) 2 ++ be (dp) 2)) := U3.out.build
          have A11 : Hid (AtB (V3.alloc (.cells #[.int .u8 0, .int .u8 0] 5)) w.heap.size #[.int .i64 2, .int .i64 ty, .int .i64 co, .int .u32 re, .int .i64 sp, .int .i64 dp, .bool ns, .int .u32 sq, .int .u32 ak, .int .i64 fl, .int .i64 wi, .int .i64 ur, .string (strOfNums os), .string (strOfNums ds)]) := AtB.below AA.out U11.out.rb.bel
          clear U3 A3
          obtain ⟨V11, hV⟩ : ∃ V', V3.alloc (.cells #[.int .u8 0, .int .u8 0] 5) = V' := ⟨_, rfl⟩
          obtain ⟨b11, hb⟩ : ∃ b', V3.heap.size = b' := ⟨_, rfl⟩
          rw [hV] at U11 A11
          rw [hb] at U11
          rw [hV, hb]
          clear hV hb
          refine hK _ _ A11.out (fun hHeld => ?_)
          try simp only [List.getElem_toArray, List.getElem_cons_zero, List.getElem_cons_succ, Act.put, List.setIfInBounds_toArray, List.set_cons_zero, List.set_cons_succ]
          refine wpAnyH_ready (rs := [11]) (by kernel_rfl) (by simp) ?_
          refine AllReadyH.cons (o := _) rfl (fun K hK => ?_) AllReadyH.nil
          go_simp
          refine (two_next U11.out (8 + (ds.length : Int)) (by omega)).mono ?_
          rintro e V12 ⟨a66_12, rfl, u, b⟩
          have U12 : Hid (UR (some b11) W2 V12 (.slice a3 4 c3) 4 (be (sp) 2 ++ be (dp) 2)) := u
          have B12 : Hid (BS V12 a66_12 2 (be (8 + (ds.length : Int)) 2)) := b
          have A12 : Hid (AtB V12 w.heap.size #[.int .i64 2, .int .i64 ty, .int .i64 co, .int .u32 re, .int .i64 sp, .int .i64 dp, .bool ns, .int .u32 sq, .int .u32 ak, .int .i64 fl, .int .i64 wi, .int .i64 ur, .string (strOfNums os), .string (strOfNums ds)]) := AtB.below AA.out u.rb.bel
          clear u b U11
          clear A11
          refine hK _ _ A12.out (fun hHeld => ?_)
          try simp only [List.getElem_toArray, List.getElem_cons_zero, List.getElem_cons_succ, Act.put, List.setIfInBounds_toArray, List.set_cons_zero, List.set_cons_succ]
          refine wpAnyH_ready (rs := [12]) (by kernel_rfl) (by simp) ?_
          refine AllReadyH.cons (o := _) rfl (fun K hK => ?_) AllReadyH.nil
          refine step_append_ur (w1 := W2) Try.underlying26 info5 rfl (.tmp 61) (.tmp 66) rfl _ 4 (be (sp) 2 ++ be (dp) 2) rfl U12.out _ 2 2 (be ((8 + (ds.length : Int))) 2) rfl B12.out (by omega) (by omega) ?_
          intro a13 c13 V13 u
          have U13 : Hid (UR (some b11) W2 V13 (.slice a13 6 c13) 6 (be (sp) 2 ++ be (dp) 2 ++ be ((8 + (ds.length : Int))) 2)) := u
          have A13 : Hid (AtB V13 w.heap.size #[.int .i64 2, .int .i64 ty, .int .i64 co, .int .u32 re, .int .i64 sp, .int .i64 dp, .bool ns, .int .u32 sq, .int .u32 ak, .int .i64 fl, .int .i64 wi, .int .i64 ur, .string (strOfNums os), .string (strOfNums ds)]) := AtB.below AA.out u.rb.bel
          clear u U12 A12 B12
          refine hK _ _ A13.out (fun hHeld => ?_)
          try simp only [List.getElem_toArray, List.getElem_cons_zero, List.getElem_cons_succ, Act.put, List.setIfInBounds_toArray, List.set_cons_zero, List.set_cons_succ]
          refine wpAnyH_ready (rs := [14]) (by kernel_rfl) (by simp) ?_
          refine AllReadyH.cons (o := _) rfl (fun K hK => ?_) AllReadyH.nil
          refine step_append_ur (w1 := W2) Try.underlying26 info5 rfl (.tmp 67) (.tmp 68) rfl _ 6 (be (sp) 2 ++ be (dp) 2 ++ be ((8 + (ds.length : Int))) 2) rfl U13.out _ 2 2 ([0, 0]) rfl U13.out.zr.bs (by omega) (by omega) ?_
          intro a14 c14 V14 u
          have U14 : Hid (UR (some b11) W2 V14 (.slice a14 8 c14) 8 (be (sp) 2 ++ be (dp) 2 ++ be ((8 + (ds.length : Int))) 2 ++ [0, 0])) := u
          have A14 : Hid (AtB V14 w.heap.size #[.int .i64 2, .int .i64 ty, .int .i64 co, .int .u32 re, .int .i64 sp, .int .i64 dp, .bool ns, .int .u32 sq, .int .u32 ak, .int .i64 fl, .int .i64 wi, .int .i64 ur, .string (strOfNums os), .string (strOfNums ds)]) := AtB.below AA.out u.rb.bel
          clear u U13 A13
          refine hK _ _ A14.out (fun hHeld => ?_)
          try simp only [List.getElem_toArray, List.getElem_cons_zero, List.getElem_cons_succ, Act.put, List.setIfInBounds_toArray, List.set_cons_zero, List.set_cons_succ]
          refine wpAnyH_ready (rs := [15]) (by kernel_rfl) (by simp) ?_
          refine AllReadyH.cons (o := _) rfl (fun K hK => ?_) AllReadyH.nil
          go_simp
          refine hK _ _ A14.out (fun hHeld => ?_)
          refine wpAnyH_done (by kernel_rfl) ?_ _
          try simp only [List.getElem_toArray, List.getElem_cons_zero, List.getElem_cons_succ, Act.put, List.setIfInBounds_toArray, List.set_cons_zero, List.set_cons_succ]
          obtain ⟨x0, x1, x2, x3, x4, x5, x6, x7, x8, x9, x10, x11, x12, x13⟩ := AtB.cells14 A14.out
          go_wp2_with (at_builtin; refine wpList_append_str (by rfl) _ _ 26 9 rfl W2.heap.size 5 i0 Try.underlying26 Try.underlying9 hi hz0 hz1 hz2 _ 8 _ rfl U14.out.rb.own ds hfd rfl (by omega) U14.out.rb.bel.size ?_)
          intro a5 c5 W5 own5 g5
          have B5 : Hid (Below W2.heap.size W2 W5) := U14.out.rb.bel.grown g5 U14.out.rb.bel.size (fun k hk => (World.ownsRow.lt U14.out.rb.own k hk).1)
          obtain ⟨g, rfl, hg1, hg2⟩ := own_some own5 (by omega)
          have hcc := own_caps own5
          have E5 : Hid (EncS W2 W5 g (8 + ds.length) c5 LL) := by
            show EncS W2 W5 g (8 + ds.length) c5 LL
            rw [← HLL.out]
            exact ⟨own5, B5.out, fits_append (fits_append (fits_append (fits_append (be_bd _ _) (be_bd _ _)) (be_bd _ _)) (fits_two (by omega) (by omega))) hfd, by omega⟩
          have A5 : Hid (AtB W5 w.heap.size #[.int .i64 2, .int .i64 ty, .int .i64 co, .int .u32 re, .int .i64 sp, .int .i64 dp, .bool ns, .int .u32 sq, .int .u32 ak, .int .i64 fl, .int .i64 wi, .int .i64 ur, .string (strOfNums os), .string (strOfNums ds)]) := AtB.below AA.out B5.out
          clear x0 x1 x2 x3 x4 x5 x6 x7 x8 x9 x10 x11 x12 x13 own5 g5 U14 A14 AA
          cases ns
          · cases hns.out
          · obtain ⟨x0, x1, x2, x3, x4, x5, x6, x7, x8, x9, x10, x11, x12, x13⟩ := AtB.cells14 A5.out
            go_wp2
            go_ret2
            exact ⟨some ⟨g, 0, none⟩, c5, rfl, E5.out.bs, ⟨by omega, E5.out.fr BB.out.size⟩, BB.out.trans (E5.out.bel.mono BB.out.size)⟩
      · go_simp
        have U15 : Hid (UR (some V2.heap.size) W2 (V2.alloc (.cells #[.int .u8 0, .int .u8 0] 5)) (.slice a57_1 2 2) 2 (be (sp) 2)) := U2.out.build
        have B15 : Hid (BS (V2.alloc (.cells #[.int .u8 0, .int .u8 0] 5)) a60_2 2 (be (dp) 2)) := B2.out.below (below1 _ _)
        have A15 : Hid (AtB (V2.alloc (.cells #[.int .u8 0, .int .u8 0] 5)) w.heap.size #[.int .i64 2, .int .i64 ty, .int .i64 co, .int .u32 re, .int .i64 sp, .int .i64 dp, .bool ns, .int .u32 sq, .int .u32 ak, .int .i64 fl, .int .i64 wi, .int .i64 ur, .string (strOfNums os), .string (strOfNums ds)]) := AtB.below AA.out U15.out.rb.bel
        clear U2 B2 A2
        obtain ⟨V15, hV⟩ : ∃ V', V2.alloc (.cells #[.int .u8 0, .int .u8 0] 5) = V' := ⟨_, rfl⟩
        obtain ⟨b15, hb⟩ : ∃ b', V2.heap.size = b' := ⟨_, rfl⟩
        rw [hV] at U15 B15 A15
        rw [hb] at U15
        rw [hV, hb]
        clear hV hb
        refine hK _ _ A15.out (fun hHeld => ?_)
        try simp only [List.getElem_toArray, List.getElem_cons_zero, List.getElem_cons_succ, Act.put, List.setIfInBounds_toArray, List.set_cons_zero, List.set_cons_succ]
        refine wpAnyH_ready (rs := [6]) (by kernel_rfl) (by simp) ?_
        refine AllReadyH.cons (o := _) rfl (fun K hK => ?_) AllReadyH.nil
        refine step_append_ur (w1 := W2) Try.underlying26 info5 rfl (.tmp 57) (.tmp 60) rfl _ 2 (be (sp) 2) rfl U15.out _ 2 2 (be (dp) 2) rfl B15.out (by omega) (by omega) ?_
        intro a16 c16 V16 u
        have U16 : Hid (UR (some b15) W2 V16 (.slice a16 4 c16) 4 (be (sp) 2 ++ be (dp) 2)) := u
        have A16 : Hid (AtB V16 w.heap.size #[.int .i64 2, .int .i64 ty, .int .i64 co, .int .u32 re, .int .i64 sp, .int .i64 dp, .bool ns, .int .u32 sq, .int .u32 ak, .int .i64 fl, .int .i64 wi, .int .i64 ur, .string (strOfNums os), .string (strOfNums ds)]) := AtB.below AA.out u.rb.bel
        clear u U15 A15 B15
        refine hK _ _ A16.out (fun hHeld => ?_)
        try simp only [List.getElem_toArray, List.getElem_cons_zero, List.getElem_cons_succ, Act.put, List.setIfInBounds_toArray, List.set_cons_zero, List.set_cons_succ]
        refine wpAnyH_ready (rs := [11]) (by kernel_rfl) (by simp) ?_
        refine AllReadyH.cons (o := _) rfl (fun K hK => ?_) AllReadyH.nil
        go_simp
        refine (two_next U16.out (8 + (ds.length : Int)) (by omega)).mono ?_
        rintro e V17 ⟨a66_17, rfl, u, b⟩
        have U17 : Hid (UR (some b15) W2 V17 (.slice a16 4 c16) 4 (be (sp) 2 ++ be (dp) 2)) := u
        have B17 : Hid (BS V17 a66_17 2 (be (8 + (ds.length : Int)) 2)) := b
        have A17 : Hid (AtB V17 w.heap.size #[.int .i64 2, .int .i64 ty, .int .i64 co, .int .u32 re, .int .i64 sp, .int .i64 dp, .bool ns, .int .u32 sq, .int .u32 ak, .int .i64 fl, .int .i64 wi, .int .i64 ur, .string (strOfNums os), .string (strOfNums ds)]) := AtB.below AA.out u.rb.bel
        clear u b U16
        clear A16
        refine hK _ _ A17.out (fun hHeld => ?_)
        try simp only [List.getElem_toArray, List.getElem_cons_zero, List.getElem_cons_succ, Act.put, List.setIfInBounds_toArray, List.set_cons_zero, List.set_cons_succ]
        refine wpAnyH_ready (rs := [12]) (by kernel_rfl) (by simp) ?_
        refine AllReadyH.cons (o := _) rfl (fun K hK => ?_) AllReadyH.nil
        refine step_append_ur (w1 := W2) Try.underlying26 info5 rfl (.tmp 61) (.tmp 66) rfl _ 4 (be (sp) 2 ++ be (dp) 2) rfl U17.out _ 2 2 (be ((8 + (ds.length : Int))) 2) rfl B17.out (by omega) (by omega) ?_
        intro a18 c18 V18 u
        have U18 : Hid (UR (some b15) W2 V18 (.slice a18 6 c18) 6 (be (sp) 2 ++ be (dp) 2 ++ be ((8 + (ds.length : Int))) 2)) := u
        have A18 : Hid (AtB V18 w.heap.size #[.int .i64 2, .int .i64 ty, .int .i64 co, .int .u32 re, .int .i64 sp, .int .i64 dp, .bool ns, .int .u32 sq, .int .u32 ak, .int .i64 fl, .int .i64 wi, .int .i64 ur, .string (strOfNums os), .string (strOfNums ds)]) := AtB.below AA.out u.rb.bel
        clear u U17 A17 B17
        refine hK _ _ A18.out (fun hHeld => ?_)
        try simp only [List.getElem_toArray, List.getElem_cons_zero, List.getElem_cons_succ, Act.put, List.setIfInBounds_toArray, List.set_cons_zero, List.set_cons_succ]
        refine wpAnyH_ready (rs := [14]) (by kernel_rfl) (by simp) ?_
        refine AllReadyH.cons (o := _) rfl (fun K hK => ?_) AllReadyH.nil
        refine step_append_ur (w1 := W2) Try.underlying26 info5 rfl (.tmp 67) (.tmp 68) rfl _ 6 (be (sp) 2 ++ be (dp) 2 ++ be ((8 + (ds.length : Int))) 2) rfl U18.out _ 2 2 ([0, 0]) rfl U18.out.zr.bs (by omega) (by omega) ?_
        intro a19 c19 V19 u
        have U19 : Hid (UR (some b15) W2 V19 (.slice a19 8 c19) 8 (be (sp) 2 ++ be (dp) 2 ++ be ((8 + (ds.length : Int))) 2 ++ [0, 0])) := u
        have A19 : Hid (AtB V19 w.heap.size #[.int .i64 2, .int .i64 ty, .int .i64 co, .int .u32 re, .int .i64 sp, .int .i64 dp, .bool ns, .int .u32 sq, .int .u32 ak, .int .i64 fl, .int .i64 wi, .int .i64 ur, .string (strOfNums os), .string (strOfNums ds)]) := AtB.below AA.out u.rb.bel
        clear u U18 A18
        refine hK _ _ A19.out (fun hHeld => ?_)
        try simp only [List.getElem_toArray, List.getElem_cons_zero, List.getElem_cons_succ, Act.put, List.setIfInBounds_toArray, List.set_cons_zero, List.set_cons_succ]
        refine wpAnyH_ready (rs := [15]) (by kernel_rfl) (by simp) ?_
        refine AllReadyH.cons (o := _) rfl (fun K hK => ?_) AllReadyH.nil
        go_simp
        refine hK _ _ A19.out (fun hHeld => ?_)
        refine wpAnyH_done (by kernel_rfl) ?_ _
        try simp only [List.getElem_toArray, List.getElem_cons_zero, List.getElem_cons_succ, Act.put, List.setIfInBounds_toArray, List.set_cons_zero, List.set_cons_succ]
        obtain ⟨x0, x1, x2, x3, x4, x5, x6, x7, x8, x9, x10, x11, x12, x13⟩ := AtB.cells14 A19.out
        go_wp2_with (at_builtin; refine wpList_append_str (by rfl) _ _ 26 9 rfl W2.heap.size 5 i0 Try.underlying26 Try.underlying9 hi hz0 hz1 hz2 _ 8 _ rfl U19.out.rb.own ds hfd rfl (by omega) U19.out.rb.bel.size ?_)
        intro a5 c5 W5 own5 g5
        have B5 : Hid (Below W2.heap.size W2 W5) := U19.out.rb.bel.grown g5 U19.out.rb.bel.size (fun k hk => (World.ownsRow.lt U19.out.rb.own k hk).1)
        obtain ⟨g, rfl, hg1, hg2⟩ := own_some own5 (by omega)
        have hcc := own_caps own5
        have E5 : Hid (EncS W2 W5 g (8 + ds.length) c5 LL) := by
          show EncS W2 W5 g (8 + ds.length) c5 LL
          rw [← HLL.out]
          exact ⟨own5, B5.out, fits_append (fits_append (fits_append (fits_append (be_bd _ _) (be_bd _ _)) (be_bd _ _)) (fits_two (by omega) (by omega))) hfd, by omega⟩
        have A5 : Hid (AtB W5 w.heap.size #[.int .i64 2, .int .i64 ty, .int .i64 co, .int .u32 re, .int .i64 sp, .int .i64 dp, .bool ns, .int .u32 sq, .int .u32 ak, .int .i64 fl, .int .i64 wi, .int .i64 ur, .string (strOfNums os), .string (strOfNums ds)]) := AtB.below AA.out B5.out
        clear x0 x1 x2 x3 x4 x5 x6 x7 x8 x9 x10 x11 x12 x13 own5 g5 U19 A19 AA
        cases ns
        · cases hns.out
        · obtain ⟨x0, x1, x2, x3, x4, x5, x6, x7, x8, x9, x10, x11, x12, x13⟩ := AtB.cells14 A5.out
          go_wp2
          go_ret2
          exact ⟨some ⟨g, 0, none⟩, c5, rfl, E5.out.bs, ⟨by omega, E5.out.fr BB.out.size⟩, BB.out.trans (E5.out.bel.mono BB.out.size)⟩
    · go_simp
      have U20 : Hid (UR (some V1.heap.size) W2 (V1.alloc (.cells #[.int .u8 0, .int .u8 0] 5)) (.slice a57_1 2 2) 2 (be (sp) 2)) := U1.out.build
      have A20 : Hid (AtB (V1.alloc (.cells #[.int .u8 0, .int .u8 0] 5)) w.heap.size #[.int .i64 2, .int .i64 ty, .int .i64 co, .int .u32 re, .int .i64 sp, .int .i64 dp, .bool ns, .int .u32 sq, .int .u32 ak, .int .i64 fl, .int .i64 wi, .int .i64 ur, .string (strOfNums os), .string (strOfNums ds)]) := AtB.below AA.out U20.out.rb.bel
      clear U1 A1
      obtain ⟨V20, hV⟩ : ∃ V', V1.alloc (.cells #[.int .u8 0, .int .u8 0] 5) = V' := ⟨_, rfl⟩
      obtain ⟨b20, hb⟩ : ∃ b', V1.heap.size = b' := ⟨_, rfl⟩
      rw [hV] at U20 A20
      rw [hb] at U20
      rw [hV, hb]
      clear hV hb
      refine hK _ _ A20.out (fun hHeld => ?_)
      try simp only [List.getElem_toArray, List.getElem_cons_zero, List.getElem_cons_succ, Act.put, List.setIfInBounds_toArray, List.set_cons_zero, List.set_cons_succ]
      refine wpAnyH_ready (rs := [5]) (by kernel_rfl) (by simp) ?_
      refine AllReadyH.cons (o := _) rfl (fun K hK => ?_) AllReadyH.nil
      go_simp
      refine (two_next U20.out dp (by omega)).mono ?_
      rintro e V21 ⟨a60_21, rfl, u, b⟩
      have U21 : Hid (UR (some b20) W2 V21 (.slice a57_1 2 2) 2 (be (sp) 2)) := u
      have B21 : Hid (BS V21 a60_21 2 (be dp 2)) := b
      have A21 : Hid (AtB V21 w.heap.size #[.int .i64 2, .int .i64 ty, .int .i64 co, .int .u32 re, .int .i64 sp, .int .i64 dp, .bool ns, .int .u32 sq, .int .u32 ak, .int .i64 fl, .int .i64 wi, .int .i64 ur, .string (strOfNums os), .string (strOfNums ds)]) := AtB.below AA.out u.rb.bel
      clear u b U20
      clear A20
      refine hK _ _ A21.out (fun hHeld => ?_)
      try simp only [List.getElem_toArray, List.getElem_cons_zero, List.getElem_cons_succ, Act.put, List.setIfInBounds_toArray, List.set_cons_zero, List.set_cons_succ]
      refine wpAnyH_ready (rs := [6]) (by kernel_rfl) (by simp) ?_
      refine AllReadyH.cons (o := _) rfl (fun K hK => ?_) AllReadyH.nil
      refine step_append_ur (w1 := W2) Try.underlying26 info5 rfl (.tmp 57) (.tmp 60) rfl _ 2 (be (sp) 2) rfl U21.out _ 2 2 (be (dp) 2) rfl B21.out (by omega) (by omega) ?_
      intro a22 c22 V22 u
      have U22 : Hid (UR (some b20) W2 V22 (.slice a22 4 c22) 4 (be (sp) 2 ++ be (dp) 2)) := u
      have A22 : Hid (AtB V22 w.heap.size #[.int .i64 2, .int .i64 ty, .int .i64 co, .int .u32 re, .int .i64 sp, .int .i64 dp, .bool ns, .int .u32 sq, .int .u32 ak, .int .i64 fl, .int .i64 wi, .int .i64 ur, .string (strOfNums os), .string (strOfNums ds)]) := AtB.below AA.out u.rb.bel
      clear u U21 A21 B21
      refine hK _ _ A22.out (fun hHeld => ?_)
      try simp only [List.getElem_toArray, List.getElem_cons_zero, List.getElem_cons_succ, Act.put, List.setIfInBounds_toArray, List.set_cons_zero, List.set_cons_succ]
      refine wpAnyH_ready (rs := [11]) (by kernel_rfl) (by simp) ?_
      refine AllReadyH.cons (o := _) rfl (fun K hK => ?_) AllReadyH.nil
      go_simp
      refine (two_next U22.out (8 + (ds.length : Int)) (by omega)).mono ?_
      rintro e V23 ⟨a66_23, rfl, u, b⟩
      have U23 : Hid (UR (some b20) W2 V23 (.slice a22 4 c22) 4 (be (sp) 2 ++ be (dp) 2)) := u
      have B23 : Hid (BS V23 a66_23 2 (be (8 + (ds.length : Int)) 2)) := b
      have A23 : Hid (AtB V23 w.heap.size #[.int .i64 2, .int .i64 ty, .int .i64 co, .int .u32 re, .int .i64 sp, .int .i64 dp, .bool ns, .int .u32 sq, .int .u32 ak, .int .i64 fl, .int .i64 wi, .int .i64 ur, .string (strOfNums os), .string (strOfNums ds)]) := AtB.below AA.out u.rb.bel
      clear u b U22
      clear A22
      refine hK _ _ A23.out (fun hHeld => ?_)
      try simp only [List.getElem_toArray, List.getElem_cons_zero, List.getElem_cons_succ, Act.put, List.setIfInBounds_toArray, List.set_cons_zero, List.set_cons_succ]
      refine wpAnyH_ready (rs := [12]) (by kernel_rfl) (by simp) ?_
      refine AllReadyH.cons (o := _) rfl (fun K hK => ?_) AllReadyH.nil
      refine step_append_ur (w1 := W2) Try.underlying26 info5 rfl (.tmp 61) (.tmp 66) rfl _ 4 (be (sp) 2 ++ be (dp) 2) rfl U23.out _ 2 2 (be ((8 + (ds.length : Int))) 2) rfl B23.out (by omega) (by omega) ?_
      intro a24 c24 V24 u
      have U24 : Hid (UR (some b20) W2 V24 (.slice a24 6 c24) 6 (be (sp) 2 ++ be (dp) 2 ++ be ((8 + (ds.length : Int))) 2)) := u
      have A24 : Hid (AtB V24 w.heap.size #[.int .i64 2, .int .i64 ty, .int .i64 co, .int .u32 re, .int .i64 sp, .int .i64 dp, .bool ns, .int .u32 sq, .int .u32 ak, .int .i64 fl, .int .i64 wi, .int .i64 ur, .string (strOfNums os), .string (strOfNums ds)]) := AtB.below AA.out u.rb.bel
      clear u U23 A23 B23
      refine hK _ _ A24.out (fun hHeld => ?_)
      try simp only [List.getElem_toArray, List.getElem_cons_zero, List.getElem_cons_succ, Act.put, List.setIfInBounds_toArray, List.set_cons_zero, List.set_cons_succ]
      refine wpAnyH_ready (rs := [14]) (by kernel_rfl) (by simp) ?_
      refine AllReadyH.cons (o := _) rfl (fun K hK => ?_) AllReadyH.nil
      refine step_append_ur (w1 := W2) Try.underlying26 info5 rfl (.tmp 67) (.tmp 68) rfl _ 6 (be (sp) 2 ++ be (dp) 2 ++ be ((8 + (ds.length : Int))) 2) rfl U24.out _ 2 2 ([0, 0]) rfl U24.out.zr.bs (by omega) (by omega) ?_
      intro a25 c25 V25 u
      have U25 : Hid (UR (some b20) W2 V25 (.slice a25 8 c25) 8 (be (sp) 2 ++ be (dp) 2 ++ be ((8 + (ds.length : Int))) 2 ++ [0, 0])) := u
      have A25 : Hid (AtB V25 w.heap.size #[.int .i64 2, .int .i64 ty, .int .i64 co, .int .u32 re, .int .i64 sp, .int .i64 dp, .bool ns, .int .u32 sq, .int .u32 ak, .int .i64 fl, .int .i64 wi, .int .i64 ur, .string (strOfNums os), .string (strOfNums ds)]) := AtB.below AA.out u.rb.bel
      clear u U24 A24
      refine hK _ _ A25.out (fun hHeld => ?_)
      try simp only [List.getElem_toArray, List.getElem_cons_zero, List.getElem_cons_succ, Act.put, List.setIfInBounds_toArray, List.set_cons_zero, List.set_cons_succ]
      refine wpAnyH_ready (rs := [15]) (by kernel_rfl) (by simp) ?_
      refine AllReadyH.cons (o := _) rfl (fun K hK => ?_) AllReadyH.nil
      go_simp
      refine hK _ _ A25.out (fun hHeld => ?_)
      refine wpAnyH_done (by kernel_rfl) ?_ _
      try simp only [List.getElem_toArray, List.getElem_cons_zero, List.getElem_cons_succ, Act.put, List.setIfInBounds_toArray, List.set_cons_zero, List.set_cons_succ]
      obtain ⟨x0, x1, x2, x3, x4, x5, x6, x7, x8, x9, x10, x11, x12, x13⟩ := AtB.cells14 A25.out
      go_wp2_with (at_builtin; refine wpList_append_str (by rfl) _ _ 26 9 rfl W2.heap.size 5 i0 Try.underlying26 Try.underlying9 hi hz0 hz1 hz2 _ 8 _ rfl U25.out.rb.own ds hfd rfl (by omega) U25.out.rb.bel.size ?_)
      intro a5 c5 W5 own5 g5
      have B5 : Hid (Below W2.heap.size W2 W5) := U25.out.rb.bel.grown g5 U25.out.rb.bel.size (fun k hk => (World.ownsRow.lt U25.out.rb.own k hk).1)
      obtain ⟨g, rfl, hg1, hg2⟩ := own_some own5 (by omega)
      have hcc := own_caps own5
      have E5 : Hid (EncS W2 W5 g (8 + ds.length) c5 LL) := by
        show EncS W2 W5 g (8 + ds.length) c5 LL
        rw [← HLL.out]
        exact ⟨own5, B5.out, fits_append (fits_append (fits_append (fits_append (be_bd _ _) (be_bd _ _)) (be_bd _ _)) (fits_two (by omega) (by omega))) hfd, by omega⟩
      have A5 : Hid (AtB W5 w.heap.size #[.int .i64 2, .int .i64 ty, .int .i64 co, .int .u32 re, .int .i64 sp, .int .i64 dp, .bool ns, .int .u32 sq, .int .u32 ak, .int .i64 fl, .int .i64 wi, .int .i64 ur, .string (strOfNums os), .string (strOfNums ds)]) := AtB.below AA.out B5.out
      clear x0 x1 x2 x3 x4 x5 x6 x7 x8 x9 x10 x11 x12 x13 own5 g5 U25 A25 AA
      cases ns
      · cases hns.out
      · obtain ⟨x0, x1, x2, x3, x4, x5, x6, x7, x8, x9, x10, x11, x12, x13⟩ := AtB.cells14 A5.out
        go_wp2
        go_ret2
        exact ⟨some ⟨g, 0, none⟩, c5, rfl, E5.out.bs, ⟨by omega, E5.out.fr BB.out.size⟩, BB.out.trans (E5.out.bel.mono BB.out.size)⟩
  · go_simp
    have Z26 : Hid (Zr (some W2.heap.size) W2 (W2.alloc (.cells #[.int .u8 0, .int .u8 0] 5))) := ZZ.out.build
    have A26 : Hid (AtB (W2.alloc (.cells #[.int .u8 0, .int .u8 0] 5)) w.heap.size #[.int .i64 2, .int .i64 ty, .int .i64 co, .int .u32 re, .int .i64 sp, .int .i64 dp, .bool ns, .int .u32 sq, .int .u32 ak, .int .i64 fl, .int .i64 wi, .int .i64 ur, .string (strOfNums os), .string (strOfNums ds)]) := AtB.below AA.out Z26.out.bel
    clear ZZ
    obtain ⟨V26, hV⟩ : ∃ V', W2.alloc (.cells #[.int .u8 0, .int .u8 0] 5) = V' := ⟨_, rfl⟩
    obtain ⟨b26, hb⟩ : ∃ b', W2.heap.size = b' := ⟨_, rfl⟩
    rw [hV] at Z26 A26
    rw [hb] at Z26
    rw [hV, hb]
    clear hV hb
    refine hK _ _ A26.out (fun hHeld => ?_)
    try simp only [List.getElem_toArray, List.getElem_cons_zero, List.getElem_cons_succ, Act.put, List.setIfInBounds_toArray, List.set_cons_zero, List.set_cons_succ]
    refine wpAnyH_ready (rs := [2]) (by kernel_rfl) (by simp) ?_
    refine AllReadyH.cons (o := _) rfl (fun K hK => ?_) AllReadyH.nil
    go_simp
    refine (two_first Z26.out sp (by omega)).mono ?_
    rintro e V27 ⟨a57_27, rfl, u⟩
    have U27 : Hid (UR (some b26) W2 V27 (.slice a57_27 2 2) 2 (be sp 2)) := u
    have A27 : Hid (AtB V27 w.heap.size #[.int .i64 2, .int .i64 ty, .int .i64 co, .int .u32 re, .int .i64 sp, .int .i64 dp, .bool ns, .int .u32 sq, .int .u32 ak, .int .i64 fl, .int .i64 wi, .int .i64 ur, .string (strOfNums os), .string (strOfNums ds)]) := AtB.below AA.out u.rb.bel
    clear u Z26
    clear A26
    refine hK _ _ A27.out (fun hHeld => ?_)
    try simp only [List.getElem_toArray, List.getElem_cons_zero, List.getElem_cons_succ, Act.put, List.setIfInBounds_toArray, List.set_cons_zero, List.set_cons_succ]
    refine wpAnyH_ready (rs := [5]) (by kernel_rfl) (by simp) ?_
    refine AllReadyH.cons (o := _) rfl (fun K hK => ?_) AllReadyH.nil
    go_simp
    refine (two_next U27.out dp (by omega)).mono ?_
    rintro e V28 ⟨a60_28, rfl, u, b⟩
    have U28 : Hid (UR (some b26) W2 V28 (.slice a57_27 2 2) 2 (be (sp) 2)) := u
    have B28 : Hid (BS V28 a60_28 2 (be dp 2)) := b
    have A28 : Hid (AtB V28 w.heap.size #[.int .i64 2, .int .i64 ty, .int .i64 co, .int .u32 re, .int .i64 sp, .int .i64 dp, .bool ns, .int .u32 sq, .int .u32 ak, .int .i64 fl, .int .i64 wi, .int .i64 ur, .string (strOfNums os), .string (strOfNums ds)]) := AtB.below AA.out u.rb.bel
    clear u b U27
    clear A27
    refine hK _ _ A28.out (fun hHeld => ?_)
    try simp only [List.getElem_toArray, List.getElem_cons_zero, List.getElem_cons_succ, Act.put, List.setIfInBounds_toArray, List.set_cons_zero, List.set_cons_succ]
    refine wpAnyH_ready (rs := [6]) (by kernel_rfl) (by simp) ?_
    refine AllReadyH.cons (o := _) rfl (fun K hK => ?_) AllReadyH.nil
    refine step_append_ur (w1 := W2) Try.underlying26 info5 rfl (.tmp 57) (.tmp 60) rfl _ 2 (be (sp) 2) rfl U28.out _ 2 2 (be (dp) 2) rfl B28.out (by omega) (by omega) ?_
    intro a29 c29 V29 u
    have U29 : Hid (UR (some b26) W2 V29 (.slice a29 4 c29) 4 (be (sp) 2 ++ be (dp) 2)) := u
    have A29 : Hid (AtB V29 w.heap.size #[.int .i64 2, .int .i64 ty, .int .i64 co, .int .u32 re, .int .i64 sp, .int .i64 dp, .bool ns, .int .u32 sq, .int .u32 ak, .int .i64 fl, .int .i64 wi, .int .i64 ur, .string (strOfNums os), .string (strOfNums ds)]) := AtB.below AA.out u.rb.bel
    clear u U28 A28 B28
    refine hK _ _ A29.out (fun hHeld => ?_)
    try simp only [List.getElem_toArray, List.getElem_cons_zero, List.getElem_cons_succ, Act.put, List.setIfInBounds_toArray, List.set_cons_zero, List.set_cons_succ]
    refine wpAnyH_ready (rs := [11]) (by kernel_rfl) (by simp) ?_
    refine AllReadyH.cons (o := _) rfl (fun K hK => ?_) AllReadyH.nil
    go_simp
    refine (two_next U29.out (8 + (ds.length : Int)) (by omega)).mono ?_
    rintro e V30 ⟨a66_30, rfl, u, b⟩
    have U30 : Hid (UR (some b26) W2 V30 (.slice a29 4 c29) 4 (be (sp) 2 ++ be (dp) 2)) := u
    have B30 : Hid (BS V30 a66_30 2 (be (8 + (ds.length : Int)) 2)) := b
    have A30 : Hid (AtB V30 w.heap.size #[.int .i64 2, .int .i64 ty, .int .i64 co, .int .u32 re, .int .i64 sp, .int .i64 dp, .bool ns, .int .u32 sq, .int .u32 ak, .int .i64 fl, .int .i64 wi, .int .i64 ur, .string (strOfNums os), .string (strOfNums ds)]) := AtB.below AA.out u.rb.bel
    clear u b U29
    clear A29
    refine hK _ _ A30.out (fun hHeld => ?_)
    try simp only [List.getElem_toArray, List.getElem_cons_zero, List.getElem_cons_succ, Act.put, List.setIfInBounds_toArray, List.set_cons_zero, List.set_cons_succ]
    refine wpAnyH_ready (rs := [12]) (by kernel_rfl) (by simp) ?_
    refine AllReadyH.cons (o := _) rfl (fun K hK => ?_) AllReadyH.nil
    refine step_append_ur (w1 := W2) Try.underlying26 info5 rfl (.tmp 61) (.tmp 66) rfl _ 4 (be (sp) 2 ++ be (dp) 2) rfl U30.out _ 2 2 (be ((8 + (ds.length : Int))) 2) rfl B30.out (by omega) (by omega) ?_
    intro a31 c31 V31 u
    have U31 : Hid (UR (some b26) W2 V31 (.slice a31 6 c31) 6 (be (sp) 2 ++ be (dp) 2 ++ be ((8 + (ds.length : Int))) 2)) := u
    have A31 : Hid (AtB V31 w.heap.size #[.int .i64 2, .int .i64 ty, .int .i64 co, .int .u32 re, .int .i64 sp, .int .i64 dp, .bool ns, .int .u32 sq, .int .u32 ak, .int .i64 fl, .int .i64 wi, .int .i64 ur, .string (strOfNums os), .string (strOfNums ds)]) := AtB.below AA.out u.rb.bel
    clear u U30 A30 B30
    refine hK _ _ A31.out (fun hHeld => ?_)
    try simp only [List.getElem_toArray, List.getElem_cons_zero, List.getElem_cons_succ, Act.put, List.setIfInBounds_toArray, List.set_cons_zero, List.set_cons_succ]
    refine wpAnyH_ready (rs := [14]) (by kernel_rfl) (by simp) ?_
    refine AllReadyH.cons (o := _) rfl (fun K hK => ?_) AllReadyH.nil
    refine step_append_ur (w1 := W2) Try.underlying26 info5 rfl (.tmp 67) (.tmp 68) rfl _ 6 (be (sp) 2 ++ be (dp) 2 ++ be ((8 + (ds.length : Int))) 2) rfl U31.out _ 2 2 ([0, 0]) rfl U31.out.zr.bs (by omega) (by omega) ?_
    intro a32 c32 V32 u
    have U32 : Hid (UR (some b26) W2 V32 (.slice a32 8 c32) 8 (be (sp) 2 ++ be (dp) 2 ++ be ((8 + (ds.length : Int))) 2 ++ [0, 0])) := u
    have A32 : Hid (AtB V32 w.heap.size #[.int .i64 2, .int .i64 ty, .int .i64 co, .int .u32 re, .int .i64 sp, .int .i64 dp, .bool ns, .int .u32 sq, .int .u32 ak, .int .i64 fl, .int .i64 wi, .int .i64 ur, .string (strOfNums os), .string (strOfNums ds)]) := AtB.below AA.out u.rb.bel
    clear u U31 A31
    refine hK _ _ A32.out (fun hHeld => ?_)
    try simp only [List.getElem_toArray, List.getElem_cons_zero, List.getElem_cons_succ, Act.put, List.setIfInBounds_toArray, List.set_cons_zero, List.set_cons_succ]
    refine wpAnyH_ready (rs := [15]) (by kernel_rfl) (by simp) ?_
    refine AllReadyH.cons (o := _) rfl (fun K hK => ?_) AllReadyH.nil
    go_simp
    refine hK _ _ A32.out (fun hHeld => ?_)
    refine wpAnyH_done (by kernel_rfl) ?_ _
    try simp only [List.getElem_toArray, List.getElem_cons_zero, List.getElem_cons_succ, Act.put, List.setIfInBounds_toArray, List.set_cons_zero, List.set_cons_succ]
    obtain ⟨x0, x1, x2, x3, x4, x5, x6, x7, x8, x9, x10, x11, x12, x13⟩ := AtB.cells14 A32.out
    go_wp2_with (at_builtin; refine wpList_append_str (by rfl) _ _ 26 9 rfl W2.heap.size 5 i0 Try.underlying26 Try.underlying9 hi hz0 hz1 hz2 _ 8 _ rfl U32.out.rb.own ds hfd rfl (by omega) U32.out.rb.bel.size ?_)
    intro a5 c5 W5 own5 g5
    have B5 : Hid (Below W2.heap.size W2 W5) := U32.out.rb.bel.grown g5 U32.out.rb.bel.size (fun k hk => (World.ownsRow.lt U32.out.rb.own k hk).1)
    obtain ⟨g, rfl, hg1, hg2⟩ := own_some own5 (by omega)
    have hcc := own_caps own5
    have E5 : Hid (EncS W2 W5 g (8 + ds.length) c5 LL) := by
      show EncS W2 W5 g (8 + ds.length) c5 LL
      rw [← HLL.out]
      exact ⟨own5, B5.out, fits_append (fits_append (fits_append (fits_append (be_bd _ _) (be_bd _ _)) (be_bd _ _)) (fits_two (by omega) (by omega))) hfd, by omega⟩
    have A5 : Hid (AtB W5 w.heap.size #[.int .i64 2, .int .i64 ty, .int .i64 co, .int .u32 re, .int .i64 sp, .int .i64 dp, .bool ns, .int .u32 sq, .int .u32 ak, .int .i64 fl, .int .i64 wi, .int .i64 ur, .string (strOfNums os), .string (strOfNums ds)]) := AtB.below AA.out B5.out
    clear x0 x1 x2 x3 x4 x5 x6 x7 x8 x9 x10 x11 x12 x13 own5 g5 U32 A32 AA
    cases ns
    · cases hns.out
    · obtain ⟨x0, x1, x2, x3, x4, x5, x6, x7, x8, x9, x10, x11, x12, x13⟩ := AtB.cells14 A5.out
      go_wp2
      go_ret2
      exact ⟨some ⟨g, 0, none⟩, c5, rfl, E5.out.bs, ⟨by omega, E5.out.fr BB.out.size⟩, BB.out.trans (E5.out.bel.mono BB.out.size)⟩
end Go.Proofs.Ytgonckbdkgiddaa
