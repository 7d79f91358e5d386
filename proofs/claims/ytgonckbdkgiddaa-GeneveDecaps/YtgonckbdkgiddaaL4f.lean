/- What headOf of package l4 answers of packets of all kinds whose numbers fit. Conditions: as said. -/
import Derived.Test.YtgonckbdkgiddaaL4e
import Derived.Test.YtgonckbdkgiddaaL4x
namespace Go.Proofs.Ytgonckbdkgiddaa
open Go.RowKit

theorem own_keep {W W' : World} {base : Nat} {e : TypeId} {v : Value} {n : Nat} {xs : List Value} (h : W.ownsRow base e 1 v n xs) (hb : Below W.heap.size W W') : W'.ownsRow base e 1 v n xs := by
  obtain ⟨h1, h2⟩ := h
  refine ⟨h1, ?_⟩
  rcases h2 with h2 | ⟨g, cap, cur, e1, e2, e3, e4⟩
  · exact .inl h2
  · exact .inr ⟨g, cap, cur, e1, e2, (hb.block g (lt_of_block e3)).trans e3, e4⟩
theorem Enc.keep {w0 W W' : World} {p : Nat} {xs : List Int} (h : Enc w0 W p xs) (hb : Below W.heap.size W W') : Enc w0 W' p xs := by
  obtain ⟨h1, h2, a, cap, h3, h4⟩ := h
  exact ⟨h1.trans (hb.mono h1.size), h2, a, cap, (hb.block p (lt_of_block h3)).trans h3, own_keep h4 hb⟩
/-- The head of a packet, its check sum 0. -/
def headL (k ty co re sp dp sq ak fl wi ur : Int) (on dn : Nat) : List Int :=
  if k = 1 then [] ++ be ty (1 : Int).toNat ++ be co (1 : Int).toNat ++ be 0 (2 : Int).toNat ++ be re (4 : Int).toNat
  else if k = 2 then [] ++ be sp (2 : Int).toNat ++ be dp (2 : Int).toNat ++ be (8 + (dn : Int)) (2 : Int).toNat ++ be 0 (2 : Int).toNat
  else if k = 3 then [] ++ be sp (2 : Int).toNat ++ be dp (2 : Int).toNat ++ be sq (4 : Int).toNat ++ be ak (4 : Int).toNat ++ be ((20 + (on : Int)) / 4 * 4096 + fl) (2 : Int).toNat ++ be wi (2 : Int).toNat ++ be 0 (2 : Int).toNat ++ be ur (2 : Int).toNat
  else []
theorem headL_fits (k ty co re sp dp sq ak fl wi ur : Int) (on dn : Nat) : ∀ i, 0 ≤ (headL k ty co re sp dp sq ak fl wi ur on dn).getD i 0 ∧ (headL k ty co re sp dp sq ak fl wi ur on dn).getD i 0 ≤ 255 := by
  have h0 : ∀ i, 0 ≤ ([] : List Int).getD i 0 ∧ ([] : List Int).getD i 0 ≤ 255 := fun i => by simp
  unfold headL
  split
  · exact fits_append (fits_append (fits_append (fits_append h0 (be_bd _ _)) (be_bd _ _)) (be_bd _ _)) (be_bd _ _)
  split
  · exact fits_append (fits_append (fits_append (fits_append h0 (be_bd _ _)) (be_bd _ _)) (be_bd _ _)) (be_bd _ _)
  split
  · exact fits_append (fits_append (fits_append (fits_append (fits_append (fits_append (fits_append (fits_append h0 (be_bd _ _)) (be_bd _ _)) (be_bd _ _)) (be_bd _ _)) (be_bd _ _)) (be_bd _ _)) (be_bd _ _)) (be_bd _ _)
  · exact h0
theorem headL_len (k ty co re sp dp sq ak fl wi ur : Int) (on dn : Nat) : ((headL k ty co re sp dp sq ak fl wi ur on dn).length : Int) = fixV k := by
  unfold headL fixV
  split
  · simp [be_len]
  split
  · simp [be_len]
  split
  · simp [be_len]
  · rfl
set_option maxHeartbeats 2000000 in
theorem head_icmp (ty co re sp dp : Int) (ns : Bool) (sq ak fl wi ur : Int) (os ds : List Int) (w : World) (h1 : 0 ≤ ty ∧ ty ≤ 255) (h2 : 0 ≤ co ∧ co ≤ 255) (h3 : 0 ≤ re ∧ re ≤ 4294967295) :
    Calls Try.prog 40 #[l4V 1 ty co re sp dp ns sq ak fl wi ur os ds] w fun e w' => ∃ a cap, e = .returned (.slice a 8 cap) ∧ BS w' a 8 (headL 1 ty co re sp dp sq ak fl wi ur os.length ds.length) ∧ Below w.heap.size w w' := by
  have hw : wrap64 re = re := by unfold wrap64; omega
  have hmk : ∀ w, (Instr.makeSlice 26 (.int .i64 0) (.int .i64 20)).run Try.prog w = .ok (.slice (some ⟨w.heap.size, 0, none⟩) 0 20) (w.alloc (.cells (madeCells #[.int .u8 0] 20) 5)) := fun w => make_bytes w 20 (by omega)
  unfold l4V
  go_enter Try.func40, Try.ntmps40
  go_wp2_with fail
  clear hmk
  have he := enc_start (w.alloc (.cells #[.int .i64 1, .int .i64 ty, .int .i64 co, .int .u32 re, .int .i64 sp, .int .i64 dp, .bool ns, .int .u32 sq, .int .u32 ak, .int .i64 fl, .int .i64 wi, .int .i64 ur, .string (strOfNums os), .string (strOfNums ds)] 48)) (madeCells #[.int .u8 0] 20) 20 (w.heap.size + 1 + 1) (w.heap.size + 1) (by simp) (by simp) (by simp [size_madeCells]) (by omega)
  have hA : Hid (AtB (w.alloc (.cells #[.int .i64 1, .int .i64 ty, .int .i64 co, .int .u32 re, .int .i64 sp, .int .i64 dp, .bool ns, .int .u32 sq, .int .u32 ak, .int .i64 fl, .int .i64 wi, .int .i64 ur, .string (strOfNums os), .string (strOfNums ds)] 48)) w.heap.size #[.int .i64 1, .int .i64 ty, .int .i64 co, .int .u32 re, .int .i64 sp, .int .i64 dp, .bool ns, .int .u32 sq, .int .u32 ak, .int .i64 fl, .int .i64 wi, .int .i64 ur, .string (strOfNums os), .string (strOfNums ds)]) := atB_new w #[.int .i64 1, .int .i64 ty, .int .i64 co, .int .u32 re, .int .i64 sp, .int .i64 dp, .bool ns, .int .u32 sq, .int .u32 ak, .int .i64 fl, .int .i64 wi, .int .i64 ur, .string (strOfNums os), .string (strOfNums ds)] 48 _ rfl
  have hbw := below1 w (.cells #[.int .i64 1, .int .i64 ty, .int .i64 co, .int .u32 re, .int .i64 sp, .int .i64 dp, .bool ns, .int .u32 sq, .int .u32 ak, .int .i64 fl, .int .i64 wi, .int .i64 ur, .string (strOfNums os), .string (strOfNums ds)] 48)
  have hw2 : (w.alloc (.cells #[.int .i64 1, .int .i64 ty, .int .i64 co, .int .u32 re, .int .i64 sp, .int .i64 dp, .bool ns, .int .u32 sq, .int .u32 ak, .int .i64 fl, .int .i64 wi, .int .i64 ur, .string (strOfNums os), .string (strOfNums ds)] 48)).heap.size = w.heap.size + 1 := by simp
  generalize (w.alloc (.cells #[.int .i64 1, .int .i64 ty, .int .i64 co, .int .u32 re, .int .i64 sp, .int .i64 dp, .bool ns, .int .u32 sq, .int .u32 ak, .int .i64 fl, .int .i64 wi, .int .i64 ur, .string (strOfNums os), .string (strOfNums ds)] 48)) = w2 at he hA hbw hw2 ⊢
  have E0 : Hid _ := he
  clear he
  refine (put_lit _ _ _ _ E0.out (by simp) (ty) (by omega) 1 (by omega) (by omega)).mono ?_
  clear E0
  rintro e W1 ⟨rfl, p1⟩
  have E1 : Hid _ := p1
  obtain ⟨x0, x1, x2, x3, x4, x5, x6, x7, x8, x9, x10, x11, x12, x13⟩ := AtB.cells14 (AtB.below hA.out p1.bel)
  clear p1
  go_wp2_with fail
  clear x0 x1 x2 x3 x4 x5 x6 x7 x8 x9 x10 x11 x12 x13
  refine (put_lit _ _ _ _ E1.out (by simp [be_len]) (co) (by omega) 1 (by omega) (by omega)).mono ?_
  clear E1
  rintro e W2 ⟨rfl, p2⟩
  have E2 : Hid _ := p2
  obtain ⟨x0, x1, x2, x3, x4, x5, x6, x7, x8, x9, x10, x11, x12, x13⟩ := AtB.cells14 (AtB.below hA.out p2.bel)
  clear p2
  go_wp2_with fail
  clear x0 x1 x2 x3 x4 x5 x6 x7 x8 x9 x10 x11 x12 x13
  refine (put_lit _ _ _ _ E2.out (by simp [be_len]) (0) (by omega) 2 (by omega) (by omega)).mono ?_
  clear E2
  rintro e W3 ⟨rfl, p3⟩
  have E3 : Hid _ := p3
  obtain ⟨x0, x1, x2, x3, x4, x5, x6, x7, x8, x9, x10, x11, x12, x13⟩ := AtB.cells14 (AtB.below hA.out p3.bel)
  clear p3
  go_wp2_with fail
  clear x0 x1 x2 x3 x4 x5 x6 x7 x8 x9 x10 x11 x12 x13
  refine (put_lit _ _ _ _ E3.out (by simp [be_len]) (re) (by omega) 4 (by omega) (by omega)).mono ?_
  clear E3
  rintro e W4 ⟨rfl, p4⟩
  have E4 : Hid _ := p4
  have hbel := p4.bel
  obtain ⟨a, cap, hc, hr⟩ := p4.row
  have hcc : W4.cell? ⟨w.heap.size + 1 + 1, 0, none⟩ = some (.slice a 8 cap) := cell_of_one hc
  have HR : Hid (W4.ownsRow w2.heap.size 5 1 (.slice a 8 cap) 8 ((headL 1 ty co re sp dp sq ak fl wi ur os.length ds.length).map (Value.int .u8))) := hr
  clear p4 hc hr E4
  go_wp2
  go_ret
  exact ⟨a, cap, rfl, own_bs HR.out (headL_fits _ _ _ _ _ _ _ _ _ _ _ _ _) (by omega), hbw.trans (hbel.mono (by omega))⟩
set_option maxHeartbeats 2000000 in
theorem head_udp (ty co re sp dp : Int) (ns : Bool) (sq ak fl wi ur : Int) (os ds : List Int) (w : World) (h1 : 0 ≤ sp ∧ sp ≤ 65535) (h2 : 0 ≤ dp ∧ dp ≤ 65535) (ho : os.length = 0) (hd : ds.length ≤ 65507) :
    Calls Try.prog 40 #[l4V 2 ty co re sp dp ns sq ak fl wi ur os ds] w fun e w' => ∃ a cap, e = .returned (.slice a 8 cap) ∧ BS w' a 8 (headL 2 ty co re sp dp sq ak fl wi ur os.length ds.length) ∧ Below w.heap.size w w' := by
  have hfx : fixV 2 + (os.length : Int) + ds.length = 8 + ds.length := by rw [ho]; simp [fixV]
  have hdI : (ds.length : Int) ≤ 65507 := by omega
  have hmk : ∀ w, (Instr.makeSlice 26 (.int .i64 0) (.int .i64 20)).run Try.prog w = .ok (.slice (some ⟨w.heap.size, 0, none⟩) 0 20) (w.alloc (.cells (madeCells #[.int .u8 0] 20) 5)) := fun w => make_bytes w 20 (by omega)
  unfold l4V
  go_enter Try.func40, Try.ntmps40
  go_wp2_with fail
  clear hmk
  have he := enc_start (w.alloc (.cells #[.int .i64 2, .int .i64 ty, .int .i64 co, .int .u32 re, .int .i64 sp, .int .i64 dp, .bool ns, .int .u32 sq, .int .u32 ak, .int .i64 fl, .int .i64 wi, .int .i64 ur, .string (strOfNums os), .string (strOfNums ds)] 48)) (madeCells #[.int .u8 0] 20) 20 (w.heap.size + 1 + 1) (w.heap.size + 1) (by simp) (by simp) (by simp [size_madeCells]) (by omega)
  have hA : Hid (AtB (w.alloc (.cells #[.int .i64 2, .int .i64 ty, .int .i64 co, .int .u32 re, .int .i64 sp, .int .i64 dp, .bool ns, .int .u32 sq, .int .u32 ak, .int .i64 fl, .int .i64 wi, .int .i64 ur, .string (strOfNums os), .string (strOfNums ds)] 48)) w.heap.size #[.int .i64 2, .int .i64 ty, .int .i64 co, .int .u32 re, .int .i64 sp, .int .i64 dp, .bool ns, .int .u32 sq, .int .u32 ak, .int .i64 fl, .int .i64 wi, .int .i64 ur, .string (strOfNums os), .string (strOfNums ds)]) := atB_new w #[.int .i64 2, .int .i64 ty, .int .i64 co, .int .u32 re, .int .i64 sp, .int .i64 dp, .bool ns, .int .u32 sq, .int .u32 ak, .int .i64 fl, .int .i64 wi, .int .i64 ur, .string (strOfNums os), .string (strOfNums ds)] 48 _ rfl
  have hbw := below1 w (.cells #[.int .i64 2, .int .i64 ty, .int .i64 co, .int .u32 re, .int .i64 sp, .int .i64 dp, .bool ns, .int .u32 sq, .int .u32 ak, .int .i64 fl, .int .i64 wi, .int .i64 ur, .string (strOfNums os), .string (strOfNums ds)] 48)
  have hw2 : (w.alloc (.cells #[.int .i64 2, .int .i64 ty, .int .i64 co, .int .u32 re, .int .i64 sp, .int .i64 dp, .bool ns, .int .u32 sq, .int .u32 ak, .int .i64 fl, .int .i64 wi, .int .i64 ur, .string (strOfNums os), .string (strOfNums ds)] 48)).heap.size = w.heap.size + 1 := by simp
  generalize (w.alloc (.cells #[.int .i64 2, .int .i64 ty, .int .i64 co, .int .u32 re, .int .i64 sp, .int .i64 dp, .bool ns, .int .u32 sq, .int .u32 ak, .int .i64 fl, .int .i64 wi, .int .i64 ur, .string (strOfNums os), .string (strOfNums ds)] 48)) = w2 at he hA hbw hw2 ⊢
  have E0 : Hid _ := he
  clear he
  refine (put_lit _ _ _ _ E0.out (by simp) (sp) (by omega) 2 (by omega) (by omega)).mono ?_
  clear E0
  rintro e W1 ⟨rfl, p1⟩
  have E1 : Hid _ := p1
  obtain ⟨x0, x1, x2, x3, x4, x5, x6, x7, x8, x9, x10, x11, x12, x13⟩ := AtB.cells14 (AtB.below hA.out p1.bel)
  clear p1
  go_wp2_with fail
  clear x0 x1 x2 x3 x4 x5 x6 x7 x8 x9 x10 x11 x12 x13
  refine (put_lit _ _ _ _ E1.out (by simp [be_len]) (dp) (by omega) 2 (by omega) (by omega)).mono ?_
  clear E1
  rintro e W2 ⟨rfl, p2⟩
  have E2 : Hid _ := p2
  obtain ⟨x0, x1, x2, x3, x4, x5, x6, x7, x8, x9, x10, x11, x12, x13⟩ := AtB.cells14 (AtB.below hA.out p2.bel)
  clear p2
  go_wp2_with fail
  clear x0 x1 x2 x3 x4 x5 x6 x7 x8 x9 x10 x11 x12 x13
  change Calls Try.prog 39 #[l4V 2 ty co re sp dp ns sq ak fl wi ur os ds] _ _
  refine (sizeOf_any _ _ _ _ _ _ _ _ _ _ _ _ _ _ _ (by omega) (by omega)).mono ?_
  rw [hfx]
  rintro e Ws ⟨rfl, hbs⟩
  replace E2 : Hid _ := E2.out.keep hbs
  clear hbs
  go_wp2_with fail
  refine (put_lit _ _ _ _ E2.out (by simp [be_len]) (8 + (ds.length : Int)) (by omega) 2 (by omega) (by omega)).mono ?_
  clear E2
  rintro e W3 ⟨rfl, p3⟩
  have E3 : Hid _ := p3
  obtain ⟨x0, x1, x2, x3, x4, x5, x6, x7, x8, x9, x10, x11, x12, x13⟩ := AtB.cells14 (AtB.below hA.out p3.bel)
  clear p3
  go_wp2_with fail
  clear x0 x1 x2 x3 x4 x5 x6 x7 x8 x9 x10 x11 x12 x13
  refine (put_lit _ _ _ _ E3.out (by simp [be_len]) (0) (by omega) 2 (by omega) (by omega)).mono ?_
  clear E3
  rintro e W4 ⟨rfl, p4⟩
  have E4 : Hid _ := p4
  have hbel := p4.bel
  obtain ⟨a, cap, hc, hr⟩ := p4.row
  have hcc : W4.cell? ⟨w.heap.size + 1 + 1, 0, none⟩ = some (.slice a 8 cap) := cell_of_one hc
  have HR : Hid (W4.ownsRow w2.heap.size 5 1 (.slice a 8 cap) 8 ((headL 2 ty co re sp dp sq ak fl wi ur os.length ds.length).map (Value.int .u8))) := hr
  clear p4 hc hr E4
  go_wp2
  go_ret
  exact ⟨a, cap, rfl, own_bs HR.out (headL_fits _ _ _ _ _ _ _ _ _ _ _ _ _) (by omega), hbw.trans (hbel.mono (by omega))⟩
theorem or12 (x y : Int) (hx0 : 0 ≤ x) (hx1 : x ≤ 15) (hy0 : 0 ≤ y) (hy1 : y ≤ 4095) : bits .or .i64 (x * 4096) y = x * 4096 + y := by
  have hw : ∀ n : Int, 0 ≤ n → n < 2 ^ 63 → IntKind.i64.wrap n = n := fun n a b => by
    simp [IntKind.wrap, IntKind.bits, IntKind.signed]; omega
  exact bits_join .i64 63 (by decide) hw 12 (x * 4096) y (by omega) (by omega) (by omega) hy0 (by omega) (by omega)
set_option maxHeartbeats 2000000 in
theorem head_tcp (ty co re sp dp : Int) (ns : Bool) (sq ak fl wi ur : Int) (os ds : List Int) (w : World) (h1 : 0 ≤ sp ∧ sp ≤ 65535) (h2 : 0 ≤ dp ∧ dp ≤ 65535) (h3 : 0 ≤ sq ∧ sq ≤ 4294967295) (h4 : 0 ≤ ak ∧ ak ≤ 4294967295) (h5 : 0 ≤ fl ∧ fl ≤ 4095) (h6 : 0 ≤ wi ∧ wi ≤ 65535) (h7 : 0 ≤ ur ∧ ur ≤ 65535) (ho : os.length ≤ 40) :
    Calls Try.prog 40 #[l4V 3 ty co re sp dp ns sq ak fl wi ur os ds] w fun e w' => ∃ a cap, e = .returned (.slice a 20 cap) ∧ BS w' a 20 (headL 3 ty co re sp dp sq ak fl wi ur os.length ds.length) ∧ Below w.heap.size w w' := by
  have hoI : (os.length : Int) ≤ 40 := by omega
  have hsz := strOfNums_size os
  have hw1 : wrap64 sq = sq := by unfold wrap64; omega
  have hw2 : wrap64 ak = ak := by unfold wrap64; omega
  have hdv : (20 + (os.length : Int)).tdiv 4 = (20 + (os.length : Int)) / 4 := Int.tdiv_eq_ediv_of_nonneg (by omega)
  have hor : bits .or .i64 ((20 + (os.length : Int)) / 4 * 4096) fl = (20 + (os.length : Int)) / 4 * 4096 + fl := or12 _ _ (by omega) (by omega) h5.1 h5.2
  have hmk : ∀ w, (Instr.makeSlice 26 (.int .i64 0) (.int .i64 20)).run Try.prog w = .ok (.slice (some ⟨w.heap.size, 0, none⟩) 0 20) (w.alloc (.cells (madeCells #[.int .u8 0] 20) 5)) := fun w => make_bytes w 20 (by omega)
  unfold l4V
  go_enter Try.func40, Try.ntmps40
  go_wp2_with fail
  clear hmk
  have he := enc_start (w.alloc (.cells #[.int .i64 3, .int .i64 ty, .int .i64 co, .int .u32 re, .int .i64 sp, .int .i64 dp, .bool ns, .int .u32 sq, .int .u32 ak, .int .i64 fl, .int .i64 wi, .int .i64 ur, .string (strOfNums os), .string (strOfNums ds)] 48)) (madeCells #[.int .u8 0] 20) 20 (w.heap.size + 1 + 1) (w.heap.size + 1) (by simp) (by simp) (by simp [size_madeCells]) (by omega)
  have hA : Hid (AtB (w.alloc (.cells #[.int .i64 3, .int .i64 ty, .int .i64 co, .int .u32 re, .int .i64 sp, .int .i64 dp, .bool ns, .int .u32 sq, .int .u32 ak, .int .i64 fl, .int .i64 wi, .int .i64 ur, .string (strOfNums os), .string (strOfNums ds)] 48)) w.heap.size #[.int .i64 3, .int .i64 ty, .int .i64 co, .int .u32 re, .int .i64 sp, .int .i64 dp, .bool ns, .int .u32 sq, .int .u32 ak, .int .i64 fl, .int .i64 wi, .int .i64 ur, .string (strOfNums os), .string (strOfNums ds)]) := atB_new w #[.int .i64 3, .int .i64 ty, .int .i64 co, .int .u32 re, .int .i64 sp, .int .i64 dp, .bool ns, .int .u32 sq, .int .u32 ak, .int .i64 fl, .int .i64 wi, .int .i64 ur, .string (strOfNums os), .string (strOfNums ds)] 48 _ rfl
  have hbw := below1 w (.cells #[.int .i64 3, .int .i64 ty, .int .i64 co, .int .u32 re, .int .i64 sp, .int .i64 dp, .bool ns, .int .u32 sq, .int .u32 ak, .int .i64 fl, .int .i64 wi, .int .i64 ur, .string (strOfNums os), .string (strOfNums ds)] 48)
  have hw2 : (w.alloc (.cells #[.int .i64 3, .int .i64 ty, .int .i64 co, .int .u32 re, .int .i64 sp, .int .i64 dp, .bool ns, .int .u32 sq, .int .u32 ak, .int .i64 fl, .int .i64 wi, .int .i64 ur, .string (strOfNums os), .string (strOfNums ds)] 48)).heap.size = w.heap.size + 1 := by simp
  generalize (w.alloc (.cells #[.int .i64 3, .int .i64 ty, .int .i64 co, .int .u32 re, .int .i64 sp, .int .i64 dp, .bool ns, .int .u32 sq, .int .u32 ak, .int .i64 fl, .int .i64 wi, .int .i64 ur, .string (strOfNums os), .string (strOfNums ds)] 48)) = w2 at he hA hbw hw2 ⊢
  have E0 : Hid _ := he
  clear he
  refine (put_lit _ _ _ _ E0.out (by simp) (sp) (by omega) 2 (by omega) (by omega)).mono ?_
  clear E0
  rintro e W1 ⟨rfl, p1⟩
  have E1 : Hid _ := p1
  obtain ⟨x0, x1, x2, x3, x4, x5, x6, x7, x8, x9, x10, x11, x12, x13⟩ := AtB.cells14 (AtB.below hA.out p1.bel)
  clear p1
  go_wp2_with fail
  clear x0 x1 x2 x3 x4 x5 x6 x7 x8 x9 x10 x11 x12 x13
  refine (put_lit _ _ _ _ E1.out (by simp [be_len]) (dp) (by omega) 2 (by omega) (by omega)).mono ?_
  clear E1
  rintro e W2 ⟨rfl, p2⟩
  have E2 : Hid _ := p2
  obtain ⟨x0, x1, x2, x3, x4, x5, x6, x7, x8, x9, x10, x11, x12, x13⟩ := AtB.cells14 (AtB.below hA.out p2.bel)
  clear p2
  go_wp2_with fail
  clear x0 x1 x2 x3 x4 x5 x6 x7 x8 x9 x10 x11 x12 x13
  refine (put_lit _ _ _ _ E2.out (by simp [be_len]) (sq) (by omega) 4 (by omega) (by omega)).mono ?_
  clear E2
  rintro e W3 ⟨rfl, p3⟩
  have E3 : Hid _ := p3
  obtain ⟨x0, x1, x2, x3, x4, x5, x6, x7, x8, x9, x10, x11, x12, x13⟩ := AtB.cells14 (AtB.below hA.out p3.bel)
  clear p3
  go_wp2_with fail
  clear x0 x1 x2 x3 x4 x5 x6 x7 x8 x9 x10 x11 x12 x13
  refine (put_lit _ _ _ _ E3.out (by simp [be_len]) (ak) (by omega) 4 (by omega) (by omega)).mono ?_
  clear E3
  rintro e W4 ⟨rfl, p4⟩
  have E4 : Hid _ := p4
  obtain ⟨x0, x1, x2, x3, x4, x5, x6, x7, x8, x9, x10, x11, x12, x13⟩ := AtB.cells14 (AtB.below hA.out p4.bel)
  clear p4
  go_wp2_with fail
  clear x0 x1 x2 x3 x4 x5 x6 x7 x8 x9 x10 x11 x12 x13
  refine (put_lit _ _ _ _ E4.out (by simp [be_len]) ((20 + (os.length : Int)) / 4 * 4096 + fl) (by omega) 2 (by omega) (by omega)).mono ?_
  clear E4
  rintro e W5 ⟨rfl, p5⟩
  have E5 : Hid _ := p5
  obtain ⟨x0, x1, x2, x3, x4, x5, x6, x7, x8, x9, x10, x11, x12, x13⟩ := AtB.cells14 (AtB.below hA.out p5.bel)
  clear p5
  go_wp2_with fail
  clear x0 x1 x2 x3 x4 x5 x6 x7 x8 x9 x10 x11 x12 x13
  refine (put_lit _ _ _ _ E5.out (by simp [be_len]) (wi) (by omega) 2 (by omega) (by omega)).mono ?_
  clear E5
  rintro e W6 ⟨rfl, p6⟩
  have E6 : Hid _ := p6
  obtain ⟨x0, x1, x2, x3, x4, x5, x6, x7, x8, x9, x10, x11, x12, x13⟩ := AtB.cells14 (AtB.below hA.out p6.bel)
  clear p6
  go_wp2_with fail
  clear x0 x1 x2 x3 x4 x5 x6 x7 x8 x9 x10 x11 x12 x13
  refine (put_lit _ _ _ _ E6.out (by simp [be_len]) (0) (by omega) 2 (by omega) (by omega)).mono ?_
  clear E6
  rintro e W7 ⟨rfl, p7⟩
  have E7 : Hid _ := p7
  obtain ⟨x0, x1, x2, x3, x4, x5, x6, x7, x8, x9, x10, x11, x12, x13⟩ := AtB.cells14 (AtB.below hA.out p7.bel)
  clear p7
  go_wp2_with fail
  clear x0 x1 x2 x3 x4 x5 x6 x7 x8 x9 x10 x11 x12 x13
  refine (put_lit _ _ _ _ E7.out (by simp [be_len]) (ur) (by omega) 2 (by omega) (by omega)).mono ?_
  clear E7
  rintro e W8 ⟨rfl, p8⟩
  have E8 : Hid _ := p8
  have hbel := p8.bel
  obtain ⟨a, cap, hc, hr⟩ := p8.row
  have hcc : W8.cell? ⟨w.heap.size + 1 + 1, 0, none⟩ = some (.slice a 20 cap) := cell_of_one hc
  have HR : Hid (W8.ownsRow w2.heap.size 5 1 (.slice a 20 cap) 20 ((headL 3 ty co re sp dp sq ak fl wi ur os.length ds.length).map (Value.int .u8))) := hr
  clear p8 hc hr E8
  go_wp2
  go_ret
  exact ⟨a, cap, rfl, own_bs HR.out (headL_fits _ _ _ _ _ _ _ _ _ _ _ _ _) (by omega), hbw.trans (hbel.mono (by omega))⟩
set_option maxHeartbeats 2000000 in
theorem head_opaque (ty co re sp dp : Int) (ns : Bool) (sq ak fl wi ur : Int) (os ds : List Int) (w : World) :
    Calls Try.prog 40 #[l4V 0 ty co re sp dp ns sq ak fl wi ur os ds] w fun e w' => ∃ a cap, e = .returned (.slice a 0 cap) ∧ BS w' a 0 (headL 0 ty co re sp dp sq ak fl wi ur os.length ds.length) ∧ Below w.heap.size w w' := by
  have hmk : ∀ w, (Instr.makeSlice 26 (.int .i64 0) (.int .i64 20)).run Try.prog w = .ok (.slice (some ⟨w.heap.size, 0, none⟩) 0 20) (w.alloc (.cells (madeCells #[.int .u8 0] 20) 5)) := fun w => make_bytes w 20 (by omega)
  unfold l4V
  go_enter Try.func40, Try.ntmps40
  go_wp2
  go_ret
  exact ⟨_, _, rfl, BS.empty _, below3 _ _ _ _⟩
end Go.Proofs.Ytgonckbdkgiddaa
