/- For every head and all data and whatever stands behind the law IpEncodes returns true, and its arguments read as they did; no condition. -/
import Derived.Test.YtajabhffpeckhaaWArgs
import Derived.Test.YtajabhffpeckhaaWDec3
import Derived.Deep.DeepAppendWide
namespace Go.Proofs.Ytajabhffpeckhaa
open Go.ChangeShapes Go.WideShapes Go.ChangeAt Go.RowKit

theorem run_append_bsw {P : Program} (w : World) (base : Nat) (t ty e : TypeId) (i : TypeInfo) (ht : P.underlying t = some (.slice e)) (hi : P.info? e = some i) (hz : i.zero = some (.int .u8 0)) (hsize : i.size = 1) (hby : i.bytes = 1)
    (v : Value) (n : Nat) (xs : List Int) (hown : w.ownsRow base e 1 v n (xs.map (Value.int .u8))) {a : Option Addr} {m : Nat} {zs : List Int} (c : Nat) (hbs : BS w a m zs)
    (hsum : n + m ≤ 200000000000000) (hbase : base ≤ w.heap.size) :
    ∃ v' w', (Builtin.append_ #[t, t] ty #[v, .slice a m c]).run P w = .ok v' w' ∧ w'.ownsRow base e 1 v' (n + m) ((xs ++ zs).map (Value.int .u8)) ∧ w.grownBy w' v.ownBlock := by
  have hml : n + m ≤ maxLen := by unfold maxLen; omega
  rcases a with _ | ad
  · have hm0 : m = 0 := by
      rcases hbs.cells with h | ⟨b, off, h, _⟩
      · exact h
      · cases h
    subst hm0
    have hz0 : zs = [] := List.length_eq_zero_iff.1 hbs.len
    subst hz0
    refine ⟨v, w, run_append_none w base t ty e i 1 ht hi v n c _ hown, by simpa using hown, World.grownBy.refl _ _⟩
  · obtain ⟨v', w', h1, h2, h3, _⟩ := run_append_own_wide (P := P) w base t ty e i (.int .u8 0) 1 1 ht hi hz hsize hby rfl (by decide) v n _ hown ad m c (zs.map (Value.int .u8)) (by simp [hbs.len]) (fun j u hj => by
      obtain ⟨hjl, rfl⟩ := map_get hj
      rcases hbs.cells with h | ⟨b, off, h, hc⟩
      · have := hbs.len; omega
      · cases h
        rw [plain_add]; exact hc j hjl) (ints_oneCell _ _) hml (by omega) hbase
    exact ⟨v', w', h1, by simpa using h2, h3⟩

theorem wpList_append_bsw {P : Program} {w : World} {ops : Array Oper} {rest : List Oper} {o : Oper} {act : Act} {Q : Exit → Act → World → Prop} (hw : Region.wanted o (yielded ops act.tmps) = true) (s x : Operand) (t : TypeId)
    (ho : o.op = .call { callee := .builtin .append, args := #[s, x], argTypes := #[t, t] })
    (base : Nat) (e : TypeId) (i : TypeInfo) (ht : P.underlying t = some (.slice e)) (hi : P.info? e = some i) (hz : i.zero = some (.int .u8 0)) (hsize : i.size = 1) (hby : i.bytes = 1)
    (v : Value) (n : Nat) (xs : List Int) (hs : act.eval s = v) (hown : w.ownsRow base e 1 v n (xs.map (Value.int .u8)))
    (a : Option Addr) (m c : Nat) (zs : List Int) (hx : act.eval x = .slice a m c) (hbs : BS w a m zs) (hsum : n + m ≤ 200000000000000) (hbase : base ≤ w.heap.size)
    (h : ∀ a' cap' w', w'.ownsRow base e 1 (.slice a' (n + m) cap') (n + m) ((xs ++ zs).map (Value.int .u8)) → w.grownBy w' v.ownBlock → wpList P ops Q rest (act.put o.dst (.slice a' (n + m) cap')) w') : wpList P ops Q (o :: rest) act w := by
  refine BigFrame.wpList_want hw fun K hK => ?_
  obtain ⟨v', w', hr, h2, h3⟩ := run_append_bsw (P := P) w base t o.type e i ht hi hz hsize hby v n xs hown c hbs hsum hbase
  obtain ⟨a', cap', rfl, _⟩ := own_form h2
  unfold Oper.wp execOp
  simp only [ho, resolve, invoke, builtin, Sem.run_bind, Sem.run_pure, Result.andThen_ok, List.map_toArray, List.map_cons, List.map_nil, hs, hx, hr]
  exact hK _ _ (h a' cap' w' h2 h3)

set_option maxHeartbeats 2000000 in
theorem ipEncodes_no (w : World) (tos id frag ttl pr src dst : Int) (os : List Int) (ol : os.length ≤ 140737488351232) (a1 : Option Addr) (n1 cap1 : Nat) (a2 : Option Addr) (n2 cap2 : Nat) (_hc1 : n1 ≤ 140737488351232) (hf : encOk tos id frag ttl pr os.length n1 = false) :
    Calls Try.prog 4 #[ipV tos id frag ttl pr src dst os, .slice a1 n1 cap1, .slice a2 n2 cap2] w fun e w' => e = .returned (.bool true) ∧ Below w.heap.size w w' := by
  have hun : ipV tos id frag ttl pr src dst os = .agg #[.int .i64 tos, .int .i64 id, .int .i64 frag, .int .i64 ttl, .int .i64 pr, .int .u32 src, .int .u32 dst, .string (strOfNums os)] := rfl
  have hnil : ∀ W, (convert 22 9 (.slice none 0 0)).run Try.prog W = .ok (.string ByteArray.empty) W := fun W => run_convert_bytes_nil W 22 5 Try.underlying22 Try.underlying5 0 0 9 Try.underlying9
  have A0 : Hid (AtB (w.alloc (.cells #[.int .i64 tos, .int .i64 id, .int .i64 frag, .int .i64 ttl, .int .i64 pr, .int .u32 src, .int .u32 dst, .string (strOfNums os)] 25)) w.heap.size #[.int .i64 tos, .int .i64 id, .int .i64 frag, .int .i64 ttl, .int .i64 pr, .int .u32 src, .int .u32 dst, .string (strOfNums os)]) := atB_new w #[.int .i64 tos, .int .i64 id, .int .i64 frag, .int .i64 ttl, .int .i64 pr, .int .u32 src, .int .u32 dst, .string (strOfNums os)] 25 _ rfl
  have hb0 := below1 w (.cells #[.int .i64 tos, .int .i64 id, .int .i64 frag, .int .i64 ttl, .int .i64 pr, .int .u32 src, .int .u32 dst, .string (strOfNums os)] 25)
  rw [hun]
  go_enter Try.func4, Try.ntmps4
  go_wp2_with fail
  rw [← hun]
  refine (encode_no tos id frag ttl pr src dst os n1 _ (by omega) hf).mono ?_
  rw [hun]
  rintro e W1 ⟨rfl, hb⟩
  have hb1 : Below w.heap.size w W1 := hb0.trans (hb.mono (by simp))
  obtain ⟨x0, x1, x2, x3, x4, x5, x6, x7⟩ := AtB.eight (AtB.below A0.out hb)
  clear hb hb0 A0
  go_wp2_with fail
  rw [← hun]
  refine (rencode_no tos id frag ttl pr src dst os n1 _ (by omega) hf).mono ?_
  rw [hun]
  rintro e W2 ⟨rfl, hb⟩
  have hb2 : Below w.heap.size w W2 := hb1.trans (hb.mono hb1.size)
  clear hb hb1 x0 x1 x2 x3 x4 x5 x6 x7
  go_wp2_with fail
  refine (lives_from hb2).mono ?_
  rintro e W3 ⟨rfl, hb3⟩
  clear hb2
  go_wp2
  go_ret
  exact ⟨rfl, hb3⟩

set_option maxHeartbeats 4000000 in
theorem ipEncodes_yes (w : World) (tos id frag ttl pr src dst : Int) (os : List Int) (bs : 0 ≤ src ∧ src ≤ 4294967295) (bd : 0 ≤ dst ∧ dst ≤ 4294967295) (bo : ∀ i, 0 ≤ os.getD i 0 ∧ os.getD i 0 ≤ 255) (a1 : Option Addr) (n1 cap1 : Nat) (ys : List Int) (hY : BS w a1 n1 ys) (a2 : Option Addr) (n2 cap2 : Nat) (us : List Int) (hU : BS w a2 n2 us) (hc2 : n2 ≤ 140737488351232) (hf : encOk tos id frag ttl pr os.length n1 = true) :
    Calls Try.prog 4 #[ipV tos id frag ttl pr src dst os, .slice a1 n1 cap1, .slice a2 n2 cap2] w fun e w' => e = .returned (.bool true) ∧ Below w.heap.size w w' := by
  obtain ⟨i0, hi, hz0, hz1, hz2⟩ := info_parts info5
  have hun : ipV tos id frag ttl pr src dst os = .agg #[.int .i64 tos, .int .i64 id, .int .i64 frag, .int .i64 ttl, .int .i64 pr, .int .u32 src, .int .u32 dst, .string (strOfNums os)] := rfl
  have hF := encOk_yes hf
  have h40 := hF.most
  have hd := hF.data
  have Hf : Hid _ := hf
  have hbd : Hid _ := ipB_bd hF bs bd bo
  have HY : Hid (BS w a1 n1 ys) := hY
  have HU : Hid (BS w a2 n2 us) := hU
  have hmok : Hid (MOk (ipB tos id frag ttl pr src dst os n1 ++ (ys ++ us)) ((20 + os.length + n1 + n2 : Nat) : Int) (20 + os.length)) := hb_msr _ _ hF bs bd bo (by omega)
  have hread : Hid (ipF (ipB tos id frag ttl pr src dst os n1 ++ (ys ++ us)) (20 + os.length) = ipV tos id frag ttl pr src dst os) := hb_read ..
  have htot : Hid ((ipB tos id frag ttl pr src dst os n1 ++ (ys ++ us)).getD 2 0 * 256 + (ipB tos id frag ttl pr src dst os n1 ++ (ys ++ us)).getD 3 0 = 20 + os.length + n1) := ipB_total ..
  have hBl : (ipB tos id frag ttl pr src dst os n1).length = 20 + os.length := ipB_len ..
  clear hf hF hY hU
  generalize hB : ipB tos id frag ttl pr src dst os n1 = B at *
  have HB : Hid _ := hB
  clear hB
  have A0 : Hid (AtB (w.alloc (.cells #[.int .i64 tos, .int .i64 id, .int .i64 frag, .int .i64 ttl, .int .i64 pr, .int .u32 src, .int .u32 dst, .string (strOfNums os)] 25)) w.heap.size #[.int .i64 tos, .int .i64 id, .int .i64 frag, .int .i64 ttl, .int .i64 pr, .int .u32 src, .int .u32 dst, .string (strOfNums os)]) := atB_new w #[.int .i64 tos, .int .i64 id, .int .i64 frag, .int .i64 ttl, .int .i64 pr, .int .u32 src, .int .u32 dst, .string (strOfNums os)] 25 _ rfl
  have hb0 := below1 w (.cells #[.int .i64 tos, .int .i64 id, .int .i64 frag, .int .i64 ttl, .int .i64 pr, .int .u32 src, .int .u32 dst, .string (strOfNums os)] 25)
  rw [hun]
  go_enter Try.func4, Try.ntmps4
  go_wp2_with fail
  rw [← hun]
  refine (encode_yes tos id frag ttl pr src dst os n1 _ bs bd bo Hf.out).mono ?_
  rw [hun, HB.out]
  rintro e W1 ⟨b1, c1, rfl, ho1, hb⟩
  have hb1 : Below w.heap.size w W1 := hb0.trans (hb.mono (by simp))
  have A1 : Hid (AtB W1 w.heap.size #[.int .i64 tos, .int .i64 id, .int .i64 frag, .int .i64 ttl, .int .i64 pr, .int .u32 src, .int .u32 dst, .string (strOfNums os)]) := AtB.below A0.out hb
  obtain ⟨x0, x1, x2, x3, x4, x5, x6, x7⟩ := AtB.eight A1.out
  have O1 : Hid (BS W1 b1 (20 + os.length) B) := own_bs ho1 hbd.out (by omega)
  clear hb hb0 A0 ho1
  go_wp2_with fail
  rw [← hun]
  refine (rencode_yes tos id frag ttl pr src dst os n1 _ bs bd bo Hf.out).mono ?_
  rw [hun, HB.out]
  rintro e W2 ⟨b2, c2, rfl, hbs2, hb⟩
  have hb2 : Below w.heap.size w W2 := hb1.trans (hb.mono hb1.size)
  have A2 : Hid (AtB W2 w.heap.size #[.int .i64 tos, .int .i64 id, .int .i64 frag, .int .i64 ttl, .int .i64 pr, .int .u32 src, .int .u32 dst, .string (strOfNums os)]) := AtB.below A1.out hb
  have O2 : Hid (BS W2 b1 (20 + os.length) B) := O1.out.below hb
  have R2 : Hid (BS W2 b2 (20 + os.length) B) := hbs2
  clear hb hb1 x0 x1 x2 x3 x4 x5 x6 x7 A1 O1 hbs2
  go_wp2_with fail
  refine (lives_any _).mono ?_
  rintro e W3 ⟨rfl, hb⟩
  have hb3 : Below w.heap.size w W3 := hb2.trans (hb.mono hb2.size)
  have A3 : Hid (AtB W3 w.heap.size #[.int .i64 tos, .int .i64 id, .int .i64 frag, .int .i64 ttl, .int .i64 pr, .int .u32 src, .int .u32 dst, .string (strOfNums os)]) := AtB.below A2.out hb
  have O3 : Hid (BS W3 b1 (20 + os.length) B) := O2.out.below hb
  have cv1 : (convert 22 9 (.slice b1 (20 + os.length) c1)).run Try.prog W3 = .ok (.string (strOfNums B)) W3 := run_conv_bs _ O3.out 22 9 5 Try.underlying22 Try.underlying5 Try.underlying9
  have cv2 : (convert 22 9 (.slice b2 (20 + os.length) c2)).run Try.prog W3 = .ok (.string (strOfNums B)) W3 := run_conv_bs _ (R2.out.below hb) 22 9 5 Try.underlying22 Try.underlying5 Try.underlying9
  clear hb hb2 A2 O2 R2
  go_wp2_with (at_builtin; refine wpList_append_bs (by rfl) _ _ 22 rfl W3.heap.size 5 i0 Try.underlying22 hi hz0 hz1 hz2 _ 0 [] rfl (own_empty W3 _ (Nat.le_refl _)) b1 (20 + os.length) c1 B rfl (O3.out.below (below1 W3 _)) (by omega) (by simp) ?_)
  intro a4 c4 W4 o4 g4
  have b4 : Below W3.heap.size W3 W4 := (below1 W3 _).grown g4 (by simp) (by rintro k ⟨⟩; exact Nat.le_refl _)
  have o5 : W4.ownsRow W3.heap.size 5 1 (.slice a4 (20 + os.length) c4) (20 + os.length) (B.map (Value.int .u8)) := by simpa using o4
  clear o4 g4 cv1 cv2
  go_wp2_with (at_builtin; refine wpList_append_bs (by rfl) _ _ 22 rfl W3.heap.size 5 i0 Try.underlying22 hi hz0 hz1 hz2 _ (20 + os.length) B rfl o5 a1 n1 cap1 ys rfl ((HY.out.below hb3).below b4) (by omega) b4.size ?_)
  intro a6 c6 W6 o6 g6
  have b6 : Below W3.heap.size W3 W6 := b4.grown g6 b4.size (fun k hk => (World.ownsRow.lt o5 k hk).1)
  have O6 : Hid (W6.ownsRow W3.heap.size 5 1 (.slice a6 (20 + os.length + n1) c6) (20 + os.length + n1) ((B ++ ys).map (Value.int .u8))) := by
    show World.ownsRow _ _ _ _ _ _ _
    rw [List.map_append]
    exact o6
  clear g6 o5 b4 o6
  go_wp2_with (at_builtin; refine wpList_append_bsw (by rfl) _ _ 22 rfl W3.heap.size 5 i0 Try.underlying22 hi hz0 hz1 hz2 _ (20 + os.length + n1) (B ++ ys) rfl O6.out a2 n2 cap2 us rfl ((HU.out.below hb3).below b6) (by omega) b6.size ?_)
  intro a7 c7 W7 o7 g7
  have b7 : Below W3.heap.size W3 W7 := b6.grown g7 b6.size (fun k hk => (World.ownsRow.lt O6.out k hk).1)
  have o8 : W7.ownsRow W3.heap.size 5 1 (.slice a7 (20 + os.length + n1 + n2) c7) (20 + os.length + n1 + n2) ((B ++ (ys ++ us)).map (Value.int .u8)) := by
    rw [List.map_append, List.map_append]
    exact o7
  have O7 : Hid (BS W7 a7 (20 + os.length + n1 + n2) (B ++ (ys ++ us))) := own_bs o8 (fits_append hbd.out (fits_append HY.out.fits HU.out.fits)) (by omega)
  have hcc := own_caps o8
  have A7 : Hid (AtB W7 w.heap.size #[.int .i64 tos, .int .i64 id, .int .i64 frag, .int .i64 ttl, .int .i64 pr, .int .u32 src, .int .u32 dst, .string (strOfNums os)]) := AtB.below A3.out b7
  have hb7 : Below w.heap.size w W7 := hb3.trans (b7.mono hb3.size)
  clear O6 o7 o8 g7 b6 b7 A3 O3 hi hz0 hz1 hz2 hb3
  go_wp2_with fail
  refine ((decode_any W7 a7 _ c7 _ O7.out hcc.1).2 (20 + os.length) hmok.out).mono ?_
  rintro e W8 ⟨rfl, hb⟩
  rw [hread.out, htot.out, hun]
  have hb8 : Below w.heap.size w W8 := hb7.trans (hb.mono hb7.size)
  have A8 : Hid (AtB W8 w.heap.size #[.int .i64 tos, .int .i64 id, .int .i64 frag, .int .i64 ttl, .int .i64 pr, .int .u32 src, .int .u32 dst, .string (strOfNums os)]) := AtB.below A7.out hb
  obtain ⟨x0, x1, x2, x3, x4, x5, x6, x7⟩ := AtB.eight (AtB.below A8.out (below1 W8 (.cells #[.int .i64 tos, .int .i64 id, .int .i64 frag, .int .i64 ttl, .int .i64 pr, .int .u32 src, .int .u32 dst, .string (strOfNums os)] 25)))
  clear hb hb7 A7 A8 O7 hcc
  go_wp2
  go_ret
  exact ⟨rfl, hb8.alloc hb8.size _⟩

theorem ipEncodes_walk (w : World) (tos id frag ttl pr src dst : Int) (os : List Int) (bs : 0 ≤ src ∧ src ≤ 4294967295) (bd : 0 ≤ dst ∧ dst ≤ 4294967295) (bo : ∀ i, 0 ≤ os.getD i 0 ∧ os.getD i 0 ≤ 255) (ol : os.length ≤ 140737488351232) (a1 : Option Addr) (n1 cap1 : Nat) (ys : List Int) (hY : BS w a1 n1 ys) (h1 : n1 ≤ cap1) (m1 : cap1 ≤ 140737488351232) (a2 : Option Addr) (n2 cap2 : Nat) (us : List Int) (hU : BS w a2 n2 us) (h2 : n2 ≤ cap2) (m2 : cap2 ≤ 140737488351232) :
    Calls Try.prog 4 #[ipV tos id frag ttl pr src dst os, .slice a1 n1 cap1, .slice a2 n2 cap2] w fun e w' => e = .returned (.bool true) ∧ Below w.heap.size w w' := by
  cases hf : encOk tos id frag ttl pr os.length n1
  · exact ipEncodes_no w tos id frag ttl pr src dst os ol a1 n1 cap1 a2 n2 cap2 (by omega) hf
  · exact ipEncodes_yes w tos id frag ttl pr src dst os bs bd bo a1 n1 cap1 ys hY a2 n2 cap2 us hU (by omega) hf

set_option maxRecDepth 100000 in
theorem ipEncodes_lifted (os : Os) (started : os.Started) (H : Type) (enc : TypeId × Value → H) :
    ReturnsInHanded {} Try.checked os 4 .any (Rows.ipEncodesSpec.pre6 enc Try.prog Try.f4 Rows.ipEncodesRow.domain false) (Rows.ipEncodesSpec.post enc Try.prog Try.f4 false true false false) := by
  refine returnsInHanded_of_change_sized (C := Try.checked) own started (by kernel_rfl) Try.func4
    (ChangeSpec.witness6 (enc := enc) (C := Try.checked) false ⟨#[], #[.agg #[.int .i64 0, .int .i64 0, .int .i64 0, .int .i64 0, .int .i64 0, .int .u32 0, .int .u32 0, .string ⟨#[]⟩], .slice none 0 0, .slice none 0 0], []⟩ 8 (by kernel_rfl) (by kernel_rfl) (by kernel_rfl) (by kernel_rfl)) ?_
  intro W base args ds gs before hval0 hW _ hsz0 _
  have hsz : (DataW.weightsEach Try.prog (Try.f4.params.toList ++ Rows.ipEncodesSpec.plain.varTypes Try.prog) (ds ++ gs)).all (· ≤ reachBytes) = true := hsz0
  clear hsz0
  have hval : ∀ (j : Nat) t v, Try.f4.params[j]? = some t → args[j]? = some v → Value.okWide Try.prog W .any base t v := hval0
  have hW' := hW
  obtain ⟨p, q, hA0, hV, rfl, _, _⟩ := hW
  have hA : DataW.TrodAll enc Try.prog W 0 (fun _ => true) true Try.f4.params.toList args.toList ds p := hA0
  rw [Try.params4] at hA hval hsz
  obtain ⟨v0, vs0, d0, ds0, p0, q0, hargs, rfl, rfl, h0, r0⟩ := trodAll_cons hA
  obtain ⟨v1, vs1, d1, ds1, p1, q1, rfl, rfl, rfl, h1, r1⟩ := trodAll_cons r0
  obtain ⟨v2, vs2, d2, ds2, p2, q2, rfl, rfl, rfl, h2, r2⟩ := trodAll_cons r1
  obtain ⟨rfl, rfl, rfl⟩ := trodAll_nil r2
  obtain rfl : args = #[v0, v1, v2] := by cases args; simp_all
  obtain ⟨rfl, rfl⟩ := trodVars_none hV
  have k0 := h0
  have lt0 : ∀ x ∈ p0, x.block < W.heap.size := by obtain ⟨m, hm⟩ := k0; exact DataW.trod_lt m _ _ _ hm
  obtain ⟨tos0, id0, frag0, ttl0, pr0, src0, dst0, os0, rfl, bf0, bs0, bd0, bo0, bl0⟩ := open_ip 0 (hval 0 25 v0 rfl rfl) h0 hsz rfl rfl
  obtain ⟨a1, len1, cap1, rfl⟩ := okWide_slice Try.underlying22 (hval 1 22 v1 rfl rfl)
  have k1 := h1
  have lt1 : ∀ x ∈ p1, x.block < W.heap.size := by obtain ⟨m, hm⟩ := k1; exact DataW.trod_lt m _ _ _ hm
  obtain ⟨z1, B1, C1, M1⟩ := open_bytes 1 h1 hsz rfl rfl
  obtain ⟨a2, len2, cap2, rfl⟩ := okWide_slice Try.underlying22 (hval 2 22 v2 rfl rfl)
  have k2 := h2
  have lt2 : ∀ x ∈ p2, x.block < W.heap.size := by obtain ⟨m, hm⟩ := k2; exact DataW.trod_lt m _ _ _ hm
  obtain ⟨z2, B2, C2, M2⟩ := open_bytes 2 h2 hsz rfl rfl
  clear hA0 hval0
  refine (ipEncodes_walk W tos0 id0 frag0 ttl0 pr0 src0 dst0 os0 bs0 bd0 bo0 bl0 a1 len1 cap1 z1 B1 C1 M1 a2 len2 cap2 z2 B2 C2 M2).mono fun e W' ⟨he, bel⟩ => ?_
  subst he
  exact ⟨_, rfl, _, _, _, [], _, [], hW', trodAll_mk1 (shut_bool Try.underlying4 _), (trodAll_cons_mk (Below.trod laidOut (by kernel_rfl) (of_decide_eq_true (by kernel_rfl)) k0 bel lt0) (trodAll_cons_mk (Below.trod laidOut (by kernel_rfl) (of_decide_eq_true (by kernel_rfl)) k1 bel lt1) (trodAll_cons_mk (Below.trod laidOut (by kernel_rfl) (of_decide_eq_true (by kernel_rfl)) k2 bel lt2) trodAll_mk0))), rfl, bel.frame _, fun h => by cases h⟩

theorem ipEncodes_proved : Rows.IpEncodesSaid :=
  OpenClaim.holds_of_wide 4 Try.f4 rfl rfl rfl rfl rfl rfl rfl ⟨rfl, rfl, rfl, rfl, rfl⟩ rfl rfl rfl rfl rfl (by kernel_rfl) Try.func4 (by kernel_rfl)
    (of_decide_eq_true (by kernel_rfl)) (by unfold Func.isWrapper; first | (rw [if_pos (by decide +kernel)]; kernel_rfl) | (rw [if_neg (by decide +kernel)]; exact ⟨rfl, rfl⟩))
    (fun os started H enc _ => ipEncodes_lifted os started H enc)
#print axioms ipEncodes_proved
end Go.Proofs.Ytajabhffpeckhaa
