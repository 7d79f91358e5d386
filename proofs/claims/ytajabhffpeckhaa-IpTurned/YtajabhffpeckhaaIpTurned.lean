/- For every head and every number the law IpTurned returns true, and its arguments read as they did; no condition. -/
import Derived.Test.YtajabhffpeckhaaArgs
import Derived.Test.YtajabhffpeckhaaDec3
import Derived.BigRegion
namespace Go.Proofs.Ytajabhffpeckhaa
open Go.ChangeShapes Go.WideShapes Go.ChangeAt Go.RowKit

set_option maxHeartbeats 1000000 in
theorem ipTurned_no (w : World) (tos id frag ttl pr src dst : Int) (os : List Int) (ol : os.length ≤ 140737488351232) (x : Int) (hf : encOk tos id frag ttl pr os.length 0 = false) :
    Calls Try.prog 6 #[ipV tos id frag ttl pr src dst os, .int .i64 x] w fun e w' => e = .returned (.bool true) ∧ Below w.heap.size w w' := by
  have hun : ipV tos id frag ttl pr src dst os = .agg #[.int .i64 tos, .int .i64 id, .int .i64 frag, .int .i64 ttl, .int .i64 pr, .int .u32 src, .int .u32 dst, .string (strOfNums os)] := rfl
  rw [hun]
  go_enter Try.func6, Try.ntmps6
  go_wp2_with fail
  rw [← hun]
  refine (encode_no tos id frag ttl pr src dst os 0 _ (by omega) hf).mono ?_
  rw [hun]
  rintro e W1 ⟨rfl, hb⟩
  have hb1 : Below w.heap.size w W1 := (below1 w _).trans (hb.mono (by simp))
  clear hb
  go_wp2_with fail
  refine (lives_from hb1).mono ?_
  rintro e W3 ⟨rfl, hb3⟩
  clear hb1
  go_wp2
  go_ret
  exact ⟨rfl, hb3⟩

set_option maxHeartbeats 4000000 in
theorem ipTurned_yes (w : World) (tos id frag ttl pr src dst : Int) (os : List Int) (bs : 0 ≤ src ∧ src ≤ 4294967295) (bd : 0 ≤ dst ∧ dst ≤ 4294967295) (bo : ∀ i, 0 ≤ os.getD i 0 ∧ os.getD i 0 ≤ 255) (x : Int) (hf : encOk tos id frag ttl pr os.length 0 = true) :
    Calls Try.prog 6 #[ipV tos id frag ttl pr src dst os, .int .i64 x] w fun e w' => e = .returned (.bool true) ∧ Below w.heap.size w w' := by
  have hun : ipV tos id frag ttl pr src dst os = .agg #[.int .i64 tos, .int .i64 id, .int .i64 frag, .int .i64 ttl, .int .i64 pr, .int .u32 src, .int .u32 dst, .string (strOfNums os)] := rfl
  have hF := encOk_yes hf
  have h40 := hF.most
  have Hf : Hid _ := hf
  have hbd : Hid _ := ipB_bd hF bs bd bo
  have hmok : Hid (MOk (ipB tos id frag ttl pr src dst os 0) (20 + os.length + 0 : Int) (20 + os.length)) := by
    have := hb_msr [] (20 + os.length + 0) hF bs bd bo (by omega)
    rw [List.append_nil] at this
    exact this
  have hBl : (ipB tos id frag ttl pr src dst os 0).length = 20 + os.length := ipB_len ..
  clear hf hF
  generalize hB : ipB tos id frag ttl pr src dst os 0 = B at *
  have HB : Hid _ := hB
  clear hB
  generalize hM : 8 * ((20 : Int) + os.length - 1) = M at *
  have hMb : 152 ≤ M ∧ M ≤ 472 := by omega
  have hr1 : -M < x.tmod M := by
    have := Int.lt_tmod_of_pos x (show (0 : Int) < M by omega); omega
  have hr2 : x.tmod M < M := Int.tmod_lt_of_pos x (by omega)
  have hM0 : ¬ M = 0 := by omega
  have hM1 : M ≠ 0 := by omega
  obtain ⟨k, hkM, hcase⟩ : ∃ k : Nat, (k : Int) < M ∧ ((x.tmod M < 0 ∧ Hid ((k : Int) = x.tmod M + M)) ∨ (¬ x.tmod M < 0 ∧ Hid ((k : Int) = x.tmod M))) := by
    by_cases hneg : x.tmod M < 0
    · exact ⟨(x.tmod M + M).toNat, by omega, .inl ⟨hneg, by show _ = _; omega⟩⟩
    · exact ⟨(x.tmod M).toNat, by omega, .inr ⟨hneg, by show _ = _; omega⟩⟩
  obtain ⟨i, r, hkr, hr8, hi1, hi2⟩ : ∃ i r : Nat, k + 8 = 8 * i + r ∧ r < 8 ∧ 1 ≤ i ∧ i < 20 + os.length := ⟨(k + 8) / 8, (k + 8) % 8, by omega, by omega, by omega, by omega⟩
  have hq1 : ((k : Int) + 8).tdiv 8 = i := by rw [Int.tdiv_eq_ediv_of_nonneg (by omega)]; omega
  have hq2 : ((k : Int) + 8).tmod 8 = r := by rw [Int.tmod_eq_emod_of_nonneg (by omega)]; omega
  have hq3 : ((k : Int) + 8) / 8 = i := by omega
  have hq4 : ((k : Int) + 8) % 8 = r := by omega
  have hiI : (i : Int) < 20 + os.length := by omega
  have hrI : (r : Int) < 8 := by omega
  have hp := hbd.out i
  have hy : (0 : Int) ≤ 2 ^ r % 256 ∧ (2 : Int) ^ r % 256 ≤ 255 := by omega
  have hy0 : (2 : Int) ^ r % 256 ≠ 0 := by
    have : r = 0 ∨ r = 1 ∨ r = 2 ∨ r = 3 ∨ r = 4 ∨ r = 5 ∨ r = 6 ∨ r = 7 := by omega
    rcases this with rfl | rfl | rfl | rfl | rfl | rfl | rfl | rfl <;> decide
  have xp := xor_u8 _ _ hp hy hy0
  have hno := ip_turned (room' := ((20 + os.length : Nat) : Int)) hmok.out hBl hbd.out hi1 hi2 xp.1 xp.2
  obtain ⟨f, hff, hms⟩ : ∃ f, (f = 20 ∨ f = 21 ∨ f = 30) ∧ msr (B.set i (bits .xor .u8 (B.getD i 0) (2 ^ r % 256))) ((20 + os.length : Nat) : Int) = (0, 0, f) := by
    rcases msr_cases (B.set i (bits .xor .u8 (B.getD i 0) (2 ^ r % 256))) ((20 + os.length : Nat) : Int) (fits_set hbd.out i _ xp.1) with h | ⟨m, hm⟩
    · exact h
    · exact absurd ⟨m, hm⟩ hno
  clear hno hy hy0 hp
  generalize hpp : B.getD i 0 = p at *
  have Hms : Hid (msr (B.set i (bits .xor .u8 p (2 ^ r % 256))) ((20 + os.length : Nat) : Int) = (0, 0, f)) := hms
  clear hms
  have Hpp : Hid (B.getD i 0 = p) := hpp
  clear hpp
  rw [hun]
  rcases hcase with ⟨hneg, hk⟩ | ⟨hneg, hk⟩
  all_goals
    go_enter Try.func6, Try.ntmps6
    go_wp2_with fail
    rw [← hun]
    refine (encode_yes tos id frag ttl pr src dst os 0 _ bs bd bo Hf.out).mono ?_
    rw [hun, HB.out]
    rintro e W1 ⟨a1, c1, rfl, ho1, hb⟩
    have hb1 : Below w.heap.size w W1 := (below1 w _).trans (hb.mono (by simp))
    obtain ⟨g, rfl, hg1, hg2⟩ := own_some ho1 (by omega)
    have hE1 : Hid (EncS (w.alloc (.cells #[.int .i64 tos, .int .i64 id, .int .i64 frag, .int .i64 ttl, .int .i64 pr, .int .u32 src, .int .u32 dst, .string (strOfNums os)] 25)) W1 g (20 + os.length) c1 B) := ⟨ho1, hb, hbd.out, by omega⟩
    have hcc : 20 + os.length ≤ c1 := by obtain ⟨_, _, e, h⟩ := own_form ho1; cases e; exact h
    clear hb ho1
    go_wp2_with fail
    refine (lives_any _).mono ?_
    rintro e W3 ⟨rfl, hb⟩
    have hb3 : Below w.heap.size w W3 := hb1.trans (hb.mono hb1.size)
    have B3 : Hid (BS W3 (some ⟨g, 0, none⟩) (20 + os.length) B) := hE1.out.bs.below hb
    have fz : ∀ j, W3.frozen? ⟨g, j, none⟩ = false := fun j => (hb.frozen hg2).trans (hE1.out.own.frozenAt j)
    have hgw : w.heap.size < g := by have := hg1; simp at this; omega
    clear hb hb1 hE1 hg1 hg2
    go_wp2
    rw [← hk.out]
    have hi0 : (0 : Int) ≤ i := by omega
    have cB : W3.cell? ⟨g, i, none⟩ = some (.int .u8 p) := by
      rcases B3.out.cells with h0 | ⟨_, _, e, hc⟩
      · omega
      · cases e; have := hc i (by omega); rwa [Nat.zero_add, Hpp.out] at this
    have fzi := fz i
    clear hk hneg hr1 hr2 hM fz
    go_region
    go_wp2_with fail
    have hb4 : Below w.heap.size w (W3.setCell ⟨g, i, none⟩ (.int .u8 (bits .xor .u8 p (2 ^ r % 256)))).drew := (hb3.setCell (by show _ ≤ g; omega) _).drew
    have B4 : Hid (BS (W3.setCell ⟨g, i, none⟩ (.int .u8 (bits .xor .u8 p (2 ^ r % 256)))).drew (some ⟨g, 0, none⟩) (20 + os.length) (B.set i (bits .xor .u8 p (2 ^ r % 256)))) := (bs_set B3.out (by omega) xp.1).drew
    generalize (W3.setCell ⟨g, i, none⟩ (.int .u8 (bits .xor .u8 p (2 ^ r % 256)))).drew = W4 at *
    refine ((decode_any W4 _ _ c1 _ B4.out hcc).1 f hff Hms.out).mono ?_
    rintro e W5 ⟨rfl, hb⟩
    have hb5 : Below w.heap.size w W5 := hb4.trans (hb.mono hb4.size)
    have hf0 : (f != 0) = true := by simp; omega
    clear hb hb4 B4 B3 hb3 fzi cB
    unfold ip0
    go_wp2
    go_ret
    exact ⟨rfl, hb5⟩

theorem ipTurned_walk (w : World) (tos id frag ttl pr src dst : Int) (os : List Int) (bs : 0 ≤ src ∧ src ≤ 4294967295) (bd : 0 ≤ dst ∧ dst ≤ 4294967295) (bo : ∀ i, 0 ≤ os.getD i 0 ∧ os.getD i 0 ≤ 255) (ol : os.length ≤ 140737488351232) (x : Int) (_hx : -9223372036854775808 ≤ x ∧ x ≤ 9223372036854775807) :
    Calls Try.prog 6 #[ipV tos id frag ttl pr src dst os, .int .i64 x] w fun e w' => e = .returned (.bool true) ∧ Below w.heap.size w w' := by
  cases hf : encOk tos id frag ttl pr os.length 0
  · exact ipTurned_no w tos id frag ttl pr src dst os ol x hf
  · exact ipTurned_yes w tos id frag ttl pr src dst os bs bd bo x hf

set_option maxRecDepth 100000 in
theorem ipTurned_lifted (os : Os) (started : os.Started) (H : Type) (enc : TypeId × Value → H) :
    ReturnsInHanded {} Try.checked os 6 .any (Rows.ipTurnedSpec.pre6 enc Try.prog Try.f6 Rows.ipTurnedRow.domain false) (Rows.ipTurnedSpec.post enc Try.prog Try.f6 false true false false) := by
  refine returnsInHanded_of_change_sized (C := Try.checked) own started (by kernel_rfl) Try.func6
    (ChangeSpec.witness6 (enc := enc) (C := Try.checked) false ⟨#[], #[.agg #[.int .i64 0, .int .i64 0, .int .i64 0, .int .i64 0, .int .i64 0, .int .u32 0, .int .u32 0, .string ⟨#[]⟩], .int .i64 0], []⟩ 8 (by kernel_rfl) (by kernel_rfl) (by kernel_rfl) (by kernel_rfl)) ?_
  intro W base args ds gs before hval0 hW _ hsz0 _
  have hsz : (DataW.weightsEach Try.prog (Try.f6.params.toList ++ Rows.ipTurnedSpec.plain.varTypes Try.prog) (ds ++ gs)).all (· ≤ reachBytes) = true := hsz0
  clear hsz0
  have hval : ∀ (j : Nat) t v, Try.f6.params[j]? = some t → args[j]? = some v → Value.okWide Try.prog W .any base t v := hval0
  have hW' := hW
  obtain ⟨p, q, hA0, hV, rfl, _, _⟩ := hW
  have hA : DataW.TrodAll enc Try.prog W 0 (fun _ => true) true Try.f6.params.toList args.toList ds p := hA0
  rw [Try.params6] at hA hval hsz
  obtain ⟨v0, vs0, d0, ds0, p0, q0, hargs, rfl, rfl, h0, r0⟩ := trodAll_cons hA
  obtain ⟨v1, vs1, d1, ds1, p1, q1, rfl, rfl, rfl, h1, r1⟩ := trodAll_cons r0
  obtain ⟨rfl, rfl, rfl⟩ := trodAll_nil r1
  obtain rfl : args = #[v0, v1] := by cases args; simp_all
  obtain ⟨rfl, rfl⟩ := trodVars_none hV
  have k0 := h0
  have lt0 : ∀ x ∈ p0, x.block < W.heap.size := by obtain ⟨m, hm⟩ := k0; exact DataW.trod_lt m _ _ _ hm
  obtain ⟨tos0, id0, frag0, ttl0, pr0, src0, dst0, os0, rfl, bf0, bs0, bd0, bo0, bl0⟩ := open_ip 0 (hval 0 25 v0 rfl rfl) h0 hsz rfl rfl
  obtain ⟨a1, rfl, rfl, rfl, w1⟩ := open_int Try.underlying3 (hval 1 3 v1 rfl rfl) h1
  clear hA0 hval0
  refine (ipTurned_walk W tos0 id0 frag0 ttl0 pr0 src0 dst0 os0 bs0 bd0 bo0 bl0 a1 (bounds_i64 w1)).mono fun e W' ⟨he, bel⟩ => ?_
  subst he
  exact ⟨_, rfl, _, _, _, [], _, [], hW', trodAll_mk1 (shut_bool Try.underlying4 _), (trodAll_cons_mk (Below.trod laidOut (by kernel_rfl) (of_decide_eq_true (by kernel_rfl)) k0 bel lt0) (trodAll_cons_mk (shut_int Try.underlying3 w1) trodAll_mk0)), rfl, bel.frame _, fun h => by cases h⟩

theorem ipTurned_proved : Rows.IpTurnedSaid :=
  OpenClaim.holds_of_wide 6 Try.f6 rfl rfl rfl rfl rfl rfl rfl ⟨rfl, rfl, rfl, rfl, rfl⟩ rfl rfl rfl rfl rfl (by kernel_rfl) Try.func6 (by kernel_rfl)
    (of_decide_eq_true (by kernel_rfl)) (by unfold Func.isWrapper; first | (rw [if_pos (by decide +kernel)]; kernel_rfl) | (rw [if_neg (by decide +kernel)]; exact ⟨rfl, rfl⟩))
    (fun os started H enc _ => ipTurned_lifted os started H enc)
#print axioms ipTurned_proved
end Go.Proofs.Ytajabhffpeckhaa
