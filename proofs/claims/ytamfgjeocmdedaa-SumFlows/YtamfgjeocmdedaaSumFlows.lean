/- For every five numbers the law SumFlows returns true, and its arguments read as they did; no condition. -/
import Derived.Test.YtamfgjeocmdedaaHash
namespace Go.Proofs.Ytamfgjeocmdedaa
open Go.ChangeShapes Go.WideShapes Go.ChangeAt Go.RowKit

theorem words_any (w : World) (v : Int) (hv : 0 ≤ v ∧ v ≤ 4294967295) :
    Calls Try.prog 28 #[.int .u32 v] w fun e w' => e = .returned (.int .u64 (v / 65536 + v % 65536)) ∧ w' = w := by
  have ha : bits .and .u32 v 65535 = v % 65536 := by
    rw [u32_and v 65535 hv.1 (by omega) (by omega) (by omega), show (65535 : Int).toNat = 65535 from rfl, nat_mask16]; omega
  go_enter Try.func28, Try.ntmps28
  go_wp2
  go_ret
  exact ⟨rfl, rfl⟩

theorem i64_and255 (n : Int) : bits .and .i64 n 255 = n % 256 := by
  have h : (BitVec.ofInt 64 255).toNat = 2 ^ 8 - 1 := by decide
  have key : (BitVec.ofInt 64 n &&& BitVec.ofInt 64 255).toNat = (n % ((2 ^ 64 : Nat) : Int)).toNat % 2 ^ 8 := by
    rw [BitVec.toNat_and, BitVec.toNat_ofInt, h, Nat.and_two_pow_sub_one_eq_mod]
  show IntKind.i64.wrap ((BitVec.ofInt 64 n &&& BitVec.ofInt 64 255).toNat : Nat) = n % 256
  rw [key, IntKind.wrap_i64]
  omega
theorem i64_and65535 (n : Int) : bits .and .i64 n 65535 = n % 65536 := by
  have h : (BitVec.ofInt 64 65535).toNat = 2 ^ 16 - 1 := by decide
  have key : (BitVec.ofInt 64 n &&& BitVec.ofInt 64 65535).toNat = (n % ((2 ^ 64 : Nat) : Int)).toNat % 2 ^ 16 := by
    rw [BitVec.toNat_and, BitVec.toNat_ofInt, h, Nat.and_two_pow_sub_one_eq_mod]
  show IntKind.i64.wrap ((BitVec.ofInt 64 n &&& BitVec.ofInt 64 65535).toNat : Nat) = n % 65536
  rw [key, IntKind.wrap_i64]
  omega

def psd (src dst proto size : Int) : Int := fld (src / 65536 + src % 65536 + (dst / 65536 + dst % 65536) + proto % 256 + size % 65536)

theorem pseudo_any (w : World) (src dst proto size : Int) (h1 : 0 ≤ src ∧ src ≤ 4294967295) (h2 : 0 ≤ dst ∧ dst ≤ 4294967295) :
    Calls Try.prog 20 #[.int .u32 src, .int .u32 dst, .int .i64 proto, .int .i64 size] w fun e w' => e = .returned (.int .u16 (psd src dst proto size)) ∧ w' = w := by
  have e1 := i64_and255 proto
  have e2 := i64_and65535 size
  go_enter Try.func20, Try.ntmps20
  go_wp2_with (first | (go_at_call 28; refine (words_any _ _ (by omega)).mono ?_; rintro e w' ⟨rfl, rfl⟩) | (go_at_call 24; refine (fold_any _ (by omega) (by omega) _).mono ?_; rintro e w' ⟨rfl, rfl⟩))
  go_ret
  exact ⟨rfl, rfl⟩

theorem rpseudo_any (w : World) (src dst proto size : Int) (h1 : 0 ≤ src ∧ src ≤ 4294967295) (h2 : 0 ≤ dst ∧ dst ≤ 4294967295) :
    Calls Try.prog 21 #[.int .u32 src, .int .u32 dst, .int .i64 proto, .int .i64 size] w fun e w' => e = .returned (.int .u16 (psd src dst proto size)) ∧ w' = w := by
  have b1 := fld_bd (src / 65536 + src % 65536) (by omega)
  have b2 := fld_bd (dst / 65536 + dst % 65536) (by omega)
  have b3 := fld_bd (fld (src / 65536 + src % 65536) + fld (dst / 65536 + dst % 65536)) (by omega)
  have b4 := fld_bd (proto % 256 + size % 65536) (by omega)
  have hf : Hid (fld (fld (fld (src / 65536 + src % 65536) + fld (dst / 65536 + dst % 65536)) + fld (proto % 256 + size % 65536)) = psd src dst proto size) := by
    show _ = _
    rw [fld_both _ _ (by omega) (by omega), Int.add_assoc, fld_add _ _ (by omega) (by omega), Int.add_comm, Int.add_assoc, fld_add _ _ (by omega) (by omega)]
    unfold psd; congr 1; omega
  have hw1 : IntKind.u16.wrap size = size % 65536 := IntKind.wrap_u16 size
  go_enter Try.func21, Try.ntmps21
  go_wp2_with (first | (go_at_call 15; refine (radd_any _ _ (by omega) (by omega) (by omega) (by omega) _).mono ?_; rintro e w' ⟨rfl, rfl⟩))
  go_ret
  exact ⟨ret_int hf.out, rfl⟩

set_option maxHeartbeats 1000000 in
theorem rhash_any (w : World) (src dst proto sport dport : Int) (h1 : 0 ≤ src ∧ src ≤ 4294967295) (h2 : 0 ≤ dst ∧ dst ≤ 4294967295) :
    Calls Try.prog 22 #[.int .u32 src, .int .u32 dst, .int .i64 proto, .int .i64 sport, .int .i64 dport] w fun e w' => e = .returned (.int .u32 (hashOf src dst proto sport dport)) ∧ Below w.heap.size w w' := by
  have hw1 : IntKind.u16.wrap sport = sport % 65536 := IntKind.wrap_u16 sport
  have hw2 : IntKind.u16.wrap dport = dport % 65536 := IntKind.wrap_u16 dport
  obtain ⟨L, hL⟩ : ∃ L, L = [src / 16777216, src / 65536 % 256, src / 256 % 256, src % 256, dst / 16777216, dst / 65536 % 256, dst / 256 % 256, dst % 256, proto % 256, sport / 256 % 256, sport % 256, dport / 256 % 256, dport % 256] := ⟨_, rfl⟩
  have hall : L.all (fun z => decide (0 ≤ z ∧ z ≤ 255)) = true := by
    subst hL
    simp only [List.all_cons, List.all_nil, Bool.and_true, Bool.and_eq_true, decide_eq_true_eq]
    omega
  have hlen : L.length = 13 := by subst hL; rfl
  have HF : Hid (L.foldl mx 2166136261 = hashOf src dst proto sport dport) := by subst hL; rfl
  have e1 : IntKind.u16.wrap ((sport % 65536).tdiv 256) % 256 = sport / 256 % 256 := by
    rw [IntKind.wrap_u16, Int.tdiv_eq_ediv_of_nonneg (by omega)]; omega
  have e2 : IntKind.u16.wrap ((dport % 65536).tdiv 256) % 256 = dport / 256 % 256 := by
    rw [IntKind.wrap_u16, Int.tdiv_eq_ediv_of_nonneg (by omega)]; omega
  have HL : Hid _ := hL
  have HLe : Hid _ := hlen
  have HA : Hid _ := hall
  clear hL hlen hall
  go_enter Try.func22, Try.ntmps22
  go_wp2
  have hbs := bs_new w #[.int .u8 (src / 16777216), .int .u8 (src / 65536 % 256), .int .u8 (src / 256 % 256), .int .u8 (src % 256), .int .u8 (dst / 16777216), .int .u8 (dst / 65536 % 256), .int .u8 (dst / 256 % 256), .int .u8 (dst % 256), .int .u8 (proto % 256), .int .u8 (sport / 256 % 256), .int .u8 (sport % 256), .int .u8 (dport / 256 % 256), .int .u8 (dport % 256)] L 13 _ rfl HLe.out (by rw [HL.out]; rfl) HA.out (by omega)
  have hbel : Below w.heap.size w (w.alloc (.cells #[.int .u8 (src / 16777216), .int .u8 (src / 65536 % 256), .int .u8 (src / 256 % 256), .int .u8 (src % 256), .int .u8 (dst / 16777216), .int .u8 (dst / 65536 % 256), .int .u8 (dst / 256 % 256), .int .u8 (dst % 256), .int .u8 (proto % 256), .int .u8 (sport / 256 % 256), .int .u8 (sport % 256), .int .u8 (dport / 256 % 256), .int .u8 (dport % 256)] 5)) := (Below.refl _ _).alloc (Nat.le_refl _) _
  generalize (w.alloc (.cells #[.int .u8 (src / 16777216), .int .u8 (src / 65536 % 256), .int .u8 (src / 256 % 256), .int .u8 (src % 256), .int .u8 (dst / 16777216), .int .u8 (dst / 65536 % 256), .int .u8 (dst / 256 % 256), .int .u8 (dst % 256), .int .u8 (proto % 256), .int .u8 (sport / 256 % 256), .int .u8 (sport % 256), .int .u8 (dport / 256 % 256), .int .u8 (dport % 256)] 5)) = W at *
  have hc : ∀ k, k < 13 → W.cell? ⟨w.heap.size, k, none⟩ = some (.int .u8 (L.getD k 0)) := fun k hk => by
    rcases hbs.cells with h | ⟨b, off, hb, hc⟩
    · cases h
    · cases hb
      have := hc k (by rw [HLe.out]; omega)
      rwa [Nat.zero_add] at this
  have hfits := hbs.fits
  clear hbs
  go_loop [12, 13] (fun h i => ∃ k : Nat, k ≤ 13 ∧ i = .int .i64 k ∧ h = .int .u32 ((L.take k).foldl mx 2166136261) ∧ Hid (0 ≤ (L.take k).foldl mx 2166136261 ∧ (L.take k).foldl mx 2166136261 ≤ 4294967295)) (fun _ i => 13 - (intOf i).toNat)
  case atStart => exact ⟨0, by omega, rfl, rfl, by show _ ∧ _; simp⟩
  case round =>
    obtain ⟨k, hk, rfl, rfl, hb⟩ := hrel
    by_cases hlt : k < 13
    · have hck := hc k hlt
      have hfk := hfits k
      have hstep : Hid ((L.take (k + 1)).foldl mx 2166136261 = mx ((L.take k).foldl mx 2166136261) (L.getD k 0)) := by
        show _ = _
        rw [List.take_succ_eq_append_getElem (by rw [HLe.out]; exact hlt), List.foldl_append]
        simp [List.getD_eq_getElem?_getD, show k < L.length by rw [HLe.out]; exact hlt]
      have hbd := hb.out
      generalize (L.take k).foldl mx 2166136261 = h at *
      generalize L.getD k 0 = z at *
      clear hc hfits
      go_wp2
      go_round
      case rel => exact ⟨k + 1, by omega, by go_num, by rw [hstep.out]; rfl, by rw [hstep.out]; exact mx_bd _ _⟩
      case measure => simp [intOf]; omega
    · have hk13 : Hid (k = 13) := by show _ = _; omega
      have HT : Hid ((L.take k).foldl mx 2166136261 = hashOf src dst proto sport dport) := by
        show _ = _
        rw [List.take_of_length_le (by rw [HLe.out]; omega)]; exact HF.out
      go_wp2
      go_ret
      exact ⟨ret_int HT.out, hbel⟩

theorem pck_bd (h n : Int) (_hh : 0 ≤ h) : 0 ≤ pck h n ∧ (1 ≤ n → pck h n < n) := by
  unfold pck
  by_cases hn : n < 1
  · rw [if_pos hn]; exact ⟨by omega, by omega⟩
  · rw [if_neg hn]; exact ⟨Int.emod_nonneg _ (by omega), fun _ => Int.emod_lt_of_pos _ (by omega)⟩

theorem hashOf_bd (src dst proto sport dport : Int) : 0 ≤ hashOf src dst proto sport dport ∧ hashOf src dst proto sport dport ≤ 4294967295 := by
  unfold hashOf
  simp only [List.foldl_cons, List.foldl_nil]
  exact mx_bd _ _

set_option maxHeartbeats 1000000 in
theorem sumFlows_walk (w : World) (src : Int) (h1 : 0 ≤ src ∧ src ≤ 4294967295) (dst : Int) (h2 : 0 ≤ dst ∧ dst ≤ 4294967295) (proto : Int) (_h3 : -9223372036854775808 ≤ proto ∧ proto ≤ 9223372036854775807) (sport : Int) (h4 : -9223372036854775808 ≤ sport ∧ sport ≤ 9223372036854775807) (dport : Int) (_h5 : -9223372036854775808 ≤ dport ∧ dport ≤ 9223372036854775807) :
    Calls Try.prog 8 #[.int .u32 src, .int .u32 dst, .int .i64 proto, .int .i64 sport, .int .i64 dport] w fun e w' => e = .returned (.bool true) ∧ Below w.heap.size w w' := by
  have hh := hashOf_bd src dst proto sport dport
  have hp := pck_bd (hashOf src dst proto sport dport) sport hh.1
  have hp0 := hp.1
  by_cases hs : sport < 1
  all_goals
    have hp1 : ¬ sport < 1 → pck (hashOf src dst proto sport dport) sport < sport := fun h => hp.2 (by omega)
    have hp2 := hp1
    first
      | (have hp3 := hp2 hs)
      | skip
    clear hp hp1 hp2
    go_enter Try.func8, Try.ntmps8
    go_wp2_with fail
    refine (hash_any _ src dst proto sport dport h1 h2).mono ?_
    rintro e W1 ⟨rfl, hb1⟩
    generalize hH : hashOf src dst proto sport dport = H at *
    have HH : Hid _ := hH
    clear hH
    go_wp2_with fail
    refine (pick_any H sport hh.1 hh.2 h4.2 _).mono ?_
    rintro e W2 ⟨rfl, rfl⟩
    generalize hQ : pck H sport = q at *
    have HQ : Hid _ := hQ
    clear hQ
    go_wp2_with fail
    refine (lives_from hb1).mono ?_
    rintro e W3 ⟨rfl, hb3⟩
    clear hb1
    go_wp2_with fail
    refine (pseudo_any _ src dst proto dport h1 h2).mono ?_
    rintro e W4 ⟨rfl, rfl⟩
    go_wp2_with fail
    refine (rpseudo_any _ src dst proto dport h1 h2).mono ?_
    rintro e W4 ⟨rfl, rfl⟩
    go_wp2_with fail
    refine (rhash_any _ src dst proto sport dport h1 h2).mono ?_
    rintro e W5 ⟨rfl, hb5⟩
    rw [HH.out]
    have hb6 := hb3.trans (hb5.mono hb3.size)
    clear hb3 hb5
    go_wp2_with fail
    refine (rpick_any H sport hh.1 hh.2 h4.2 _).mono ?_
    rintro e W6 ⟨rfl, rfl⟩
    rw [HQ.out]
    go_wp2
    go_ret
    exact ⟨rfl, hb6⟩

set_option maxRecDepth 100000 in
theorem sumFlows_lifted (os : Os) (started : os.Started) (H : Type) (enc : TypeId × Value → H) :
    ReturnsInHanded {} Try.checked os 8 .any (Rows.sumFlowsSpec.pre6 enc Try.prog Try.f8 Rows.sumFlowsRow.domain false) (Rows.sumFlowsSpec.post enc Try.prog Try.f8 false true false false) := by
  refine returnsInHanded_of_change_sized (C := Try.checked) own started (by kernel_rfl) Try.func8
    (ChangeSpec.witness6 (enc := enc) (C := Try.checked) false ⟨#[], #[.int .u32 0, .int .u32 0, .int .i64 0, .int .i64 0, .int .i64 0], []⟩ 8 (by kernel_rfl) (by kernel_rfl) (by kernel_rfl) (by kernel_rfl)) ?_
  intro W base args ds gs before hval0 hW _ hsz0 _
  have hsz : (DataW.weightsEach Try.prog (Try.f8.params.toList ++ Rows.sumFlowsSpec.plain.varTypes Try.prog) (ds ++ gs)).all (· ≤ reachBytes) = true := hsz0
  clear hsz0
  have hval : ∀ (j : Nat) t v, Try.f8.params[j]? = some t → args[j]? = some v → Value.okWide Try.prog W .any base t v := hval0
  have hW' := hW
  obtain ⟨p, q, hA0, hV, rfl, _, _⟩ := hW
  have hA : DataW.TrodAll enc Try.prog W 0 (fun _ => true) true Try.f8.params.toList args.toList ds p := hA0
  rw [Try.params8] at hA hval hsz
  obtain ⟨v0, vs0, d0, ds0, p0, q0, hargs, rfl, rfl, h0, r0⟩ := trodAll_cons hA
  obtain ⟨v1, vs1, d1, ds1, p1, q1, rfl, rfl, rfl, h1, r1⟩ := trodAll_cons r0
  obtain ⟨v2, vs2, d2, ds2, p2, q2, rfl, rfl, rfl, h2, r2⟩ := trodAll_cons r1
  obtain ⟨v3, vs3, d3, ds3, p3, q3, rfl, rfl, rfl, h3, r3⟩ := trodAll_cons r2
  obtain ⟨v4, vs4, d4, ds4, p4, q4, rfl, rfl, rfl, h4, r4⟩ := trodAll_cons r3
  obtain ⟨rfl, rfl, rfl⟩ := trodAll_nil r4
  obtain rfl : args = #[v0, v1, v2, v3, v4] := by cases args; simp_all
  obtain ⟨rfl, rfl⟩ := trodVars_none hV
  obtain ⟨a0, rfl, rfl, rfl, w0⟩ := open_int Try.underlying33 (hval 0 33 v0 rfl rfl) h0
  obtain ⟨a1, rfl, rfl, rfl, w1⟩ := open_int Try.underlying33 (hval 1 33 v1 rfl rfl) h1
  obtain ⟨a2, rfl, rfl, rfl, w2⟩ := open_int Try.underlying3 (hval 2 3 v2 rfl rfl) h2
  obtain ⟨a3, rfl, rfl, rfl, w3⟩ := open_int Try.underlying3 (hval 3 3 v3 rfl rfl) h3
  obtain ⟨a4, rfl, rfl, rfl, w4⟩ := open_int Try.underlying3 (hval 4 3 v4 rfl rfl) h4
  clear hA0 hval0
  refine (sumFlows_walk W a0 (bounds_u32 w0) a1 (bounds_u32 w1) a2 (bounds_i64 w2) a3 (bounds_i64 w3) a4 (bounds_i64 w4)).mono fun e W' ⟨he, bel⟩ => ?_
  subst he
  exact ⟨_, rfl, _, _, _, [], _, [], hW', trodAll_mk1 (shut_bool Try.underlying4 _), (trodAll_cons_mk (shut_int Try.underlying33 w0) (trodAll_cons_mk (shut_int Try.underlying33 w1) (trodAll_cons_mk (shut_int Try.underlying3 w2) (trodAll_cons_mk (shut_int Try.underlying3 w3) (trodAll_cons_mk (shut_int Try.underlying3 w4) trodAll_mk0))))), rfl, bel.frame _, fun h => by cases h⟩

theorem sumFlows_proved : Rows.SumFlowsSaid :=
  OpenClaim.holds_of_wide 8 Try.f8 rfl rfl rfl rfl rfl rfl rfl ⟨rfl, rfl, rfl, rfl, rfl⟩ rfl rfl rfl rfl rfl (by kernel_rfl) Try.func8 (by kernel_rfl)
    (of_decide_eq_true (by kernel_rfl)) (by unfold Func.isWrapper; first | (rw [if_pos (by decide +kernel)]; kernel_rfl) | (rw [if_neg (by decide +kernel)]; exact ⟨rfl, rfl⟩))
    (fun os started H enc _ => sumFlows_lifted os started H enc)
#print axioms sumFlows_proved
end Go.Proofs.Ytamfgjeocmdedaa
