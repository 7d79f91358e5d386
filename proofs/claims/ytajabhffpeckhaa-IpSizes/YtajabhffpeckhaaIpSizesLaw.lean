/- For every head and every number the law IpSizes returns true, and its arguments read as they did; no condition. -/
import Derived.Test.YtajabhffpeckhaaSzA
import Derived.Test.YtajabhffpeckhaaSzB
import Derived.Test.YtajabhffpeckhaaSzC
import Derived.Test.YtajabhffpeckhaaSzD
import Derived.Test.YtajabhffpeckhaaSzE
namespace Go.Proofs.Ytajabhffpeckhaa
open Go.ChangeShapes Go.WideShapes Go.ChangeAt Go.RowKit

theorem ipSizes_walk (w : World) (tos id frag ttl pr src dst : Int) (os : List Int) (bs : 0 ≤ src ∧ src ≤ 4294967295) (bd : 0 ≤ dst ∧ dst ≤ 4294967295) (bo : ∀ i, 0 ≤ os.getD i 0 ∧ os.getD i 0 ≤ 255) (ol : os.length ≤ 140737488351232) (data : Int) (_hd : -9223372036854775808 ≤ data ∧ data ≤ 9223372036854775807) :
    Calls Try.prog 5 #[ipV tos id frag ttl pr src dst os, .int .i64 data] w fun e w' => e = .returned (.bool true) ∧ Below w.heap.size w w' := by
  cases hf : encOk tos id frag ttl pr os.length data
  · cases q1 : (bits .and .i64 frag 8191 == 0)
    · exact ipSizes_no_a w tos id frag ttl pr src dst os ol data hf q1
    · cases q2 : (bits .and .i64 frag 8192 == 0)
      · exact ipSizes_no_b w tos id frag ttl pr src dst os ol data hf q1 q2
      · exact ipSizes_no_c w tos id frag ttl pr src dst os ol data hf q1 q2
  · cases q1 : (bits .and .i64 frag 8191 == 0)
    · exact ipSizes_yes_a w tos id frag ttl pr src dst os bs bd bo ol data hf q1
    · cases q2 : (bits .and .i64 frag 8192 == 0)
      · exact ipSizes_yes_b w tos id frag ttl pr src dst os bs bd bo ol data hf q1 q2
      · exact ipSizes_yes_c w tos id frag ttl pr src dst os bs bd bo ol data hf q1 q2

set_option maxRecDepth 100000 in
theorem ipSizes_lifted (os : Os) (started : os.Started) (H : Type) (enc : TypeId × Value → H) :
    ReturnsInHanded {} Try.checked os 5 .any (Rows.ipSizesSpec.pre6 enc Try.prog Try.f5 Rows.ipSizesRow.domain false) (Rows.ipSizesSpec.post enc Try.prog Try.f5 false true false false) := by
  refine returnsInHanded_of_change_sized (C := Try.checked) own started (by kernel_rfl) Try.func5
    (ChangeSpec.witness6 (enc := enc) (C := Try.checked) false ⟨#[], #[.agg #[.int .i64 0, .int .i64 0, .int .i64 0, .int .i64 0, .int .i64 0, .int .u32 0, .int .u32 0, .string ⟨#[]⟩], .int .i64 0], []⟩ 8 (by kernel_rfl) (by kernel_rfl) (by kernel_rfl) (by kernel_rfl)) ?_
  intro W base args ds gs before hval0 hW _ hsz0 _
  have hsz : (DataW.weightsEach Try.prog (Try.f5.params.toList ++ Rows.ipSizesSpec.plain.varTypes Try.prog) (ds ++ gs)).all (· ≤ reachBytes) = true := hsz0
  clear hsz0
  have hval : ∀ (j : Nat) t v, Try.f5.params[j]? = some t → args[j]? = some v → Value.okWide Try.prog W .any base t v := hval0
  have hW' := hW
  obtain ⟨p, q, hA0, hV, rfl, _, _⟩ := hW
  have hA : DataW.TrodAll enc Try.prog W 0 (fun _ => true) true Try.f5.params.toList args.toList ds p := hA0
  rw [Try.params5] at hA hval hsz
  obtain ⟨v0, vs0, d0, ds0, p0, q0, hargs, rfl, rfl, h0, r0⟩ := trodAll_cons hA
  obtain ⟨v1, vs1, d1, ds1, p1, q1, rfl, rfl, rfl, h1, r1⟩ := trodAll_cons r0
  obtain ⟨rfl, rfl, rfl⟩ := trodAll_nil r1
  obtain rfl : args = #[v0, v1] := by cases args; simp_all
  obtain ⟨rfl, rfl⟩ := trodVars_none hV
  have k0 := h0
  have lt0 : ∀ x ∈ p0, x.block < W.heap.size := by obtain ⟨m, hm⟩ := k0; exact DataW.trod_lt m _ _ _ hm
  obtain ⟨tos0, id0, frag0, ttl0, pr0, src0, dst0, os0, rfl, bf0, bs0, bd0, bo0, bl0⟩ := open_ip 0 (hval 0 25 v0 rfl rfl) h0 hsz rfl rfl
  obtain ⟨a1, rfl, rfl, rfl, w1⟩ := open_int Try.underlying3 (hval 1 3 v1 rfl rfl) h1
  clear hA0 hval0
  refine (ipSizes_walk W tos0 id0 frag0 ttl0 pr0 src0 dst0 os0 bs0 bd0 bo0 bl0 a1 (bounds_i64 w1)).mono fun e W' ⟨he, bel⟩ => ?_
  subst he
  exact ⟨_, rfl, _, _, _, [], _, [], hW', trodAll_mk1 (shut_bool Try.underlying4 _), (trodAll_cons_mk (Below.trod laidOut (by kernel_rfl) (of_decide_eq_true (by kernel_rfl)) k0 bel lt0) (trodAll_cons_mk (shut_int Try.underlying3 w1) trodAll_mk0)), rfl, bel.frame _, fun h => by cases h⟩

theorem ipSizes_proved : Rows.IpSizesSaid :=
  OpenClaim.holds_of_wide 5 Try.f5 rfl rfl rfl rfl rfl rfl rfl ⟨rfl, rfl, rfl, rfl, rfl⟩ rfl rfl rfl rfl rfl (by kernel_rfl) Try.func5 (by kernel_rfl)
    (of_decide_eq_true (by kernel_rfl)) (by unfold Func.isWrapper; first | (rw [if_pos (by decide +kernel)]; kernel_rfl) | (rw [if_neg (by decide +kernel)]; exact ⟨rfl, rfl⟩))
    (fun os started H enc _ => ipSizes_lifted os started H enc)
#print axioms ipSizes_proved
end Go.Proofs.Ytajabhffpeckhaa
