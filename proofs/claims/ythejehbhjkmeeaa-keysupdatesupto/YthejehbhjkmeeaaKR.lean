/- The law KeysFinds, but for its frame. Conditions: the keys can be read. -/
import Derived.Test.YthejehbhjkmeeaaKQ
namespace Go.Proofs.Ythejehbhjkmeeaa
open Go.RowKit
theorem own_empty (w : World) (base : Nat) (h : base ≤ w.heap.size) : (w.alloc (.cells #[] 37)).ownsRow base 37 2 (.slice (some ⟨w.heap.size, 0, none⟩) 0 0) ([] : List Ky).length (rowK []) :=
  ⟨rfl, .inr ⟨w.heap.size, 0, #[], rfl, h, heap_alloc_new _ _, Nat.le_refl _, Nat.zero_le _, rfl, rfl⟩⟩
set_option maxRecDepth 20000 in
set_option maxHeartbeats 2000000 in
theorem finds_any (a : Option Addr) (n c : Nat) (ks : List Ky) (hn : n ≤ 5864062014805) (s : ByteArray) (num : Int) (w : World) (h : KS w a n ks) :
    Calls Try.prog 5 #[.slice a n c, .string s, .int .i64 num] w fun e w' => e = .returned (.bool true) ∧ Below w.heap.size w w' := by
  have HK : Hid _ := h
  have hlen := h.len
  have hk1 := h.below (below1 w (.cells #[] 37))
  obtain ⟨a1, c1, w1, hap, hrow, hgr⟩ := run_append_ks _ w.heap.size _ [] (own_empty w w.heap.size (Nat.le_refl _)) a n c ks hk1 (by simpa using hn) (by simp)
  simp only [List.length_nil, Nat.zero_add, List.nil_append] at hap hrow
  have HAP : Hid _ := hap
  have HKS : Hid _ := (own_ks hrow (by omega) h.short).1
  have HB1 : Hid (Below w.heap.size w w1) := (below1 _ _).grown hgr (by simp) (fun q hq => (World.ownsRow.lt (own_empty w w.heap.size (Nat.le_refl _)) q hq).1)
  clear h hk1 hap hrow hgr
  go_enter Try.func5, Try.ntmps5
  go_wp2_with (first
    | (at_builtin; refine wpList_append_run rfl _ _ 22 rfl _ _ rfl rfl _ HAP.out ?_)
    | fail)
  refine (find_any _ _ _ ks s _ HKS.out).mono ?_
  rintro e W2 ⟨rfl, hb2⟩
  have HB2 : Hid (Below w.heap.size w W2) := HB1.out.trans (hb2.mono HB1.out.size)
  clear hb2
  obtain ⟨f1, f2, hf⟩ : ∃ f1 f2, findV ks s = .tuple #[.int .i64 f1, .bool f2] := by unfold findV; cases findK ks s <;> exact ⟨_, _, rfl⟩
  obtain ⟨g1, g2, hg⟩ : ∃ g1 g2, nameV ks num = .tuple #[.string g1, .bool g2] := by unfold nameV; cases nameK ks num <;> exact ⟨_, _, rfl⟩
  have HF : Hid _ := hf
  have HG : Hid _ := hg
  rw [hf]
  clear hf hg
  go_wp2_with fail
  refine (rfind_any _ _ _ ks s _ (HK.out.below HB2.out)).mono ?_
  rintro e W3 ⟨rfl, hb3⟩
  have HB3 : Hid (Below w.heap.size w W3) := HB2.out.trans (hb3.mono HB2.out.size)
  clear hb3
  rw [HF.out]
  go_wp2_with fail
  refine (name_any _ _ _ ks num _ (HK.out.below HB3.out)).mono ?_
  rintro e W4 ⟨rfl, hb4⟩
  have HB4 : Hid (Below w.heap.size w W4) := HB3.out.trans (hb4.mono HB3.out.size)
  clear hb4
  rw [HG.out]
  go_wp2_with fail
  refine (rname_any _ _ _ ks num _ (HK.out.below HB4.out)).mono ?_
  rintro e W5 ⟨rfl, hb5⟩
  have HB5 : Hid (Below w.heap.size w W5) := HB4.out.trans (hb5.mono HB4.out.size)
  clear hb5
  rw [HG.out]
  go_wp2_with fail
  refine (lives_any _).mono ?_
  rintro e W6 ⟨rfl, hb6⟩
  have HB6 : Hid (Below w.heap.size w W6) := HB5.out.trans (hb6.mono HB5.out.size)
  clear hb6
  go_wp2
  go_ret
  exact ⟨rfl, HB6.out⟩
end Go.Proofs.Ythejehbhjkmeeaa
