/- The walk of GeneveEncaps. Conditions: the options can be read, numbers of their kinds. -/
import Derived.Test.YtgonckbdkgiddaaQJC
import Derived.Test.YtgonckbdkgiddaaQN
import Derived.Test.YtgonckbdkgiddaaQHV
import Derived.Test.YtgonckbdkgiddaaQG
namespace Go.Proofs.Ytgonckbdkgiddaa
open Go.RowKit
set_option maxRecDepth 20000
set_option linter.unusedSimpArgs false
theorem encB_lens9 (src dst sp vni : Int) (oam : Bool) (os : List Opt) (fr : List Int) (hE : chkE sp vni os fr.length = 0) : 28 ≤ (encB src dst sp vni oam os fr).length ∧ (encB src dst sp vni oam os fr).length ≤ 20000 := by
  obtain ⟨p1, p2, p3, p4, p5⟩ := chk_parts hE
  have h1 := encB_len src dst sp vni oam os fr
  have h2 := payB_len vni oam os fr
  omega
theorem own_addr9 {w : World} {base : Nat} {e : TypeId} {a : Option Addr} {n cap : Nat} {xs : List Value} (h : w.ownsRow base e 1 (.slice a n cap) n xs) (hn : 0 < n) : ∃ g, a = some ⟨g, 0, none⟩ := by
  rcases h.2 with ⟨h0, rfl⟩ | ⟨g, cap', cur, e1, hb, _⟩
  · omega
  · exact ⟨g, by injection e1⟩
set_option maxHeartbeats 4000000 in
theorem encaps_no (src dst sp vni : Int) (oam : Bool) (a : Option Addr) (n cap : Nat) (os : List Opt) (fr : List Int) (w : World) (h : OS w a n os) (f : Int) (hE : chkE sp vni os fr.length = f) (hf : (f != 0) = true) (hs : 0 ≤ src ∧ src ≤ 4294967295) (hd : 0 ≤ dst ∧ dst ≤ 4294967295) (hff : Fit fr) :
    Calls Try.prog 3 #[.agg (tnC src dst sp vni oam a n cap fr)] w fun e w' => e = .returned (.bool true) ∧ Below w.heap.size w w' := by
  have hC : Hid _ := fun W (h : OS W a n os) => encap_no src dst sp vni oam a n cap os fr W h f hE hf
  have hR : Hid _ := fun W (h : OS W a n os) => rencap_any src dst sp vni oam a n cap os fr W h hs hd hff
  unfold tnC at hC hR ⊢
  have H : Hid _ := h
  have A0 : Hid ((w.alloc (.cells #[.int .u32 src, .int .u32 dst, .int .i64 sp, .int .i64 vni, .bool oam, .slice a n cap, .string (strOfNums fr)] 25)).heap[w.heap.size]? = some (.cells #[.int .u32 src, .int .u32 dst, .int .i64 sp, .int .i64 vni, .bool oam, .slice a n cap, .string (strOfNums fr)] 25 (0, 0))) := heap_alloc_new w _
  have HE : Hid _ := hE
  have hf0 : ¬ f = 0 := by simpa using hf
  have hff0 : (f != f) = false := by simp
  clear h hE
  go_enter Try.func3, Try.ntmps3
  obtain ⟨x0, x1, x2, x3, x4, x5, x6⟩ := seven A0.out
  go_wp2_with fail
  refine (hC.out _ (H.out.below (below1 w _))).mono ?_
  rintro e W1 ⟨rfl, hb⟩
  have B1 : Hid (Below w.heap.size w W1) := (below1 w _).trans (hb.mono (by simp))
  have A1 : Hid _ := (hb.block _ (Ca.lt_of_heap A0.out)).trans A0.out
  clear hb hC A0 x0 x1 x2 x3 x4 x5 x6
  obtain ⟨x0, x1, x2, x3, x4, x5, x6⟩ := seven A1.out
  go_wp2_with fail
  refine (hR.out _ (H.out.below B1.out)).mono ?_
  rintro e W2 ⟨hb, hr⟩
  rw [HE.out] at hr
  have B2 : Hid (Below w.heap.size w W2) := B1.out.trans (hb.mono B1.out.size)
  rcases hr with ⟨_, rfl⟩ | ⟨h0, _⟩
  · clear hb hR B1 A1 x0 x1 x2 x3 x4 x5 x6 H HE
    go_wp2_with fail
    refine (glives_any _).mono ?_
    rintro e W3 ⟨rfl, hb⟩
    have B3 : Hid (Below w.heap.size w W3) := B2.out.trans (hb.mono B2.out.size)
    clear hb B2
    have cv := run_conv_bs (P := Try.prog) 0 (BS.empty (w := W3) none) 26 9 5 Try.underlying26 Try.underlying5 Try.underlying9
    go_wp2
    go_ret
    exact ⟨rfl, B3.out⟩
  · exact absurd h0 hf0
set_option maxHeartbeats 4000000 in
theorem encaps_yes (src dst sp vni : Int) (oam : Bool) (a : Option Addr) (n cap : Nat) (os : List Opt) (fr : List Int) (w : World) (h : OS w a n os) (hE : chkE sp vni os fr.length = 0) (hs : 0 ≤ src ∧ src ≤ 4294967295) (hd : 0 ≤ dst ∧ dst ≤ 4294967295) (hff : Fit fr) :
    Calls Try.prog 3 #[.agg (tnC src dst sp vni oam a n cap fr)] w fun e w' => e = .returned (.bool true) ∧ Below w.heap.size w w' := by
  have hC : Hid _ := fun W (h : OS W a n os) => encap_yes src dst sp vni oam a n cap os fr W h hE hs hd hff
  have hR : Hid _ := fun W (h : OS W a n os) => rencap_any src dst sp vni oam a n cap os fr W h hs hd hff
  have HFO : Hid (∀ o ∈ os, Fit o.data) := fun o ho => (h.fits o ho).1
  have hDe : Hid _ := fun W g n cap (h : BS W (some ⟨g, 0, none⟩) n (encB src dst sp vni oam os fr)) hcap => decap_enc W g 0 n cap src dst sp vni oam os fr [] hs hd hE HFO.out hff (by rw [List.append_nil]; exact h) hcap rfl
  have hEF : Fit (encB src dst sp vni oam os fr) := encB_fit9 src dst sp vni oam os fr HFO.out hff hs hd hE
  have hEL : 28 ≤ (encB src dst sp vni oam os fr).length ∧ (encB src dst sp vni oam os fr).length ≤ 20000 := encB_lens9 src dst sp vni oam os fr hE
  have hSa : Hid _ := fun a1 c1 W (h1 : OS W a1 n os) (h2 : OS W a n os) => same_any src dst sp vni oam (strOfNums fr) a1 a n c1 cap os W h1 h2
  unfold tnC at hC hR ⊢
  unfold REnc at hR
  have H : Hid _ := h
  have HLN : Hid (os.length = n) := h.len
  have A0 : Hid ((w.alloc (.cells #[.int .u32 src, .int .u32 dst, .int .i64 sp, .int .i64 vni, .bool oam, .slice a n cap, .string (strOfNums fr)] 25)).heap[w.heap.size]? = some (.cells #[.int .u32 src, .int .u32 dst, .int .i64 sp, .int .i64 vni, .bool oam, .slice a n cap, .string (strOfNums fr)] 25 (0, 0))) := heap_alloc_new w _
  rw [hE] at hR
  have HEF : Hid _ := hEF
  obtain ⟨EB, hEB⟩ : ∃ B, encB src dst sp vni oam os fr = B := ⟨_, rfl⟩
  rw [hEB] at hC hR hDe HEF hEL
  obtain ⟨L, hL⟩ : ∃ L, EB.length = L := ⟨_, rfl⟩
  rw [hL] at hC hR hEL
  rw [HLN.out] at hDe
  clear h hE hEF hEB hL
  go_enter Try.func3, Try.ntmps3
  obtain ⟨x0, x1, x2, x3, x4, x5, x6⟩ := seven A0.out
  go_wp2_with fail
  refine (hC.out _ (H.out.below (below1 w _))).mono ?_
  rintro e W1 ⟨a1, c1, rfl, ho, hb⟩
  have B1 : Hid (Below w.heap.size w W1) := (below1 w _).trans (hb.mono (by simp))
  have A1 : Hid _ := (hb.block _ (Ca.lt_of_heap A0.out)).trans A0.out
  have hcp := own_caps ho
  obtain ⟨g1, rfl⟩ := own_addr9 ho (by omega)
  have S1 : Hid (BS W1 (some ⟨g1, 0, none⟩) L EB) := own_bs ho HEF.out (by omega)
  clear hb hC A0 ho x0 x1 x2 x3 x4 x5 x6
  obtain ⟨x0, x1, x2, x3, x4, x5, x6⟩ := seven A1.out
  go_wp2_with fail
  refine (hR.out _ (H.out.below B1.out)).mono ?_
  rintro e W2 ⟨hb, hr⟩
  have B2 : Hid (Below w.heap.size w W2) := B1.out.trans (hb.mono B1.out.size)
  have A2 : Hid _ := (hb.block _ (Ca.lt_of_heap A1.out)).trans A1.out
  have S2 : Hid _ := S1.out.below hb
  rcases hr with ⟨h0, _⟩ | ⟨_, a2, c2, rfl, t2⟩
  · exact absurd rfl h0
  have T2 : Hid (BS W2 a2 L EB) := t2
  clear hb hR B1 A1 S1 t2 x0 x1 x2 x3 x4 x5 x6
  go_wp2_with fail
  refine (glives_any _).mono ?_
  rintro e W3 ⟨rfl, hb⟩
  have B3 : Hid (Below w.heap.size w W3) := B2.out.trans (hb.mono B2.out.size)
  have A3 : Hid _ := (hb.block _ (Ca.lt_of_heap A2.out)).trans A2.out
  have S3 : Hid _ := S2.out.below hb
  have T3 := T2.out.below hb
  clear hb B2 A2 S2 T2
  have cv1 := run_conv_bs (P := Try.prog) c1 S3.out 26 9 5 Try.underlying26 Try.underlying5 Try.underlying9
  have cv2 := run_conv_bs (P := Try.prog) c2 T3 26 9 5 Try.underlying26 Try.underlying5 Try.underlying9
  clear T3
  go_wp2_with fail
  refine (hDe.out W3 g1 L c1 S3.out (by omega)).mono ?_
  rintro e W4 ⟨oa, oc, rfl, ho, hb⟩
  have O4 : Hid (OS W4 oa n os) := ho
  have B4 : Hid (Below w.heap.size w W4) := B3.out.trans (hb.mono B3.out.size)
  have A4 : Hid _ := (hb.block _ (Ca.lt_of_heap A3.out)).trans A3.out
  clear hb ho B3 A3 S3 hDe cv1 cv2
  have A5 : Hid _ := ((below1 W4 (.cells #[.int .u32 src, .int .u32 dst, .int .i64 sp, .int .i64 vni, .bool oam, .slice oa n oc, .string (strOfNums fr)] 25)).block _ (Ca.lt_of_heap A4.out)).trans A4.out
  obtain ⟨x0, x1, x2, x3, x4, x5, x6⟩ := seven A5.out
  go_wp2_with fail
  refine (hSa.out oa oc _ (O4.out.below (below1 W4 _)) (H.out.below (B4.out.trans ((below1 W4 _).mono B4.out.size)))).mono ?_
  rintro e W6 ⟨rfl, hb⟩
  have B6 : Hid (Below w.heap.size w W6) := (B4.out.trans ((below1 W4 _).mono B4.out.size)).trans (hb.mono (B4.out.trans ((below1 W4 _).mono B4.out.size)).size)
  clear hb x0 x1 x2 x3 x4 x5 x6
  go_wp2
  go_ret
  exact ⟨rfl, B6.out⟩
end Go.Proofs.Ytgonckbdkgiddaa
