/- What Answer of package dhcp answers. Conditions: the options can be read; numbers of 32 bits. -/
import Derived.Test.YtglaheblbomhpaaDC
namespace Go.Proofs.Ytglaheblbomhpaa
open Go.RowKit

theorem bcell {W w1 : World} (hb : Below W.heap.size W w1) : (∀ b o, b < W.heap.size → w1.cell? ⟨b, o, none⟩ = W.cell? ⟨b, o, none⟩) ∧ (∀ b o, b < W.heap.size → w1.frozen? ⟨b, o, none⟩ = W.frozen? ⟨b, o, none⟩) :=
  ⟨fun b o h => hb.cell (p := ⟨b, o, none⟩) h, fun b o h => hb.frozen (p := ⟨b, o, none⟩) h⟩

/-- Is a message answered? -/
def ansB (os : List Opt) (op ch mac ip server : Int) : Bool :=
  (!(kindS (optS os 53) == 0) && (op == 1 && ch == mac)) && !(kindS (optS os 53) == 5 && (otherB os 50 ip || otherB os 54 server))

def zeroV : Value := dhcpV 0 0 0 0 0 0 0 0 0 (.slice none 0 0)

theorem kindS_vals (s : ByteArray) : kindS s = 0 ∨ kindS s = 2 ∨ kindS s = 5 := by
  unfold kindS
  split
  · exact .inr (.inl rfl)
  · split
    · exact .inr (.inr rfl)
    · exact .inl rfl

theorem OS.far {W : World} {g off n b k : Nat} {os : List Opt} {u : Value} (h : OS W (some ⟨g, off, none⟩) n os) (hg : b ≠ g) : OS (W.setCell ⟨b, k, none⟩ u) (some ⟨g, off, none⟩) n os := by
  refine ⟨h.len, h.room, ?_⟩
  rcases h.cells with h0 | ⟨b', off', e, hc⟩
  · exact .inl h0
  · cases e
    refine .inr ⟨g, off, rfl, fun i o hi => ?_⟩
    obtain ⟨c0, c1, c2⟩ := hc i o hi
    rw [World.cell?_setCell_other _ _ _ _ (fun e => hg (congrArg Addr.block e)), World.cell?_setCell_other _ _ _ _ (fun e => hg (congrArg Addr.block e)), World.cell?_setCell_other _ _ _ _ (fun e => hg (congrArg Addr.block e))]
    exact ⟨c0, c1, c2⟩

set_option maxHeartbeats 2000000 in
theorem answer_yes (op xid secs flags ci yi si gi ch : Int) (a : Option Addr) (n cap : Nat) (os : List Opt) (mac ip server mask router time : Int) (h0 : 0 ≤ ip ∧ ip ≤ 4294967295) (h1 : 0 ≤ server ∧ server ≤ 4294967295) (h2 : 0 ≤ mask ∧ mask ≤ 4294967295) (h3 : 0 ≤ router ∧ router ≤ 4294967295) (h4 : 0 ≤ time ∧ time ≤ 4294967295) (w : World) (h : OS w a n os) (hy : ansB os op ch mac ip server = true) :
    Calls Try.prog 13 #[dhcpV op xid secs flags ci yi si gi ch (.slice a n cap), leaseV mac ip server mask router time] w fun e w' => ∃ g n' cap', e = .returned (.tuple #[dhcpV 2 xid 0 flags 0 ip server gi ch (.slice (some ⟨g, 0, none⟩) n' cap'), .bool true]) ∧ w.heap.size ≤ g ∧ OS w' (some ⟨g, 0, none⟩) n' (leaseOs (kindS (optS os 53)) server time mask router) ∧ Below w.heap.size w w' := by
  unfold ansB at hy
  simp only [Bool.and_eq_true, Bool.not_eq_true', beq_iff_eq] at hy
  obtain ⟨⟨hk0, rfl, rfl⟩, ho⟩ := hy
  have Hk : Hid _ := kindS_vals (optS os 53)
  generalize hkk : kindS (optS os 53) = k at *
  have HK : Hid (kindS (optS os 53) = k) := hkk
  clear hkk
  have H : Hid _ := h
  clear h
  unfold leaseV
  have B2 := below2 w (.cells #[.int .i64 1, .int .u32 xid, .int .i64 secs, .int .i64 flags, .int .u32 ci, .int .u32 yi, .int .u32 si, .int .u32 gi, .int .u64 ch, .slice a n cap] 27) (.cells #[.int .u64 ch, .int .u32 ip, .int .u32 server, .int .u32 mask, .int .u32 router, .int .u32 time] 38)
  have B3 := B2.alloc B2.size (.cells #[.int .i64 0, .int .u32 0, .int .i64 0, .int .i64 0, .int .u32 0, .int .u32 0, .int .u32 0, .int .u32 0, .int .u64 0, .slice none 0 0] 27)
  have HB3 : Hid _ := B3
  clear B2 B3
  unfold dhcpV
  rcases Hk.out with rfl | rfl | rfl
  · simp at hk0
  · clear ho
    go_enter Try.func13, Try.ntmps13
    go_wp2_with fail
    refine (kind_any _ _ _ _ _ _ _ _ _ a n cap os _ (H.out.below HB3.out)).mono ?_
    rw [HK.out]
    rintro e W1 ⟨rfl, hb1⟩
    obtain ⟨hc1, hf1⟩ := bcell hb1
    have HB1 : Hid (Below w.heap.size w W1) := HB3.out.trans (hb1.mono HB3.out.size)
    have hz1 : w.heap.size + 3 ≤ W1.heap.size := by have := hb1.size; simp at this; omega
    have hn0 : w.heap.size < W1.heap.size := by omega
    have hn1 : w.heap.size + 1 < W1.heap.size := by omega
    have hn2 : w.heap.size + 1 + 1 < W1.heap.size := by omega
    clear hb1 HB3
    go_wp2_with fail
    refine (lease_any 2 _ _ _ _ _ _ (by omega) h1 h2 h3 h4 _).mono ?_
    rintro e W2 ⟨g, n', cap', rfl, hgg, hos, hb2⟩
    obtain ⟨hc2, hf2⟩ := bcell hb2
    have HO : Hid _ := hos
    have HB2 : Hid (Below w.heap.size w W2) := (HB1.out.alloc HB1.out.size _).trans (hb2.mono (by have := HB1.out.size; simp; omega))
    have hz2 : W1.heap.size < W2.heap.size := by have := hb2.size; simp at this; omega
    have hgg' : W1.heap.size < g := by simp at hgg; omega
    have hm0 : w.heap.size < W2.heap.size := by omega
    have hm1 : w.heap.size + 1 < W2.heap.size := by omega
    have hm2 : w.heap.size + 1 + 1 < W2.heap.size := by omega
    have ha0 : W1.heap.size ≠ g := by omega
    have ha1 : w.heap.size + 1 + 1 ≠ g := by omega
    clear hb2 hos HB1 hgg
    go_wp2
    refine bodyPost_ret (v := .tuple #[.agg #[.int .i64 2, .int .u32 xid, .int .i64 0, .int .i64 flags, .int .u32 0, .int .u32 ip, .int .u32 server, .int .u32 gi, .int .u64 ch, .slice (some ⟨g, 0, none⟩) n' cap'], .bool true]) ?_ rfl ⟨g, n', cap', rfl, by omega, ?_, ?_⟩
    · simp [results, Try.results13, go_sem, *]
    · repeat refine OS.far ?_ (by assumption)
      exact HO.out
    · repeat refine Below.setCell ?_ (by simp; omega) _
      exact HB2.out
  · simp only [beq_self_eq_true, Bool.true_and, Bool.or_eq_false_iff] at ho
    obtain ⟨ho1, ho2⟩ := ho
    have HO1 : Hid _ := ho1
    have HO2 : Hid _ := ho2
    clear ho1 ho2
    go_enter Try.func13, Try.ntmps13
    go_wp2_with fail
    refine (kind_any _ _ _ _ _ _ _ _ _ a n cap os _ (H.out.below HB3.out)).mono ?_
    rw [HK.out]
    rintro e W1 ⟨rfl, hb1⟩
    obtain ⟨hc1, hf1⟩ := bcell hb1
    have HB1 : Hid (Below w.heap.size w W1) := HB3.out.trans (hb1.mono HB3.out.size)
    have hz1 : w.heap.size + 3 ≤ W1.heap.size := by have := hb1.size; simp at this; omega
    have hn0 : w.heap.size < W1.heap.size := by omega
    have hn1 : w.heap.size + 1 < W1.heap.size := by omega
    have hn2 : w.heap.size + 1 + 1 < W1.heap.size := by omega
    clear hb1 HB3
    go_wp2_with fail
    refine (asks_any _ _ _ _ _ _ _ _ _ 50 _ h0 a n cap os _ (H.out.below HB1.out)).mono ?_
    rw [HO1.out]
    rintro e V1 ⟨rfl, hb1⟩
    obtain ⟨hd1, he1⟩ := bcell hb1
    have HV1 : Hid (Below w.heap.size w V1) := HB1.out.trans (hb1.mono HB1.out.size)
    have hz1 : W1.heap.size ≤ V1.heap.size := hb1.size
    have ho0 : w.heap.size < V1.heap.size := by omega
    have ho1 : w.heap.size + 1 < V1.heap.size := by omega
    have ho2 : w.heap.size + 1 + 1 < V1.heap.size := by omega
    clear hb1 HB1
    go_wp2_with fail
    refine (asks_any _ _ _ _ _ _ _ _ _ 54 _ h1 a n cap os _ (H.out.below HV1.out)).mono ?_
    rw [HO2.out]
    rintro e V2 ⟨rfl, hb1⟩
    obtain ⟨hd2, he2⟩ := bcell hb1
    have HV2 : Hid (Below w.heap.size w V2) := HV1.out.trans (hb1.mono HV1.out.size)
    have hz2' : V1.heap.size ≤ V2.heap.size := hb1.size
    have hp0 : w.heap.size < V2.heap.size := by omega
    have hp1 : w.heap.size + 1 < V2.heap.size := by omega
    have hp2 : w.heap.size + 1 + 1 < V2.heap.size := by omega
    clear hb1 HV1
    go_wp2_with fail
    refine (lease_any 5 _ _ _ _ _ _ (by omega) h1 h2 h3 h4 _).mono ?_
    rintro e W2 ⟨g, n', cap', rfl, hgg, hos, hb2⟩
    obtain ⟨hc2, hf2⟩ := bcell hb2
    have HO : Hid _ := hos
    have HB2 : Hid (Below w.heap.size w W2) := (HV2.out.alloc HV2.out.size _).trans (hb2.mono (by have := HV2.out.size; simp; omega))
    have hz2 : V2.heap.size < W2.heap.size := by have := hb2.size; simp at this; omega
    have hgg' : V2.heap.size < g := by simp at hgg; omega
    have hm0 : w.heap.size < W2.heap.size := by omega
    have hm1 : w.heap.size + 1 < W2.heap.size := by omega
    have hm2 : w.heap.size + 1 + 1 < W2.heap.size := by omega
    have ha0 : V2.heap.size ≠ g := by omega
    have ha1 : w.heap.size + 1 + 1 ≠ g := by omega
    clear hb2 hos HV2 hgg
    go_wp2
    refine bodyPost_ret (v := .tuple #[.agg #[.int .i64 2, .int .u32 xid, .int .i64 0, .int .i64 flags, .int .u32 0, .int .u32 ip, .int .u32 server, .int .u32 gi, .int .u64 ch, .slice (some ⟨g, 0, none⟩) n' cap'], .bool true]) ?_ rfl ⟨g, n', cap', rfl, by omega, ?_, ?_⟩
    · simp [results, Try.results13, go_sem, *]
    · repeat refine OS.far ?_ (by assumption)
      exact HO.out
    · repeat refine Below.setCell ?_ (by simp; omega) _
      exact HB2.out
end Go.Proofs.Ytglaheblbomhpaa
