/- The law DhcpTalks, but for its frame. Conditions: numbers of their kinds. -/
import Derived.Test.YtglaheblbomhpaaDI
import Derived.Deep.RegionHeld3
import Derived.Deep.RegionWith
import Derived.Deep.DrawnRows
namespace Go.Proofs.Ytglaheblbomhpaa
open Go.RowKit
attribute [local go_sem ↓] Go.wp_at_zero Go.wp_at_succ

theorem AtB.setAt {W : World} {b k : Nat} {arr : Array Value} {u : Value} (h : AtB W b arr) (hk : k < arr.size) : AtB (W.setCell ⟨b, k, none⟩ u) b (arr.setIfInBounds k u) := by
  refine ⟨by simpa using h.1, fun i => ?_⟩
  by_cases hi : i = k
  · subst hi
    have hc : W.cell? ⟨b, i, none⟩ = some arr[i] := by rw [h.2 i]; simp [hk]
    rw [World.cell?_setCell_same _ _ _ hc]
    simp [hk]
  · rw [World.cell?_setCell_other _ _ _ _ (fun e => hi (congrArg Addr.off e).symm), h.2 i]
    simp [show ¬ k = i from fun e => hi e.symm]
theorem os_atB {W : World} {b : Nat} {os : List Opt} (h : AtB W b (optCells os).toArray) (n : Nat) (hn : os.length = n) (hm : n ≤ 1000000) : OS W (some ⟨b, 0, none⟩) n os := by
  refine ⟨hn, by omega, .inr ⟨b, 0, rfl, fun i o hi => ?_⟩⟩
  obtain ⟨c0, c1, c2⟩ := optCells_get os i o hi
  rw [Nat.zero_add, h.2, h.2, h.2]
  simp only [List.getElem?_toArray]
  exact ⟨c0, c1, c2⟩

def osAsk : List Opt := [⟨0, 53, ⟨#[1]⟩⟩]
def osReq (ip server : Int) : List Opt := [⟨0, 53, ⟨#[3]⟩⟩, ⟨0, 50, fourS ip⟩, ⟨0, 54, fourS server⟩]
theorem kind_ask : kindS (optS osAsk 53) = 2 := by decide
theorem kind_req (ip server : Int) : kindS (optS (osReq ip server) 53) = 5 := rfl
theorem ans_ask (mac ip server : Int) : ansB osAsk 1 mac mac ip server = true := by
  unfold ansB
  rw [kind_ask]
  simp
theorem other_req (x ip server : Int) (hx : 0 ≤ x ∧ x ≤ 4294967295) (hi : 0 ≤ ip ∧ ip ≤ 4294967295) : otherB (osReq x server) 50 ip = !decide (x = ip) := by
  have e : optS (osReq x server) 50 = fourS x := rfl
  unfold otherB
  rw [e, fourS_eq x ip hx hi, fourS_size]
  simp
theorem other_srv (x server : Int) (hs : 0 ≤ server ∧ server ≤ 4294967295) : otherB (osReq x server) 54 server = false := by
  have e : optS (osReq x server) 54 = fourS server := rfl
  unfold otherB
  rw [e, fourS_eq server server hs hs]
  simp
theorem ans_req (x mac ip server : Int) (hx : 0 ≤ x ∧ x ≤ 4294967295) (hi : 0 ≤ ip ∧ ip ≤ 4294967295) (hs : 0 ≤ server ∧ server ≤ 4294967295) : ansB (osReq x server) 1 mac mac ip server = decide (x = ip) := by
  unfold ansB
  rw [kind_req, other_req x ip server hx hi, other_srv x server hs]
  simp

set_option maxHeartbeats 4000000 in
theorem talks_walk (w : World) (xid flags mac ip server mask router time other : Int) (hm : 0 ≤ mac ∧ mac ≤ 18446744073709551615) (_hx : 0 ≤ xid ∧ xid ≤ 4294967295) (h0 : 0 ≤ ip ∧ ip ≤ 4294967295) (h1 : 0 ≤ server ∧ server ≤ 4294967295) (h2 : 0 ≤ mask ∧ mask ≤ 4294967295) (h3 : 0 ≤ router ∧ router ≤ 4294967295) (h4 : 0 ≤ time ∧ time ≤ 4294967295) (h5 : 0 ≤ other ∧ other ≤ 4294967295) :
    Calls Try.prog 6 #[.int .u32 xid, .int .i64 flags, leaseV mac ip server mask router time, .int .u32 other] w fun e w' => e = .returned (.bool true) ∧ Below w.heap.size w w' := by
  have b0 := below1 w (.cells #[.int .u64 mac, .int .u32 ip, .int .u32 server, .int .u32 mask, .int .u32 router, .int .u32 time] 38)
  have aL0 := atB_new w #[.int .u64 mac, .int .u32 ip, .int .u32 server, .int .u32 mask, .int .u32 router, .int .u32 time] 38 _ rfl
  have HB0 : Hid _ := b0
  have AL0 : Hid _ := aL0
  clear b0 aL0
  by_cases hv : ¬ (mac < 281474976710656 ∧ 0 ≤ flags ∧ flags ≤ 65535)
  · by_cases c1 : 281474976710656 ≤ mac
    · unfold leaseV
      go_enter Try.func6, Try.ntmps6
      go_wp2_with fail
      refine (lives_any _).mono ?_
      rintro e W1 ⟨rfl, hb1⟩
      obtain ⟨x0, x1, x2, x3, x4, x5⟩ := AtB.six (AtB.below AL0.out hb1)
      have HB1 : Hid (Below w.heap.size w W1) := HB0.out.trans (hb1.mono HB0.out.size)
      clear hb1
      go_wp2
      go_ret
      exact ⟨rfl, HB1.out⟩
    · have c1' : mac < 281474976710656 := by omega
      by_cases c2 : flags < 0
      · unfold leaseV
        go_enter Try.func6, Try.ntmps6
        go_wp2_with fail
        refine (lives_any _).mono ?_
        rintro e W1 ⟨rfl, hb1⟩
        obtain ⟨x0, x1, x2, x3, x4, x5⟩ := AtB.six (AtB.below AL0.out hb1)
        have HB1 : Hid (Below w.heap.size w W1) := HB0.out.trans (hb1.mono HB0.out.size)
        clear hb1
        go_wp2
        go_ret
        exact ⟨rfl, HB1.out⟩
      · have c3 : 65535 < flags := by omega
        have c2' : 0 ≤ flags := by omega
        clear hv c2 c1
        unfold leaseV
        go_enter Try.func6, Try.ntmps6
        go_wp2_with fail
        refine (lives_any _).mono ?_
        rintro e W1 ⟨rfl, hb1⟩
        obtain ⟨x0, x1, x2, x3, x4, x5⟩ := AtB.six (AtB.below AL0.out hb1)
        have HB1 : Hid (Below w.heap.size w W1) := HB0.out.trans (hb1.mono HB0.out.size)
        clear hb1
        go_wp2
        go_ret
        exact ⟨rfl, HB1.out⟩
  · obtain ⟨hv1, hv2, hv3⟩ := Classical.not_not.1 hv
    clear hv
    unfold leaseV
    go_enter Try.func6, Try.ntmps6
    go_wp2_with fail
    refine (lives_any _).mono ?_
    rintro e W1 ⟨rfl, hb1⟩
    have HB1 : Hid (Below w.heap.size w W1) := HB0.out.trans (hb1.mono HB0.out.size)
    have aL1 := AtB.below AL0.out hb1
    obtain ⟨x0, x1, x2, x3, x4, x5⟩ := AtB.six aL1
    have AL1 : Hid _ := aL1
    have hl1 : w.heap.size < W1.heap.size := aL1.1
    have hl2 : w.heap.size < W1.heap.size + 1 := by omega
    clear hb1 aL1 HB0 AL0
    go_wp2_with fail
    have bq := below2 W1 (.cells #[.int .i64 0, .int .i64 53, .string ⟨#[1]⟩] 45) (.cells #[.int .i64 1, .int .u32 xid, .int .i64 0, .int .i64 flags, .int .u32 0, .int .u32 0, .int .u32 0, .int .u32 0, .int .u64 mac, .slice (some ⟨W1.heap.size, 0, none⟩) 1 1] 27)
    have hos : OS ((W1.alloc (.cells #[.int .i64 0, .int .i64 53, .string ⟨#[1]⟩] 45)).alloc (.cells #[.int .i64 1, .int .u32 xid, .int .i64 0, .int .i64 flags, .int .u32 0, .int .u32 0, .int .u32 0, .int .u32 0, .int .u64 mac, .slice (some ⟨W1.heap.size, 0, none⟩) 1 1] 27)) (some ⟨W1.heap.size, 0, none⟩) 1 osAsk :=
      os_lit W1 _ osAsk 1 rfl (by omega) ((Below.refl _ _).alloc (by simp) _)
    have aA := atB_new (W1.alloc (.cells #[.int .i64 0, .int .i64 53, .string ⟨#[1]⟩] 45)) #[.int .i64 1, .int .u32 xid, .int .i64 0, .int .i64 flags, .int .u32 0, .int .u32 0, .int .u32 0, .int .u32 0, .int .u64 mac, .slice (some ⟨W1.heap.size, 0, none⟩) 1 1] 27 (W1.heap.size + 1) (by simp)
    have HBq : Hid (Below w.heap.size w _) := HB1.out.trans (bq.mono HB1.out.size)
    have ALq : Hid _ := AtB.below AL1.out bq
    clear x0 x1 x2 x3 x4 x5 AL1 HB1 bq
    refine (answer_yes 1 xid 0 flags 0 0 0 0 mac _ 1 1 osAsk mac ip server mask router time h0 h1 h2 h3 h4 _ hos (ans_ask mac ip server)).mono ?_
    rw [kind_ask]
    unfold dhcpV
    rintro e W2 ⟨g, n', cap', rfl, hg, hos2, hb2⟩
    have aA2 := AtB.below aA hb2
    have fA2 : ∀ o, W2.frozen? ⟨W1.heap.size + 1, o, none⟩ = false := fun o => by
      rw [hb2.frozen (p := ⟨W1.heap.size + 1, o, none⟩) (by simp)]
      simp [go_sem]
    have HB2 : Hid (Below w.heap.size w W2) := HBq.out.trans (hb2.mono HBq.out.size)
    have aL2 := AtB.below ALq.out hb2
    obtain ⟨x0, x1, x2, x3, x4, x5⟩ := AtB.six aL2
    obtain ⟨y0, y1, y2, y3, y4, y5, y6, y7, y8, y9⟩ := AtB.ten aA2
    have AL2 : Hid _ := aL2
    have AA2 : Hid _ := aA2
    have HO2 : Hid _ := hos2
    have FA2 : Hid _ := fA2
    have hl3 : w.heap.size < W2.heap.size := aL2.1
    have hl4 : W1.heap.size + 1 < W2.heap.size := aA2.1
    clear hos aA HBq ALq hb2 aL2 aA2 hos2 hg fA2
    go_wp2_with fail
    refine (find_any 2 xid 0 flags 0 ip server 0 mac 54 _ n' cap' _ _ (HO2.out.below (below1 W2 _))).mono ?_
    rintro e W3 ⟨rfl, hw3⟩
    rw [show findV (leaseOs 2 server time mask router) 54 = .tuple #[.string (fourS server), .bool true] from rfl]
    have bq := below2 W2 (.cells #[.int .i64 2, .int .u32 xid, .int .i64 0, .int .i64 flags, .int .u32 0, .int .u32 ip, .int .u32 server, .int .u32 0, .int .u64 mac, .slice (some ⟨g, 0, none⟩) n' cap'] 27) (.cells #[.int .i64 2, .int .u32 xid, .int .i64 0, .int .i64 flags, .int .u32 0, .int .u32 ip, .int .u32 server, .int .u32 0, .int .u64 mac, .slice (some ⟨g, 0, none⟩) n' cap'] 27)
    rw [← hw3] at bq
    have aO3 : AtB W3 W2.heap.size #[.int .i64 2, .int .u32 xid, .int .i64 0, .int .i64 flags, .int .u32 0, .int .u32 ip, .int .u32 server, .int .u32 0, .int .u64 mac, .slice (some ⟨g, 0, none⟩) n' cap'] := by rw [hw3]; exact AtB.below (atB_new W2 #[.int .i64 2, .int .u32 xid, .int .i64 0, .int .i64 flags, .int .u32 0, .int .u32 ip, .int .u32 server, .int .u32 0, .int .u64 mac, .slice (some ⟨g, 0, none⟩) n' cap'] 27 _ rfl) (below1 _ _)
    have aL3 := AtB.below AL2.out bq
    have aA3 := AtB.below AA2.out bq
    have fA3 : ∀ o, W3.frozen? ⟨W1.heap.size + 1, o, none⟩ = false := fun o => (bq.frozen (p := ⟨W1.heap.size + 1, o, none⟩) hl4).trans (FA2.out o)
    have HB3 : Hid (Below w.heap.size w W3) := HB2.out.trans (bq.mono HB2.out.size)
    have hl5 : W2.heap.size < W3.heap.size := aO3.1
    clear x0 x1 x2 x3 x4 x5 y0 y1 y2 y3 y4 y5 y6 y7 y8 y9 hw3 AL2 AA2 FA2 HB2 bq HO2
    obtain ⟨x0, x1, x2, x3, x4, x5⟩ := AtB.six aL3
    obtain ⟨y0, y1, y2, y3, y4, y5, y6, y7, y8, y9⟩ := AtB.ten aA3
    obtain ⟨z0, z1, z2, z3, z4, z5, z6, z7, z8, z9⟩ := AtB.ten aO3
    have AL3 : Hid _ := aL3
    have AA3 : Hid _ := aA3
    have FA3 : Hid _ := fA3
    clear aL3 aA3 fA3 aO3
    go_wp2_with fail
    refine (four_any _ h0 _).mono ?_
    rintro e W4 ⟨rfl, hb4⟩
    have aL4 := AtB.below AL3.out hb4
    have aA4 := AtB.below AA3.out hb4
    have fA4 : ∀ o, W4.frozen? ⟨W1.heap.size + 1, o, none⟩ = false := fun o => (hb4.frozen (p := ⟨W1.heap.size + 1, o, none⟩) (by have := AA3.out.1; exact this)).trans (FA3.out o)
    have HB4 : Hid (Below w.heap.size w W4) := HB3.out.trans (hb4.mono HB3.out.size)
    clear x0 x1 x2 x3 x4 x5 y0 y1 y2 y3 y4 y5 y6 y7 y8 y9 z0 z1 z2 z3 z4 z5 z6 z7 z8 z9 AL3 AA3 FA3 HB3 hb4
    obtain ⟨x0, x1, x2, x3, x4, x5⟩ := AtB.six aL4
    obtain ⟨y0, y1, y2, y3, y4, y5, y6, y7, y8, y9⟩ := AtB.ten aA4
    have fz := fA4 9
    have AL4 : Hid _ := aL4
    have AA4 : Hid _ := aA4
    have FA4 : Hid _ := fA4
    have hl6 : w.heap.size < W4.heap.size := aL4.1
    have hl7 : W1.heap.size + 1 < W4.heap.size := aA4.1
    have hn1 : ¬ W1.heap.size + 1 = w.heap.size := by omega
    have hn2 : ¬ w.heap.size = W1.heap.size + 1 := by omega
    clear aL4 aA4 fA4
    go_wp2_with fail
    have aA5 : AtB (W4.setCell ⟨W1.heap.size + 1, 9, none⟩ (.slice (some ⟨W4.heap.size, 0, none⟩) 3 3)) (W1.heap.size + 1) #[.int .i64 1, .int .u32 xid, .int .i64 0, .int .i64 flags, .int .u32 0, .int .u32 0, .int .u32 0, .int .u32 0, .int .u64 mac, .slice (some ⟨W4.heap.size, 0, none⟩) 3 3] := AtB.setAt AA4.out (by simp)
    have aL5 := AtB.far (g := W1.heap.size + 1) (k := 9) (u := .slice (some ⟨W4.heap.size, 0, none⟩) 3 3) AL4.out hn1
    have HB5 : Hid (Below w.heap.size w (W4.setCell ⟨W1.heap.size + 1, 9, none⟩ (.slice (some ⟨W4.heap.size, 0, none⟩) 3 3))) := HB4.out.setCell (by show _ ≤ W1.heap.size + 1; omega) _
    have hsz : (W4.setCell ⟨W1.heap.size + 1, 9, none⟩ (.slice (some ⟨W4.heap.size, 0, none⟩) 3 3)).heap.size = W4.heap.size := by simp
    generalize W4.setCell ⟨W1.heap.size + 1, 9, none⟩ (.slice (some ⟨W4.heap.size, 0, none⟩) 3 3) = V at aA5 aL5 HB5 hsz ⊢
    clear x0 x1 x2 x3 x4 x5 y0 y1 y2 y3 y4 y5 y6 y7 y8 y9 AL4 AA4 FA4 HB4 fz
    have hos : OS (V.alloc (.cells #[.int .i64 0, .int .i64 53, .string ⟨#[3]⟩, .int .i64 0, .int .i64 50, .string (fourS ip), .int .i64 0, .int .i64 54, .string (fourS server)] 45)) (some ⟨W4.heap.size, 0, none⟩) 3 (osReq ip server) := by
      have h := os_lit V _ (osReq ip server) 3 rfl (by omega) (Below.refl _ _)
      rw [hsz] at h
      exact h
    have aP5 := atB_new V #[.int .i64 0, .int .i64 53, .string ⟨#[3]⟩, .int .i64 0, .int .i64 50, .string (fourS ip), .int .i64 0, .int .i64 54, .string (fourS server)] 45 W4.heap.size hsz.symm
    have aA6 := AtB.below aA5 (below1 V (.cells #[.int .i64 0, .int .i64 53, .string ⟨#[3]⟩, .int .i64 0, .int .i64 50, .string (fourS ip), .int .i64 0, .int .i64 54, .string (fourS server)] 45))
    have aL6 := AtB.below aL5 (below1 V (.cells #[.int .i64 0, .int .i64 53, .string ⟨#[3]⟩, .int .i64 0, .int .i64 50, .string (fourS ip), .int .i64 0, .int .i64 54, .string (fourS server)] 45))
    have HB6 : Hid (Below w.heap.size w (V.alloc (.cells #[.int .i64 0, .int .i64 53, .string ⟨#[3]⟩, .int .i64 0, .int .i64 50, .string (fourS ip), .int .i64 0, .int .i64 54, .string (fourS server)] 45))) := HB5.out.alloc HB5.out.size _
    have fP6 : (V.alloc (.cells #[.int .i64 0, .int .i64 53, .string ⟨#[3]⟩, .int .i64 0, .int .i64 50, .string (fourS ip), .int .i64 0, .int .i64 54, .string (fourS server)] 45)).frozen? ⟨W4.heap.size, 5, none⟩ = false := by rw [← hsz]; simp [go_sem]
    refine (answer_yes 1 xid 0 flags 0 0 0 0 mac _ 3 3 (osReq ip server) mac ip server mask router time h0 h1 h2 h3 h4 _ hos (by rw [ans_req ip mac ip server h0 h0 h1]; simp)).mono ?_
    rw [kind_req]
    unfold dhcpV
    rintro e W5 ⟨g2, n2, cap2, rfl, hg2, hos2, hb5⟩
    have aA7 := AtB.below aA6 hb5
    have aL7 := AtB.below aL6 hb5
    have aP7 := AtB.below aP5 hb5
    have fP7 : W5.frozen? ⟨W4.heap.size, 5, none⟩ = false := (hb5.frozen (p := ⟨W4.heap.size, 5, none⟩) (by simp; omega)).trans fP6
    have HB7 : Hid (Below w.heap.size w W5) := HB6.out.trans (hb5.mono HB6.out.size)
    obtain ⟨x0, x1, x2, x3, x4, x5⟩ := AtB.six aL7
    have AL7 : Hid _ := aL7
    have AA7 : Hid _ := aA7
    have AP7 : Hid _ := aP7
    have FP7 : Hid _ := fP7
    have HO7 : Hid _ := hos2
    have hl8 : w.heap.size < W5.heap.size := aL7.1
    have hl9 : W1.heap.size + 1 < W5.heap.size := aA7.1
    have hl10 : W4.heap.size < W5.heap.size := aP7.1
    clear hos aA5 aL5 HB5 hsz aP5 aA6 aL6 HB6 fP6 hb5 hos2 hg2 aA7 aL7 aP7 fP7
    go_wp2_with fail
    refine (find_any 2 xid 0 flags 0 ip server 0 mac 53 _ n2 cap2 _ _ (HO7.out.below (below1 W5 _))).mono ?_
    rintro e W6 ⟨rfl, hw6⟩
    rw [show findV (leaseOs 5 server time mask router) 53 = .tuple #[.string ⟨#[5]⟩, .bool true] from rfl]
    have bq := below2 W5 (.cells #[.int .i64 2, .int .u32 xid, .int .i64 0, .int .i64 flags, .int .u32 0, .int .u32 ip, .int .u32 server, .int .u32 0, .int .u64 mac, .slice (some ⟨g2, 0, none⟩) n2 cap2] 27) (.cells #[.int .i64 2, .int .u32 xid, .int .i64 0, .int .i64 flags, .int .u32 0, .int .u32 ip, .int .u32 server, .int .u32 0, .int .u64 mac, .slice (some ⟨g2, 0, none⟩) n2 cap2] 27)
    rw [← hw6] at bq
    have aO8 : AtB W6 W5.heap.size #[.int .i64 2, .int .u32 xid, .int .i64 0, .int .i64 flags, .int .u32 0, .int .u32 ip, .int .u32 server, .int .u32 0, .int .u64 mac, .slice (some ⟨g2, 0, none⟩) n2 cap2] := by rw [hw6]; exact AtB.below (atB_new W5 #[.int .i64 2, .int .u32 xid, .int .i64 0, .int .i64 flags, .int .u32 0, .int .u32 ip, .int .u32 server, .int .u32 0, .int .u64 mac, .slice (some ⟨g2, 0, none⟩) n2 cap2] 27 _ rfl) (below1 _ _)
    have aA8 := AtB.below AA7.out bq
    have aL8 := AtB.below AL7.out bq
    have aP8 := AtB.below AP7.out bq
    have fP8 : W6.frozen? ⟨W4.heap.size, 5, none⟩ = false := (bq.frozen (p := ⟨W4.heap.size, 5, none⟩) hl10).trans FP7.out
    have HB8 : Hid (Below w.heap.size w W6) := HB7.out.trans (bq.mono HB7.out.size)
    clear x0 x1 x2 x3 x4 x5 AL7 AA7 AP7 FP7 HO7 HB7 bq hw6
    obtain ⟨x0, x1, x2, x3, x4, x5⟩ := AtB.six aL8
    obtain ⟨z0, z1, z2, z3, z4, z5, z6, z7, z8, z9⟩ := AtB.ten aO8
    have hse : ((⟨#[5]⟩ : ByteArray).toList == (⟨#[5]⟩ : ByteArray).toList) = true := by simp
    have AL8 : Hid _ := aL8
    have AA8 : Hid _ := aA8
    have AP8 : Hid _ := aP8
    have FP8 : Hid _ := fP8
    clear aL8 aA8 aP8 fP8 aO8
    go_wp2_with fail
    have ya9 : W6.cell? ⟨W1.heap.size + 1, 9, none⟩ = some (.slice (some ⟨W4.heap.size, 0, none⟩) 3 3) := AA8.out.2 9
    have yl9 : W1.heap.size + 1 < W6.heap.size := AA8.out.1
    have yl5 : W4.heap.size < W6.heap.size := AP8.out.1
    have yn : ¬ W4.heap.size = W1.heap.size + 1 := by omega
    clear x0 x1 x2 x3 x4 x5 z0 z1 z2 z3 z4 z5 z6 z7 z8 z9
    go_region_held3 (fun W => W.cell? ⟨W1.heap.size + 1, 9, none⟩ = some (.slice (some ⟨W4.heap.size, 0, none⟩) 3 3))
      (first
        | exact ya9
        | exact yc9
        | exact (World.cell?_setCell_other _ _ _ _ (fun e => yn (congrArg Addr.block e))).trans yc9
        | fail)
      (first
        | (go_at_call 17; refine (four_any _ h5 _).mono ?_; rintro e W7 ⟨rfl, hb7⟩; have yc9 := (hb7.cell (p := ⟨W1.heap.size + 1, 9, none⟩) yl9).trans ya9; have yc5 := (hb7.cell (p := ⟨W4.heap.size, 5, none⟩) yl5).trans (AP8.out.2 5); have yf5 := (hb7.frozen (p := ⟨W4.heap.size, 5, none⟩) yl5).trans FP8.out)
        | fail)
    have hb8 : Below W6.heap.size W6 W7 := ((Below.refl W6.heap.size W6).drew).trans hb7
    have aA9 := AtB.far (g := W4.heap.size) (k := 5) (u := .string (fourS other)) (AtB.below AA8.out hb8) yn
    have aL9 := AtB.far (g := W4.heap.size) (k := 5) (u := .string (fourS other)) (AtB.below AL8.out hb8) (by omega)
    have aP9 : AtB (W7.setCell ⟨W4.heap.size, 5, none⟩ (.string (fourS other))) W4.heap.size #[.int .i64 0, .int .i64 53, .string ⟨#[3]⟩, .int .i64 0, .int .i64 50, .string (fourS other), .int .i64 0, .int .i64 54, .string (fourS server)] := AtB.setAt (AtB.below AP8.out hb8) (by simp)
    have HBz : Hid (Below w.heap.size w (W7.setCell ⟨W4.heap.size, 5, none⟩ (.string (fourS other)))) := (HB8.out.trans (hb8.mono HB8.out.size)).setCell (by show _ ≤ W4.heap.size; omega) _
    have hos : OS (W7.setCell ⟨W4.heap.size, 5, none⟩ (.string (fourS other))) (some ⟨W4.heap.size, 0, none⟩) 3 (osReq other server) := os_atB aP9 3 rfl (by omega)
    obtain ⟨x0, x1, x2, x3, x4, x5⟩ := AtB.six aL9
    obtain ⟨y0, y1, y2, y3, y4, y5, y6, y7, y8, y9⟩ := AtB.ten aA9
    clear hb7 hb8 aA9 aP9 AL8 AA8 AP8 FP8 HB8 ya9 yc9 yc5 yf5
    generalize W7.setCell ⟨W4.heap.size, 5, none⟩ (.string (fourS other)) = W8 at *
    have HOS : Hid _ := hos
    have AL9 : Hid _ := aL9
    clear hos aL9
    go_wp2_with fail
    have hos := HOS.out
    have aL9 := AL9.out
    clear x0 x1 x2 x3 x4 x5 y0 y1 y2 y3 y4 y5 y6 y7 y8 y9 HOS AL9
    by_cases ho : other = ip
    · refine (answer_yes 1 xid 0 flags 0 0 0 0 mac _ 3 3 (osReq other server) mac ip server mask router time h0 h1 h2 h3 h4 _ hos (by rw [ans_req other mac ip server h5 h0 h1]; simp [ho])).mono ?_
      unfold dhcpV
      rintro e W9 ⟨g3, n3, cap3, rfl, hg3, hos3, hb9⟩
      obtain ⟨x0, x1, x2, x3, x4, x5⟩ := AtB.six (AtB.below aL9 hb9)
      have HB9 : Hid (Below w.heap.size w W9) := HBz.out.trans (hb9.mono HBz.out.size)
      clear hb9 hg3 hos3 aL9 hos
      subst ho
      go_wp2
      go_ret
      exact ⟨by simp, HB9.out⟩
    · refine (answer_no 1 xid 0 flags 0 0 0 0 mac _ 3 3 (osReq other server) mac ip server mask router time h0 h1 _ hos (by rw [ans_req other mac ip server h5 h0 h1]; simp [ho])).mono ?_
      unfold zeroV dhcpV
      rintro e W9 ⟨rfl, hb9⟩
      obtain ⟨x0, x1, x2, x3, x4, x5⟩ := AtB.six (AtB.below aL9 hb9)
      have HB9 : Hid (Below w.heap.size w W9) := HBz.out.trans (hb9.mono HBz.out.size)
      have ho' : (other == ip) = false := by simp [ho]
      clear hb9 aL9 hos ho
      go_wp2
      go_ret
      exact ⟨by simp, HB9.out⟩
end Go.Proofs.Ytglaheblbomhpaa
