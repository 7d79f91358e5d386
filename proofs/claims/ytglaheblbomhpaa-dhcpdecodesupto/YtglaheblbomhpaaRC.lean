/- What Answer of the reference of dhcp answers: the answer. Conditions: the options can be read; numbers of 32 bits. -/
import Derived.Test.YtglaheblbomhpaaRB
import Derived.Test.YtglaheblbomhpaaDJ
import Derived.Deep.RegionHeld3
import Derived.Deep.RegionWith
import Derived.Deep.DrawnRows
import Derived.Deep.AppendLies
import Derived.Deep.RegionLaw
import Derived.Deep.Onto
namespace Go.Proofs.Ytglaheblbomhpaa
open Go.RowKit
attribute [local go_sem ↓] Go.wp_at_zero Go.wp_at_succ

theorem AtB.grown {W W' : World} {b : Nat} {arr : Array Value} {row : Option Nat} (h : AtB W b arr) (hg : W.grownBy W' row) (hne : some b ≠ row) : AtB W' b arr :=
  ⟨Nat.lt_of_lt_of_le h.1 hg.size, fun i => (hg.cell_far ⟨b, i, none⟩ h.1 hne).trans (h.2 i)⟩
theorem bv_call {VA W w' : World} (h : Below VA.heap.size VA W) (hb : Below W.heap.size W w') : Below VA.heap.size VA w' := h.trans (hb.mono h.size)

set_option linter.unusedSimpArgs false in
set_option maxHeartbeats 4000000 in
theorem ranswer_yes (op xid secs flags ci yi si gi ch : Int) (a : Option Addr) (n cap : Nat) (os : List Opt) (mac ip server mask router time : Int) (h0 : 0 ≤ ip ∧ ip ≤ 4294967295) (h1 : 0 ≤ server ∧ server ≤ 4294967295) (h2 : 0 ≤ mask ∧ mask ≤ 4294967295) (h3 : 0 ≤ router ∧ router ≤ 4294967295) (h4 : 0 ≤ time ∧ time ≤ 4294967295) (w : World) (h : OS w a n os) (hy : ansB os op ch mac ip server = true) :
    Calls Try.prog 14 #[dhcpV op xid secs flags ci yi si gi ch (.slice a n cap), leaseV mac ip server mask router time] w fun e w' => ∃ g n' cap', e = .returned (.tuple #[dhcpV 2 xid 0 flags 0 ip server gi ch (.slice (some ⟨g, 0, none⟩) n' cap'), .bool true]) ∧ w.heap.size ≤ g ∧ OS w' (some ⟨g, 0, none⟩) n' (leaseOs (kindS (optS os 53)) server time mask router) ∧ Below w.heap.size w w' := by
  unfold ansB at hy
  simp only [Bool.and_eq_true, Bool.not_eq_true', beq_iff_eq] at hy
  obtain ⟨⟨hk0, rfl, rfl⟩, ho⟩ := hy
  have H : Hid _ := h
  clear h
  obtain ⟨bf, hfv, _⟩ := findV_optS os 53
  have HF : Hid _ := hfv
  clear hfv
  unfold leaseV
  have B2 := below2 w (.cells #[.int .i64 1, .int .u32 xid, .int .i64 secs, .int .i64 flags, .int .u32 ci, .int .u32 yi, .int .u32 si, .int .u32 gi, .int .u64 ch, .slice a n cap] 27) (.cells #[.int .u64 ch, .int .u32 ip, .int .u32 server, .int .u32 mask, .int .u32 router, .int .u32 time] 38)
  have B3 := B2.alloc B2.size (.cells #[.int .i64 0, .int .u32 0, .int .i64 0, .int .i64 0, .int .u32 0, .int .u32 0, .int .u32 0, .int .u32 0, .int .u64 0, .slice none 0 0] 27)
  have HB3 : Hid _ := B3
  have aM0 := AtB.below (AtB.below (atB_new w #[.int .i64 1, .int .u32 xid, .int .i64 secs, .int .i64 flags, .int .u32 ci, .int .u32 yi, .int .u32 si, .int .u32 gi, .int .u64 ch, .slice a n cap] 27 w.heap.size rfl) (below1 _ (.cells #[.int .u64 ch, .int .u32 ip, .int .u32 server, .int .u32 mask, .int .u32 router, .int .u32 time] 38))) (below1 _ (.cells #[.int .i64 0, .int .u32 0, .int .i64 0, .int .i64 0, .int .u32 0, .int .u32 0, .int .u32 0, .int .u32 0, .int .u64 0, .slice none 0 0] 27))
  have aL0 := AtB.below (atB_new (w.alloc (.cells #[.int .i64 1, .int .u32 xid, .int .i64 secs, .int .i64 flags, .int .u32 ci, .int .u32 yi, .int .u32 si, .int .u32 gi, .int .u64 ch, .slice a n cap] 27)) #[.int .u64 ch, .int .u32 ip, .int .u32 server, .int .u32 mask, .int .u32 router, .int .u32 time] 38 (w.heap.size + 1) (by simp)) (below1 _ (.cells #[.int .i64 0, .int .u32 0, .int .i64 0, .int .i64 0, .int .u32 0, .int .u32 0, .int .u32 0, .int .u32 0, .int .u64 0, .slice none 0 0] 27))
  have aZ0 := atB_new ((w.alloc (.cells #[.int .i64 1, .int .u32 xid, .int .i64 secs, .int .i64 flags, .int .u32 ci, .int .u32 yi, .int .u32 si, .int .u32 gi, .int .u64 ch, .slice a n cap] 27)).alloc (.cells #[.int .u64 ch, .int .u32 ip, .int .u32 server, .int .u32 mask, .int .u32 router, .int .u32 time] 38)) #[.int .i64 0, .int .u32 0, .int .i64 0, .int .i64 0, .int .u32 0, .int .u32 0, .int .u32 0, .int .u32 0, .int .u64 0, .slice none 0 0] 27 (w.heap.size + 1 + 1) (by simp)
  have fZ0 : ∀ o, (((w.alloc (.cells #[.int .i64 1, .int .u32 xid, .int .i64 secs, .int .i64 flags, .int .u32 ci, .int .u32 yi, .int .u32 si, .int .u32 gi, .int .u64 ch, .slice a n cap] 27)).alloc (.cells #[.int .u64 ch, .int .u32 ip, .int .u32 server, .int .u32 mask, .int .u32 router, .int .u32 time] 38)).alloc (.cells #[.int .i64 0, .int .u32 0, .int .i64 0, .int .i64 0, .int .u32 0, .int .u32 0, .int .u32 0, .int .u32 0, .int .u64 0, .slice none 0 0] 27)).frozen? ⟨w.heap.size + 1 + 1, o, none⟩ = false := fun o => by simp [go_sem]
  have AM0 : Hid _ := aM0
  have AL0 : Hid _ := aL0
  have AZ0 : Hid _ := aZ0
  have FZ0 : Hid _ := fZ0
  clear B2 B3 aM0 aL0 aZ0 fZ0
  unfold dhcpV
  generalize optS os 53 = s at *
  by_cases hs1 : s = ⟨#[1]⟩
  · subst hs1
    clear ho hk0
    have t3 : ((⟨#[1]⟩ : ByteArray).toList == (⟨#[3]⟩ : ByteArray).toList) = false := str_ne (by decide)
    go_enter Try.func14, Try.ntmps14
    go_wp2_with fail
    refine (rfind_any _ _ _ _ _ _ _ _ _ 53 a n cap os _ (H.out.below HB3.out)).mono ?_
    rw [HF.out]
    rintro e W1 ⟨rfl, hw1⟩
    have hb1 := below1 (((w.alloc (.cells #[.int .i64 1, .int .u32 xid, .int .i64 secs, .int .i64 flags, .int .u32 ci, .int .u32 yi, .int .u32 si, .int .u32 gi, .int .u64 ch, .slice a n cap] 27)).alloc (.cells #[.int .u64 ch, .int .u32 ip, .int .u32 server, .int .u32 mask, .int .u32 router, .int .u32 time] 38)).alloc (.cells #[.int .i64 0, .int .u32 0, .int .i64 0, .int .i64 0, .int .u32 0, .int .u32 0, .int .u32 0, .int .u32 0, .int .u64 0, .slice none 0 0] 27)) (.cells #[.int .i64 1, .int .u32 xid, .int .i64 secs, .int .i64 flags, .int .u32 ci, .int .u32 yi, .int .u32 si, .int .u32 gi, .int .u64 ch, .slice a n cap] 27)
    rw [← hw1] at hb1
    clear hw1
    have HBW1 : Hid (Below w.heap.size w W1) := HB3.out.trans (hb1.mono HB3.out.size)
    have aMW1 := AtB.below AM0.out hb1
    have aLW1 := AtB.below AL0.out hb1
    have aZW1 := AtB.below AZ0.out hb1
    have fZW1 : ∀ o, W1.frozen? ⟨w.heap.size + 1 + 1, o, none⟩ = false := fun o => (hb1.frozen (p := ⟨w.heap.size + 1 + 1, o, none⟩) AZ0.out.1).trans (FZ0.out o)
    obtain ⟨x0, x1, x2, x3, x4, x5, x6, x7, x8, x9⟩ := AtB.ten aMW1
    obtain ⟨y0, y1, y2, y3, y4, y5⟩ := AtB.six aLW1
    have AMW1 : Hid _ := aMW1
    have ALW1 : Hid _ := aLW1
    have AZW1 : Hid _ := aZW1
    have FZW1 : Hid _ := fZW1
    have hn0W1 : w.heap.size < W1.heap.size := aMW1.1
    have hn1W1 : w.heap.size + 1 < W1.heap.size := aLW1.1
    have hn2W1 : w.heap.size + 1 + 1 < W1.heap.size := aZW1.1
    clear hb1 aMW1 aLW1 aZW1 fZW1
    go_wp2_with fail
    have aA := atB_new W1 #[.int .i64 2, .int .u32 xid, .int .i64 0, .int .i64 flags, .int .u32 0, .int .u32 ip, .int .u32 server, .int .u32 gi, .int .u64 ch, .slice none 0 0] 27 W1.heap.size rfl
    have bP := below1 W1 (.cells #[.int .i64 2, .int .u32 xid, .int .i64 0, .int .i64 flags, .int .u32 0, .int .u32 ip, .int .u32 server, .int .u32 gi, .int .u64 ch, .slice none 0 0] 27)
    have aL := AtB.below ALW1.out bP
    have aZ := AtB.below AZW1.out bP
    have fZ : ∀ o, (W1.alloc (.cells #[.int .i64 2, .int .u32 xid, .int .i64 0, .int .i64 flags, .int .u32 0, .int .u32 ip, .int .u32 server, .int .u32 gi, .int .u64 ch, .slice none 0 0] 27)).frozen? ⟨w.heap.size + 1 + 1, o, none⟩ = false := fun o => (bP.frozen (p := ⟨w.heap.size + 1 + 1, o, none⟩) hn2W1).trans (FZW1.out o)
    have fA : ∀ o, (W1.alloc (.cells #[.int .i64 2, .int .u32 xid, .int .i64 0, .int .i64 flags, .int .u32 0, .int .u32 ip, .int .u32 server, .int .u32 gi, .int .u64 ch, .slice none 0 0] 27)).frozen? ⟨W1.heap.size, o, none⟩ = false := fun o => by simp [go_sem]
    have hBV : Below w.heap.size w (W1.alloc (.cells #[.int .i64 2, .int .u32 xid, .int .i64 0, .int .i64 flags, .int .u32 0, .int .u32 ip, .int .u32 server, .int .u32 gi, .int .u64 ch, .slice none 0 0] 27)) := HBW1.out.alloc HBW1.out.size _
    generalize W1.alloc (.cells #[.int .i64 2, .int .u32 xid, .int .i64 0, .int .i64 flags, .int .u32 0, .int .u32 ip, .int .u32 server, .int .u32 gi, .int .u64 ch, .slice none 0 0] 27) = VA at aA bP aL aZ fZ fA hBV ⊢
    have hpa : W1.heap.size < VA.heap.size := aA.1
    have hpl : w.heap.size + 1 < VA.heap.size := aL.1
    have hpz : w.heap.size + 1 + 1 < VA.heap.size := aZ.1
    clear x0 x1 x2 x3 x4 x5 x6 x7 x8 x9 y0 y1 y2 y3 y4 y5 bP AM0 AL0 AZ0 FZ0 AMW1 ALW1 AZW1 FZW1 HBW1 HB3
    obtain ⟨y0, y1, y2, y3, y4, y5⟩ := AtB.six aL
    have hV0 : Below VA.heap.size VA VA.drew := (Below.refl _ _).drew
    have KC : Hid (∀ W, Below VA.heap.size VA W → W.cell? ⟨w.heap.size + 1, 2, none⟩ = some (.int .u32 server) ∧ W.cell? ⟨w.heap.size + 1, 3, none⟩ = some (.int .u32 mask) ∧ W.cell? ⟨w.heap.size + 1, 5, none⟩ = some (.int .u32 time)) := fun W h => ⟨(h.cell (p := ⟨w.heap.size + 1, 2, none⟩) hpl).trans y2, (h.cell (p := ⟨w.heap.size + 1, 3, none⟩) hpl).trans y3, (h.cell (p := ⟨w.heap.size + 1, 5, none⟩) hpl).trans y5⟩
    have AA : Hid _ := aA
    have AL : Hid _ := aL
    have AZ : Hid _ := aZ
    have FZ : Hid _ := fZ
    have FA : Hid _ := fA
    have HBV : Hid _ := hBV
    have hd1 : ¬ W1.heap.size = w.heap.size + 1 := by omega
    have hd2 : ¬ w.heap.size + 1 = W1.heap.size := by omega
    clear aA aL aZ fZ fA hBV y0 y1 y2 y3 y4 y5
    go_region_held3 (fun W => W.cell? ⟨w.heap.size + 1, 2, none⟩ = some (.int .u32 server) ∧ W.cell? ⟨w.heap.size + 1, 3, none⟩ = some (.int .u32 mask) ∧ W.cell? ⟨w.heap.size + 1, 5, none⟩ = some (.int .u32 time))
      (first
        | exact KC.out _ hV0
        | exact KC.out _ hVn
        | exact KC.out _ (hVn.alloc hVn.size _)
        | go_keep
        | fail)
      (first
        | (go_at_call 32; refine (rfour_any _ (by omega) _).mono ?_; rintro e w' ⟨rfl, hb'⟩; have hVn := bv_call (VA := VA) (by assumption) hb'; have q9 := (hVn.cell (p := ⟨W1.heap.size, 9, none⟩) hpa).trans (AA.out.2 9); have qf := (hVn.frozen (p := ⟨W1.heap.size, 9, none⟩) hpa).trans (FA.out 9); have ql : W1.heap.size < w'.heap.size := Nat.lt_of_lt_of_le hpa hVn.size; have qm : w.heap.size + 1 < w'.heap.size := Nat.lt_of_lt_of_le hpl hVn.size; have qs := KC.out _ hVn)
        | fail)
    have aLs := AtB.far (g := W1.heap.size) (k := 9) (u := (.slice (some ⟨w'.heap.size, 0, none⟩) 4 4)) (AtB.below AL.out hVn) hd1
    have aZs := AtB.far (g := W1.heap.size) (k := 9) (u := (.slice (some ⟨w'.heap.size, 0, none⟩) 4 4)) (AtB.below AZ.out hVn) (by omega)
    have aAs : AtB (w'.setCell ⟨W1.heap.size, 9, none⟩ (.slice (some ⟨w'.heap.size, 0, none⟩) 4 4)) W1.heap.size #[.int .i64 2, .int .u32 xid, .int .i64 0, .int .i64 flags, .int .u32 0, .int .u32 ip, .int .u32 server, .int .u32 gi, .int .u64 ch, .slice (some ⟨w'.heap.size, 0, none⟩) 4 4] := AtB.setAt (AtB.below AA.out hVn) (by simp)
    have hBs : Below w.heap.size w (w'.setCell ⟨W1.heap.size, 9, none⟩ (.slice (some ⟨w'.heap.size, 0, none⟩) 4 4)) := (HBV.out.trans (hVn.mono HBV.out.size)).setCell (by show _ ≤ W1.heap.size; omega) _
    have fZs : ∀ o, (w'.setCell ⟨W1.heap.size, 9, none⟩ (.slice (some ⟨w'.heap.size, 0, none⟩) 4 4)).frozen? ⟨w.heap.size + 1 + 1, o, none⟩ = false := fun o => by rw [World.frozen?_setCell]; exact (hVn.frozen (p := ⟨w.heap.size + 1 + 1, o, none⟩) hpz).trans (FZ.out o)
    have fAs : ∀ o, (w'.setCell ⟨W1.heap.size, 9, none⟩ (.slice (some ⟨w'.heap.size, 0, none⟩) 4 4)).frozen? ⟨W1.heap.size, o, none⟩ = false := fun o => by rw [World.frozen?_setCell]; exact (hVn.frozen (p := ⟨W1.heap.size, o, none⟩) hpa).trans (FA.out o)
    have hsz : (w'.setCell ⟨W1.heap.size, 9, none⟩ (.slice (some ⟨w'.heap.size, 0, none⟩) 4 4)).heap.size = w'.heap.size := by simp
    generalize (w'.setCell ⟨W1.heap.size, 9, none⟩ (.slice (some ⟨w'.heap.size, 0, none⟩) 4 4)) = WS at aLs aZs aAs hBs fZs fAs hsz ⊢
    have hown := own_opts WS w.heap.size [⟨0, 53, ⟨#[2]⟩⟩, ⟨0, 54, fourS server⟩, ⟨0, 51, fourS time⟩, ⟨0, 1, fourS mask⟩] hBs.size 4 rfl (by omega)
    rw [hsz] at hown
    have bO := below1 WS (.cells #[.int .i64 0, .int .i64 53, .string ⟨#[2]⟩, .int .i64 0, .int .i64 54, .string (fourS server), .int .i64 0, .int .i64 51, .string (fourS time), .int .i64 0, .int .i64 1, .string (fourS mask)] 45)
    have aLu := AtB.below aLs bO
    have aZu := AtB.below aZs bO
    have aAu := AtB.below aAs bO
    have fZu : ∀ o, (WS.alloc (.cells #[.int .i64 0, .int .i64 53, .string ⟨#[2]⟩, .int .i64 0, .int .i64 54, .string (fourS server), .int .i64 0, .int .i64 51, .string (fourS time), .int .i64 0, .int .i64 1, .string (fourS mask)] 45)).frozen? ⟨w.heap.size + 1 + 1, o, none⟩ = false := fun o => (bO.frozen (p := ⟨w.heap.size + 1 + 1, o, none⟩) aZs.1).trans (fZs o)
    have fAu : ∀ o, (WS.alloc (.cells #[.int .i64 0, .int .i64 53, .string ⟨#[2]⟩, .int .i64 0, .int .i64 54, .string (fourS server), .int .i64 0, .int .i64 51, .string (fourS time), .int .i64 0, .int .i64 1, .string (fourS mask)] 45)).frozen? ⟨W1.heap.size, o, none⟩ = false := fun o => (bO.frozen (p := ⟨W1.heap.size, o, none⟩) aAs.1).trans (fAs o)
    have hBu := hBs.alloc hBs.size (.cells #[.int .i64 0, .int .i64 53, .string ⟨#[2]⟩, .int .i64 0, .int .i64 54, .string (fourS server), .int .i64 0, .int .i64 51, .string (fourS time), .int .i64 0, .int .i64 1, .string (fourS mask)] 45)
    have hownU : (WS.alloc (.cells #[.int .i64 0, .int .i64 53, .string ⟨#[2]⟩, .int .i64 0, .int .i64 54, .string (fourS server), .int .i64 0, .int .i64 51, .string (fourS time), .int .i64 0, .int .i64 1, .string (fourS mask)] 45)).ownsRow w.heap.size 45 3 (.slice (some ⟨w'.heap.size, 0, none⟩) 4 4) 4 (optCells [⟨0, 53, ⟨#[2]⟩⟩, ⟨0, 54, fourS server⟩, ⟨0, 51, fourS time⟩, ⟨0, 1, fourS mask⟩]) := hown
    have hgw : W1.heap.size < w'.heap.size := ql
    clear aLs aZs aAs hBs fZs fAs hsz hown bO AL AZ AA FZ FA HBV KC hV0 hVn q9 qf ql qm qs hb'
    generalize WS.alloc (.cells #[.int .i64 0, .int .i64 53, .string ⟨#[2]⟩, .int .i64 0, .int .i64 54, .string (fourS server), .int .i64 0, .int .i64 51, .string (fourS time), .int .i64 0, .int .i64 1, .string (fourS mask)] 45) = U at *
    have HOw : Hid _ := hownU
    have AAu : Hid _ := aAu
    have AZu : Hid _ := aZu
    have ALu : Hid _ := aLu
    have FZu : Hid _ := fZu
    have FAu : Hid _ := fAu
    have HBu : Hid _ := hBu
    have hU1 : W1.heap.size < U.heap.size := aAu.1
    have hU2 : w.heap.size + 1 < U.heap.size := aLu.1
    have hU3 : w.heap.size + 1 + 1 < U.heap.size := aZu.1
    obtain ⟨y0, y1, y2, y3, y4, y5⟩ := AtB.six aLu
    obtain ⟨u0, u1, u2, u3, u4, u5, u6, u7, u8, u9⟩ := AtB.ten aAu
    clear hownU aAu aZu aLu fZu fAu hBu
    have hd3 : ¬ W1.heap.size = w.heap.size + 1 + 1 := by omega
    have hd4 : ¬ w.heap.size + 1 + 1 = W1.heap.size := by omega
    by_cases hr0 : router = 0
    · obtain ⟨z0, z1, z2, z3, z4, z5, z6, z7, z8, z9⟩ := AtB.ten AZu.out
      have fz := FZu.out
      have hne2 : w.heap.size + 1 + 1 ≠ w'.heap.size := by omega
      subst hr0
      go_wp2
      refine bodyPost_ret (v := .tuple #[.agg #[.int .i64 2, .int .u32 xid, .int .i64 0, .int .i64 flags, .int .u32 0, .int .u32 ip, .int .u32 server, .int .u32 gi, .int .u64 ch, .slice (some ⟨w'.heap.size, 0, none⟩) 4 4], .bool true]) ?_ rfl ⟨w'.heap.size, 4, 4, rfl, by omega, ?_, ?_⟩
      · simp [results, Try.results14, go_sem, *]
      · repeat refine OS.far ?_ (by assumption)
        exact os_own HOw.out (by omega)
      · repeat refine Below.setCell ?_ (by simp; omega) _
        exact HBu.out
    · have er0 : (router == 0) = false := by simp [hr0]
      obtain ⟨i0, hi, hzz0, hzz1, hzz2⟩ := info_parts infoOpt
      go_wp2_with fail
      refine wp_region_held_drew (S := fun W => W.cell? ⟨w.heap.size + 1, 4, none⟩ = some (.int .u32 router)) (by kernel_rfl) ?_ (fun hHeld => ?_)
      · exact y4
      refine wpAnyH_take (i := 0) (v := ?_) rfl (by kernel_rfl) (by kernel_rfl) (by kernel_rfl) (fun _ _ _ h => h) (Or.inl ⟨by rfl, ?_⟩) (by assumption) ?_
      rotate_left
      · (intro w hSw; (try dsimp only at hSw); go_simp; try with_reducible rfl)
      try simp only [List.getElem_toArray, List.getElem_cons_zero, List.getElem_cons_succ, Act.put, List.setIfInBounds_toArray, List.set_cons_zero, List.set_cons_succ]
      refine wpAnyH_take (i := 2) (v := ?_) rfl (by kernel_rfl) (by kernel_rfl) (by kernel_rfl) (fun _ _ _ h => h) (Or.inl ⟨by rfl, ?_⟩) (by assumption) ?_
      rotate_left
      · (intro w hSw; (try dsimp only at hSw); go_simp; try with_reducible rfl)
      try simp only [List.getElem_toArray, List.getElem_cons_zero, List.getElem_cons_succ, Act.put, List.setIfInBounds_toArray, List.set_cons_zero, List.set_cons_succ]
      refine wpAnyH_take (i := 3) (v := ?_) rfl (by kernel_rfl) (by kernel_rfl) (by kernel_rfl) (fun _ _ _ h => h) (Or.inl ⟨by rfl, ?_⟩) (by assumption) ?_
      rotate_left
      · (intro w hSw; (try dsimp only at hSw); go_simp; try with_reducible rfl)
      try simp only [List.getElem_toArray, List.getElem_cons_zero, List.getElem_cons_succ, Act.put, List.setIfInBounds_toArray, List.set_cons_zero, List.set_cons_succ]
      refine wpAnyH_ready (rs := [1, 4]) (by kernel_rfl) (by simp) ?_
      refine AllReadyH.cons (o := _) rfl (fun K hK => ?_) ?_
      · go_simp
        refine hK.out _ _ (by exact y4) (fun hHeld2 => ?_)
        clear hK K hHeld
        have hHeld := hHeld2
        clear hHeld2
        try simp only [List.getElem_toArray, List.getElem_cons_zero, List.getElem_cons_succ, Act.put, List.setIfInBounds_toArray, List.set_cons_zero, List.set_cons_succ]
        refine wpAnyH_ready (rs := [4]) (by kernel_rfl) (by simp) ?_
        refine AllReadyH.cons (o := _) rfl (fun K hK => ?_) AllReadyH.nil
        go_simp
        refine (rfour_any _ h3 _).mono ?_
        rintro e wd ⟨rfl, hb'⟩
        have hbU : Below U.heap.size U wd := (Below.refl U.heap.size U).drew.trans hb'
        have r9 := (hbU.cell (p := ⟨W1.heap.size, 9, none⟩) hU1).trans u9
        have r4 := (hbU.cell (p := ⟨w.heap.size + 1, 4, none⟩) hU2).trans y4
        have rl : W1.heap.size < wd.heap.size := Nat.lt_of_lt_of_le hU1 hbU.size
        have rl2 : w.heap.size + 1 < wd.heap.size := Nat.lt_of_lt_of_le hU2 hbU.size
        have HbU : Hid _ := hbU
        clear hbU hb'
        go_wp2_with fail
        refine hK.out _ _ (r4) (fun hHeld2 => ?_)
        clear hK K hHeld
        have hHeld := hHeld2
        clear hHeld2
        try simp only [List.getElem_toArray, List.getElem_cons_zero, List.getElem_cons_succ, Act.put, List.setIfInBounds_toArray, List.set_cons_zero, List.set_cons_succ]
        refine wpAnyH_take (i := 5) (v := ?_) rfl (by kernel_rfl) (by kernel_rfl) (by kernel_rfl) (fun _ _ _ h => h) (Or.inl ⟨by rfl, ?_⟩) (by assumption) ?_
        rotate_left
        · (intro w hSw; (try dsimp only at hSw); go_simp; try with_reducible rfl)
        try simp only [List.getElem_toArray, List.getElem_cons_zero, List.getElem_cons_succ, Act.put, List.setIfInBounds_toArray, List.set_cons_zero, List.set_cons_succ]
        refine wpAnyH_ready (rs := [6]) (by kernel_rfl) (by simp) ?_
        refine AllReadyH.cons (o := _) rfl (fun K hK => ?_) AllReadyH.nil
        go_simp
        refine hK.out _ _ (((below1 wd _).cell (p := ⟨w.heap.size + 1, 4, none⟩) rl2).trans r4) (fun hHeld2 => ?_)
        clear hK K hHeld
        have hHeld := hHeld2
        clear hHeld2
        try simp only [List.getElem_toArray, List.getElem_cons_zero, List.getElem_cons_succ, Act.put, List.setIfInBounds_toArray, List.set_cons_zero, List.set_cons_succ]
        refine wpAnyH_ready (rs := [7]) (by kernel_rfl) (by simp) ?_
        refine AllReadyH.cons (o := _) rfl (fun K hK => ?_) AllReadyH.nil
        have hOw' : World.ownsRow (wd.alloc (.cells #[.int .i64 0, .int .i64 3, .string (fourS router)] 45)) w.heap.size 45 3 (.slice (some ⟨w'.heap.size, 0, none⟩) 4 4) 4 (optCells [⟨0, 53, ⟨#[2]⟩⟩, ⟨0, 54, fourS server⟩, ⟨0, 51, fourS time⟩, ⟨0, 1, fourS mask⟩]) := World.ownsRow.alloc (own_below HOw.out HbU.out) _
        have v9 : (wd.alloc (.cells #[.int .i64 0, .int .i64 3, .string (fourS router)] 45)).cell? ⟨W1.heap.size, 9, none⟩ = some (.slice (some ⟨w'.heap.size, 0, none⟩) 4 4) := ((below1 wd _).cell (p := ⟨W1.heap.size, 9, none⟩) rl).trans r9
        have vf : (wd.alloc (.cells #[.int .i64 0, .int .i64 3, .string (fourS router)] 45)).frozen? ⟨W1.heap.size, 9, none⟩ = false := ((below1 wd _).frozen (p := ⟨W1.heap.size, 9, none⟩) rl).trans ((HbU.out.frozen (p := ⟨W1.heap.size, 9, none⟩) hU1).trans (FAu.out 9))
        refine step_append_lies _ (by rfl) (.tmp 85) (.tmp 90) 25 (by rfl) w.heap.size 45 i0 _ 3 32 Try.underlying25 hi hzz0 hzz1 hzz2 rfl (by omega) _ 4 _ (by rfl) hOw' ⟨wd.heap.size, 0, none⟩ 1 1 [.int .i64 0, .int .i64 3, .string (fourS router)] (by rfl) rfl (World.news_of_block (heap_alloc_new wd _)) (by simp [Value.oneCell']) (by omega) (by unfold maxLen; omega) (by omega) (by simp; omega) (wd.heap.size + 1) (by simp) ?_
        intro g cap2 we h1' h2' h3' h4'
        have hnw : some (Addr.block ⟨W1.heap.size, 9, none⟩) ≠ Value.ownBlock (.slice (some ⟨w'.heap.size, 0, none⟩) 4 4) := by simp [Value.ownBlock]; omega
        have s9 := (h2'.cell_far ⟨W1.heap.size, 9, none⟩ (by simp; omega) hnw).trans v9
        have sf := (h2'.frozen_far ⟨W1.heap.size, 9, none⟩ (by simp; omega) hnw).trans vf
        have s4 := (h2'.cell_far ⟨w.heap.size + 1, 4, none⟩ (by simp; omega) (by simp [Value.ownBlock]; omega)).trans (((below1 wd _).cell (p := ⟨w.heap.size + 1, 4, none⟩) rl2).trans r4)
        refine hK.out _ _ (by exact s4) (fun hHeld2 => ?_)
        clear hK K hHeld
        have hHeld := hHeld2
        clear hHeld2
        try simp only [List.getElem_toArray, List.getElem_cons_zero, List.getElem_cons_succ, Act.put, List.setIfInBounds_toArray, List.set_cons_zero, List.set_cons_succ]
        refine wpAnyH_take (i := 8) (v := ?_) rfl (by kernel_rfl) (by kernel_rfl) (by kernel_rfl) (fun _ _ _ h => h) (Or.inl ⟨by rfl, ?_⟩) (by assumption) ?_
        rotate_left
        · (intro w hSw; (try dsimp only at hSw); go_simp; try with_reducible rfl)
        try simp only [List.getElem_toArray, List.getElem_cons_zero, List.getElem_cons_succ, Act.put, List.setIfInBounds_toArray, List.set_cons_zero, List.set_cons_succ]
        refine wpAnyH_ready (rs := [9]) (by kernel_rfl) (by simp) ?_
        refine AllReadyH.cons (o := _) rfl (fun K hK => ?_) AllReadyH.nil
        go_simp
        refine hK.out _ _ ((World.cell?_setCell_other _ _ _ _ (fun e => hd1 (congrArg Addr.block e))).trans s4) (fun hHeld2 => ?_)
        clear hK K hHeld hHeld2
        try simp only [List.getElem_toArray, List.getElem_cons_zero, List.getElem_cons_succ, Act.put, List.setIfInBounds_toArray, List.set_cons_zero, List.set_cons_succ]
        refine wpAnyH_done (by kernel_rfl) ?_ _
        have bE := below1 wd (.cells #[.int .i64 0, .int .i64 3, .string (fourS router)] 45)
        have hg1 : g = w'.heap.size ∨ g = wd.heap.size + 1 := by
          rcases h3' with h | h
          · left; simpa [Value.ownBlock] using h.symm
          · right; exact h
        have hnz : some (w.heap.size + 1 + 1) ≠ Value.ownBlock (.slice (some ⟨w'.heap.size, 0, none⟩) 4 4) := by simp [Value.ownBlock]; omega
        have hnA : some W1.heap.size ≠ Value.ownBlock (.slice (some ⟨w'.heap.size, 0, none⟩) 4 4) := hnw
        have zl : w.heap.size + 1 + 1 < wd.heap.size := Nat.lt_of_lt_of_le hU3 HbU.out.size
        have aAe := AtB.setAt (k := 9) (u := .slice (some ⟨g, 0, none⟩) 5 cap2) (AtB.grown (AtB.below (AtB.below AAu.out HbU.out) bE) h2' hnA) (by simp)
        have aZe := AtB.far (g := W1.heap.size) (k := 9) (u := .slice (some ⟨g, 0, none⟩) 5 cap2) (AtB.grown (AtB.below (AtB.below AZu.out HbU.out) bE) h2' hnz) hd3
        have aAe' : AtB (we.setCell ⟨W1.heap.size, 9, none⟩ (.slice (some ⟨g, 0, none⟩) 5 cap2)) W1.heap.size #[.int .i64 2, .int .u32 xid, .int .i64 0, .int .i64 flags, .int .u32 0, .int .u32 ip, .int .u32 server, .int .u32 gi, .int .u64 ch, .slice (some ⟨g, 0, none⟩) 5 cap2] := aAe
        have fZe : ∀ o, (we.setCell ⟨W1.heap.size, 9, none⟩ (.slice (some ⟨g, 0, none⟩) 5 cap2)).frozen? ⟨w.heap.size + 1 + 1, o, none⟩ = false := fun o => by
          rw [World.frozen?_setCell]
          exact (h2'.frozen_far ⟨w.heap.size + 1 + 1, o, none⟩ (by simp; omega) hnz).trans ((bE.frozen (p := ⟨w.heap.size + 1 + 1, o, none⟩) zl).trans ((HbU.out.frozen (p := ⟨w.heap.size + 1 + 1, o, none⟩) hU3).trans (FZu.out o)))
        have bd := HBu.out.trans (HbU.out.mono HBu.out.size)
        have hBe : Below w.heap.size w (we.setCell ⟨W1.heap.size, 9, none⟩ (.slice (some ⟨g, 0, none⟩) 5 cap2)) := ((bd.alloc bd.size _).grown h2' (by have := bd.size; simp; omega) (fun j hj => by simp [Value.ownBlock] at hj; omega)).setCell (by show _ ≤ W1.heap.size; omega) _
        have hOe : OS (we.setCell ⟨W1.heap.size, 9, none⟩ (.slice (some ⟨g, 0, none⟩) 5 cap2)) (some ⟨g, 0, none⟩) 5 (leaseOs 2 server time mask router) := by
          refine OS.far ?_ (by omega)
          refine os_own (cap := cap2) (base := w.heap.size) ?_ (by omega)
          have e : leaseOs 2 server time mask router = [⟨0, 53, ⟨#[2]⟩⟩, ⟨0, 54, fourS server⟩, ⟨0, 51, fourS time⟩, ⟨0, 1, fourS mask⟩] ++ [⟨0, 3, fourS router⟩] := by unfold leaseOs; rw [if_neg hr0]; rfl
          rw [e, optCells_app]
          exact h1'
        have hgg : w.heap.size ≤ g := (World.ownsRow.lt h1' g rfl).1
        have hgz : w.heap.size + 1 + 1 ≠ g := by omega
        generalize (we.setCell ⟨W1.heap.size, 9, none⟩ (.slice (some ⟨g, 0, none⟩) 5 cap2)) = WF at aAe' aZe fZe hBe hOe ⊢
        clear aAe h1' h2' h3' h4' s9 sf s4 v9 vf hOw' hnw hnz hnA bd bE HbU r9 r4
        clear u0 u1 u2 u3 u4 u5 u6 u7 u8 u9 y0 y1 y2 y3 y4 y5
        obtain ⟨u0, u1, u2, u3, u4, u5, u6, u7, u8, u9⟩ := AtB.ten aAe'
        obtain ⟨z0, z1, z2, z3, z4, z5, z6, z7, z8, z9⟩ := AtB.ten aZe
        have HOe : Hid _ := hOe
        have HBe : Hid _ := hBe
        have fz := fZe
        clear hOe hBe aAe' aZe fZe
        go_wp2
        refine bodyPost_ret (v := .tuple #[.agg #[.int .i64 2, .int .u32 xid, .int .i64 0, .int .i64 flags, .int .u32 0, .int .u32 ip, .int .u32 server, .int .u32 gi, .int .u64 ch, .slice (some ⟨g, 0, none⟩) 5 cap2], .bool true]) ?_ rfl ⟨g, 5, cap2, rfl, hgg, ?_, ?_⟩
        · simp [results, Try.results14, go_sem, *]
        · repeat refine OS.far ?_ (by assumption)
          exact HOe.out
        · repeat refine Below.setCell ?_ (by simp; omega) _
          exact HBe.out
      refine AllReadyH.cons (o := _) rfl (fun K hK => ?_) AllReadyH.nil
      go_simp
      refine (rfour_any _ h3 _).mono ?_
      rintro e wd ⟨rfl, hb'⟩
      have hbU : Below U.heap.size U wd := (Below.refl U.heap.size U).drew.trans hb'
      have r9 := (hbU.cell (p := ⟨W1.heap.size, 9, none⟩) hU1).trans u9
      have r4 := (hbU.cell (p := ⟨w.heap.size + 1, 4, none⟩) hU2).trans y4
      have rl : W1.heap.size < wd.heap.size := Nat.lt_of_lt_of_le hU1 hbU.size
      have rl2 : w.heap.size + 1 < wd.heap.size := Nat.lt_of_lt_of_le hU2 hbU.size
      have HbU : Hid _ := hbU
      clear hbU hb'
      go_wp2_with fail
      refine hK.out _ _ (r4) (fun hHeld2 => ?_)
      clear hK K hHeld
      have hHeld := hHeld2
      clear hHeld2
      try simp only [List.getElem_toArray, List.getElem_cons_zero, List.getElem_cons_succ, Act.put, List.setIfInBounds_toArray, List.set_cons_zero, List.set_cons_succ]
      refine wpAnyH_take (i := 5) (v := ?_) rfl (by kernel_rfl) (by kernel_rfl) (by kernel_rfl) (fun _ _ _ h => h) (Or.inl ⟨by rfl, ?_⟩) (by assumption) ?_
      rotate_left
      · (intro w hSw; (try dsimp only at hSw); go_simp; try with_reducible rfl)
      try simp only [List.getElem_toArray, List.getElem_cons_zero, List.getElem_cons_succ, Act.put, List.setIfInBounds_toArray, List.set_cons_zero, List.set_cons_succ]
      refine wpAnyH_ready (rs := [1, 6]) (by kernel_rfl) (by simp) ?_
      refine AllReadyH.cons (o := _) rfl (fun K hK => ?_) ?_
      · go_simp
        refine hK.out _ _ (by exact r4) (fun hHeld2 => ?_)
        clear hK K hHeld
        have hHeld := hHeld2
        clear hHeld2
        try simp only [List.getElem_toArray, List.getElem_cons_zero, List.getElem_cons_succ, Act.put, List.setIfInBounds_toArray, List.set_cons_zero, List.set_cons_succ]
        refine wpAnyH_ready (rs := [6]) (by kernel_rfl) (by simp) ?_
        refine AllReadyH.cons (o := _) rfl (fun K hK => ?_) AllReadyH.nil
        go_simp
        refine hK.out _ _ (((below1 wd _).cell (p := ⟨w.heap.size + 1, 4, none⟩) rl2).trans r4) (fun hHeld2 => ?_)
        clear hK K hHeld
        have hHeld := hHeld2
        clear hHeld2
        try simp only [List.getElem_toArray, List.getElem_cons_zero, List.getElem_cons_succ, Act.put, List.setIfInBounds_toArray, List.set_cons_zero, List.set_cons_succ]
        refine wpAnyH_ready (rs := [7]) (by kernel_rfl) (by simp) ?_
        refine AllReadyH.cons (o := _) rfl (fun K hK => ?_) AllReadyH.nil
        have hOw' : World.ownsRow (wd.alloc (.cells #[.int .i64 0, .int .i64 3, .string (fourS router)] 45)) w.heap.size 45 3 (.slice (some ⟨w'.heap.size, 0, none⟩) 4 4) 4 (optCells [⟨0, 53, ⟨#[2]⟩⟩, ⟨0, 54, fourS server⟩, ⟨0, 51, fourS time⟩, ⟨0, 1, fourS mask⟩]) := World.ownsRow.alloc (own_below HOw.out HbU.out) _
        have v9 : (wd.alloc (.cells #[.int .i64 0, .int .i64 3, .string (fourS router)] 45)).cell? ⟨W1.heap.size, 9, none⟩ = some (.slice (some ⟨w'.heap.size, 0, none⟩) 4 4) := ((below1 wd _).cell (p := ⟨W1.heap.size, 9, none⟩) rl).trans r9
        have vf : (wd.alloc (.cells #[.int .i64 0, .int .i64 3, .string (fourS router)] 45)).frozen? ⟨W1.heap.size, 9, none⟩ = false := ((below1 wd _).frozen (p := ⟨W1.heap.size, 9, none⟩) rl).trans ((HbU.out.frozen (p := ⟨W1.heap.size, 9, none⟩) hU1).trans (FAu.out 9))
        refine step_append_lies _ (by rfl) (.tmp 85) (.tmp 90) 25 (by rfl) w.heap.size 45 i0 _ 3 32 Try.underlying25 hi hzz0 hzz1 hzz2 rfl (by omega) _ 4 _ (by rfl) hOw' ⟨wd.heap.size, 0, none⟩ 1 1 [.int .i64 0, .int .i64 3, .string (fourS router)] (by rfl) rfl (World.news_of_block (heap_alloc_new wd _)) (by simp [Value.oneCell']) (by omega) (by unfold maxLen; omega) (by omega) (by simp; omega) (wd.heap.size + 1) (by simp) ?_
        intro g cap2 we h1' h2' h3' h4'
        have hnw : some (Addr.block ⟨W1.heap.size, 9, none⟩) ≠ Value.ownBlock (.slice (some ⟨w'.heap.size, 0, none⟩) 4 4) := by simp [Value.ownBlock]; omega
        have s9 := (h2'.cell_far ⟨W1.heap.size, 9, none⟩ (by simp; omega) hnw).trans v9
        have sf := (h2'.frozen_far ⟨W1.heap.size, 9, none⟩ (by simp; omega) hnw).trans vf
        have s4 := (h2'.cell_far ⟨w.heap.size + 1, 4, none⟩ (by simp; omega) (by simp [Value.ownBlock]; omega)).trans (((below1 wd _).cell (p := ⟨w.heap.size + 1, 4, none⟩) rl2).trans r4)
        refine hK.out _ _ (by exact s4) (fun hHeld2 => ?_)
        clear hK K hHeld
        have hHeld := hHeld2
        clear hHeld2
        try simp only [List.getElem_toArray, List.getElem_cons_zero, List.getElem_cons_succ, Act.put, List.setIfInBounds_toArray, List.set_cons_zero, List.set_cons_succ]
        refine wpAnyH_take (i := 8) (v := ?_) rfl (by kernel_rfl) (by kernel_rfl) (by kernel_rfl) (fun _ _ _ h => h) (Or.inl ⟨by rfl, ?_⟩) (by assumption) ?_
        rotate_left
        · (intro w hSw; (try dsimp only at hSw); go_simp; try with_reducible rfl)
        try simp only [List.getElem_toArray, List.getElem_cons_zero, List.getElem_cons_succ, Act.put, List.setIfInBounds_toArray, List.set_cons_zero, List.set_cons_succ]
        refine wpAnyH_ready (rs := [9]) (by kernel_rfl) (by simp) ?_
        refine AllReadyH.cons (o := _) rfl (fun K hK => ?_) AllReadyH.nil
        go_simp
        refine hK.out _ _ ((World.cell?_setCell_other _ _ _ _ (fun e => hd1 (congrArg Addr.block e))).trans s4) (fun hHeld2 => ?_)
        clear hK K hHeld hHeld2
        try simp only [List.getElem_toArray, List.getElem_cons_zero, List.getElem_cons_succ, Act.put, List.setIfInBounds_toArray, List.set_cons_zero, List.set_cons_succ]
        refine wpAnyH_done (by kernel_rfl) ?_ _
        have bE := below1 wd (.cells #[.int .i64 0, .int .i64 3, .string (fourS router)] 45)
        have hg1 : g = w'.heap.size ∨ g = wd.heap.size + 1 := by
          rcases h3' with h | h
          · left; simpa [Value.ownBlock] using h.symm
          · right; exact h
        have hnz : some (w.heap.size + 1 + 1) ≠ Value.ownBlock (.slice (some ⟨w'.heap.size, 0, none⟩) 4 4) := by simp [Value.ownBlock]; omega
        have hnA : some W1.heap.size ≠ Value.ownBlock (.slice (some ⟨w'.heap.size, 0, none⟩) 4 4) := hnw
        have zl : w.heap.size + 1 + 1 < wd.heap.size := Nat.lt_of_lt_of_le hU3 HbU.out.size
        have aAe := AtB.setAt (k := 9) (u := .slice (some ⟨g, 0, none⟩) 5 cap2) (AtB.grown (AtB.below (AtB.below AAu.out HbU.out) bE) h2' hnA) (by simp)
        have aZe := AtB.far (g := W1.heap.size) (k := 9) (u := .slice (some ⟨g, 0, none⟩) 5 cap2) (AtB.grown (AtB.below (AtB.below AZu.out HbU.out) bE) h2' hnz) hd3
        have aAe' : AtB (we.setCell ⟨W1.heap.size, 9, none⟩ (.slice (some ⟨g, 0, none⟩) 5 cap2)) W1.heap.size #[.int .i64 2, .int .u32 xid, .int .i64 0, .int .i64 flags, .int .u32 0, .int .u32 ip, .int .u32 server, .int .u32 gi, .int .u64 ch, .slice (some ⟨g, 0, none⟩) 5 cap2] := aAe
        have fZe : ∀ o, (we.setCell ⟨W1.heap.size, 9, none⟩ (.slice (some ⟨g, 0, none⟩) 5 cap2)).frozen? ⟨w.heap.size + 1 + 1, o, none⟩ = false := fun o => by
          rw [World.frozen?_setCell]
          exact (h2'.frozen_far ⟨w.heap.size + 1 + 1, o, none⟩ (by simp; omega) hnz).trans ((bE.frozen (p := ⟨w.heap.size + 1 + 1, o, none⟩) zl).trans ((HbU.out.frozen (p := ⟨w.heap.size + 1 + 1, o, none⟩) hU3).trans (FZu.out o)))
        have bd := HBu.out.trans (HbU.out.mono HBu.out.size)
        have hBe : Below w.heap.size w (we.setCell ⟨W1.heap.size, 9, none⟩ (.slice (some ⟨g, 0, none⟩) 5 cap2)) := ((bd.alloc bd.size _).grown h2' (by have := bd.size; simp; omega) (fun j hj => by simp [Value.ownBlock] at hj; omega)).setCell (by show _ ≤ W1.heap.size; omega) _
        have hOe : OS (we.setCell ⟨W1.heap.size, 9, none⟩ (.slice (some ⟨g, 0, none⟩) 5 cap2)) (some ⟨g, 0, none⟩) 5 (leaseOs 2 server time mask router) := by
          refine OS.far ?_ (by omega)
          refine os_own (cap := cap2) (base := w.heap.size) ?_ (by omega)
          have e : leaseOs 2 server time mask router = [⟨0, 53, ⟨#[2]⟩⟩, ⟨0, 54, fourS server⟩, ⟨0, 51, fourS time⟩, ⟨0, 1, fourS mask⟩] ++ [⟨0, 3, fourS router⟩] := by unfold leaseOs; rw [if_neg hr0]; rfl
          rw [e, optCells_app]
          exact h1'
        have hgg : w.heap.size ≤ g := (World.ownsRow.lt h1' g rfl).1
        have hgz : w.heap.size + 1 + 1 ≠ g := by omega
        generalize (we.setCell ⟨W1.heap.size, 9, none⟩ (.slice (some ⟨g, 0, none⟩) 5 cap2)) = WF at aAe' aZe fZe hBe hOe ⊢
        clear aAe h1' h2' h3' h4' s9 sf s4 v9 vf hOw' hnw hnz hnA bd bE HbU r9 r4
        clear u0 u1 u2 u3 u4 u5 u6 u7 u8 u9 y0 y1 y2 y3 y4 y5
        obtain ⟨u0, u1, u2, u3, u4, u5, u6, u7, u8, u9⟩ := AtB.ten aAe'
        obtain ⟨z0, z1, z2, z3, z4, z5, z6, z7, z8, z9⟩ := AtB.ten aZe
        have HOe : Hid _ := hOe
        have HBe : Hid _ := hBe
        have fz := fZe
        clear hOe hBe aAe' aZe fZe
        go_wp2
        refine bodyPost_ret (v := .tuple #[.agg #[.int .i64 2, .int .u32 xid, .int .i64 0, .int .i64 flags, .int .u32 0, .int .u32 ip, .int .u32 server, .int .u32 gi, .int .u64 ch, .slice (some ⟨g, 0, none⟩) 5 cap2], .bool true]) ?_ rfl ⟨g, 5, cap2, rfl, hgg, ?_, ?_⟩
        · simp [results, Try.results14, go_sem, *]
        · repeat refine OS.far ?_ (by assumption)
          exact HOe.out
        · repeat refine Below.setCell ?_ (by simp; omega) _
          exact HBe.out
      refine AllReadyH.cons (o := _) rfl (fun K hK => ?_) AllReadyH.nil
      go_simp
      refine hK.out _ _ (((below1 wd _).cell (p := ⟨w.heap.size + 1, 4, none⟩) rl2).trans r4) (fun hHeld2 => ?_)
      clear hK K hHeld
      have hHeld := hHeld2
      clear hHeld2
      try simp only [List.getElem_toArray, List.getElem_cons_zero, List.getElem_cons_succ, Act.put, List.setIfInBounds_toArray, List.set_cons_zero, List.set_cons_succ]
      refine wpAnyH_ready (rs := [1]) (by kernel_rfl) (by simp) ?_
      refine AllReadyH.cons (o := _) rfl (fun K hK => ?_) AllReadyH.nil
      go_simp
      refine hK.out _ _ (((below1 wd _).cell (p := ⟨w.heap.size + 1, 4, none⟩) rl2).trans r4) (fun hHeld2 => ?_)
      clear hK K hHeld
      have hHeld := hHeld2
      clear hHeld2
      try simp only [List.getElem_toArray, List.getElem_cons_zero, List.getElem_cons_succ, Act.put, List.setIfInBounds_toArray, List.set_cons_zero, List.set_cons_succ]
      refine wpAnyH_ready (rs := [7]) (by kernel_rfl) (by simp) ?_
      refine AllReadyH.cons (o := _) rfl (fun K hK => ?_) AllReadyH.nil
      have hOw' : World.ownsRow (wd.alloc (.cells #[.int .i64 0, .int .i64 3, .string (fourS router)] 45)) w.heap.size 45 3 (.slice (some ⟨w'.heap.size, 0, none⟩) 4 4) 4 (optCells [⟨0, 53, ⟨#[2]⟩⟩, ⟨0, 54, fourS server⟩, ⟨0, 51, fourS time⟩, ⟨0, 1, fourS mask⟩]) := World.ownsRow.alloc (own_below HOw.out HbU.out) _
      have v9 : (wd.alloc (.cells #[.int .i64 0, .int .i64 3, .string (fourS router)] 45)).cell? ⟨W1.heap.size, 9, none⟩ = some (.slice (some ⟨w'.heap.size, 0, none⟩) 4 4) := ((below1 wd _).cell (p := ⟨W1.heap.size, 9, none⟩) rl).trans r9
      have vf : (wd.alloc (.cells #[.int .i64 0, .int .i64 3, .string (fourS router)] 45)).frozen? ⟨W1.heap.size, 9, none⟩ = false := ((below1 wd _).frozen (p := ⟨W1.heap.size, 9, none⟩) rl).trans ((HbU.out.frozen (p := ⟨W1.heap.size, 9, none⟩) hU1).trans (FAu.out 9))
      refine step_append_lies _ (by rfl) (.tmp 85) (.tmp 90) 25 (by rfl) w.heap.size 45 i0 _ 3 32 Try.underlying25 hi hzz0 hzz1 hzz2 rfl (by omega) _ 4 _ (by rfl) hOw' ⟨wd.heap.size, 0, none⟩ 1 1 [.int .i64 0, .int .i64 3, .string (fourS router)] (by rfl) rfl (World.news_of_block (heap_alloc_new wd _)) (by simp [Value.oneCell']) (by omega) (by unfold maxLen; omega) (by omega) (by simp; omega) (wd.heap.size + 1) (by simp) ?_
      intro g cap2 we h1' h2' h3' h4'
      have hnw : some (Addr.block ⟨W1.heap.size, 9, none⟩) ≠ Value.ownBlock (.slice (some ⟨w'.heap.size, 0, none⟩) 4 4) := by simp [Value.ownBlock]; omega
      have s9 := (h2'.cell_far ⟨W1.heap.size, 9, none⟩ (by simp; omega) hnw).trans v9
      have sf := (h2'.frozen_far ⟨W1.heap.size, 9, none⟩ (by simp; omega) hnw).trans vf
      have s4 := (h2'.cell_far ⟨w.heap.size + 1, 4, none⟩ (by simp; omega) (by simp [Value.ownBlock]; omega)).trans (((below1 wd _).cell (p := ⟨w.heap.size + 1, 4, none⟩) rl2).trans r4)
      refine hK.out _ _ (by exact s4) (fun hHeld2 => ?_)
      clear hK K hHeld
      have hHeld := hHeld2
      clear hHeld2
      try simp only [List.getElem_toArray, List.getElem_cons_zero, List.getElem_cons_succ, Act.put, List.setIfInBounds_toArray, List.set_cons_zero, List.set_cons_succ]
      refine wpAnyH_take (i := 8) (v := ?_) rfl (by kernel_rfl) (by kernel_rfl) (by kernel_rfl) (fun _ _ _ h => h) (Or.inl ⟨by rfl, ?_⟩) (by assumption) ?_
      rotate_left
      · (intro w hSw; (try dsimp only at hSw); go_simp; try with_reducible rfl)
      try simp only [List.getElem_toArray, List.getElem_cons_zero, List.getElem_cons_succ, Act.put, List.setIfInBounds_toArray, List.set_cons_zero, List.set_cons_succ]
      refine wpAnyH_ready (rs := [9]) (by kernel_rfl) (by simp) ?_
      refine AllReadyH.cons (o := _) rfl (fun K hK => ?_) AllReadyH.nil
      go_simp
      refine hK.out _ _ ((World.cell?_setCell_other _ _ _ _ (fun e => hd1 (congrArg Addr.block e))).trans s4) (fun hHeld2 => ?_)
      clear hK K hHeld hHeld2
      try simp only [List.getElem_toArray, List.getElem_cons_zero, List.getElem_cons_succ, Act.put, List.setIfInBounds_toArray, List.set_cons_zero, List.set_cons_succ]
      refine wpAnyH_done (by kernel_rfl) ?_ _
      have bE := below1 wd (.cells #[.int .i64 0, .int .i64 3, .string (fourS router)] 45)
      have hg1 : g = w'.heap.size ∨ g = wd.heap.size + 1 := by
        rcases h3' with h | h
        · left; simpa [Value.ownBlock] using h.symm
        · right; exact h
      have hnz : some (w.heap.size + 1 + 1) ≠ Value.ownBlock (.slice (some ⟨w'.heap.size, 0, none⟩) 4 4) := by simp [Value.ownBlock]; omega
      have hnA : some W1.heap.size ≠ Value.ownBlock (.slice (some ⟨w'.heap.size, 0, none⟩) 4 4) := hnw
      have zl : w.heap.size + 1 + 1 < wd.heap.size := Nat.lt_of_lt_of_le hU3 HbU.out.size
      have aAe := AtB.setAt (k := 9) (u := .slice (some ⟨g, 0, none⟩) 5 cap2) (AtB.grown (AtB.below (AtB.below AAu.out HbU.out) bE) h2' hnA) (by simp)
      have aZe := AtB.far (g := W1.heap.size) (k := 9) (u := .slice (some ⟨g, 0, none⟩) 5 cap2) (AtB.grown (AtB.below (AtB.below AZu.out HbU.out) bE) h2' hnz) hd3
      have aAe' : AtB (we.setCell ⟨W1.heap.size, 9, none⟩ (.slice (some ⟨g, 0, none⟩) 5 cap2)) W1.heap.size #[.int .i64 2, .int .u32 xid, .int .i64 0, .int .i64 flags, .int .u32 0, .int .u32 ip, .int .u32 server, .int .u32 gi, .int .u64 ch, .slice (some ⟨g, 0, none⟩) 5 cap2] := aAe
      have fZe : ∀ o, (we.setCell ⟨W1.heap.size, 9, none⟩ (.slice (some ⟨g, 0, none⟩) 5 cap2)).frozen? ⟨w.heap.size + 1 + 1, o, none⟩ = false := fun o => by
        rw [World.frozen?_setCell]
        exact (h2'.frozen_far ⟨w.heap.size + 1 + 1, o, none⟩ (by simp; omega) hnz).trans ((bE.frozen (p := ⟨w.heap.size + 1 + 1, o, none⟩) zl).trans ((HbU.out.frozen (p := ⟨w.heap.size + 1 + 1, o, none⟩) hU3).trans (FZu.out o)))
      have bd := HBu.out.trans (HbU.out.mono HBu.out.size)
      have hBe : Below w.heap.size w (we.setCell ⟨W1.heap.size, 9, none⟩ (.slice (some ⟨g, 0, none⟩) 5 cap2)) := ((bd.alloc bd.size _).grown h2' (by have := bd.size; simp; omega) (fun j hj => by simp [Value.ownBlock] at hj; omega)).setCell (by show _ ≤ W1.heap.size; omega) _
      have hOe : OS (we.setCell ⟨W1.heap.size, 9, none⟩ (.slice (some ⟨g, 0, none⟩) 5 cap2)) (some ⟨g, 0, none⟩) 5 (leaseOs 2 server time mask router) := by
        refine OS.far ?_ (by omega)
        refine os_own (cap := cap2) (base := w.heap.size) ?_ (by omega)
        have e : leaseOs 2 server time mask router = [⟨0, 53, ⟨#[2]⟩⟩, ⟨0, 54, fourS server⟩, ⟨0, 51, fourS time⟩, ⟨0, 1, fourS mask⟩] ++ [⟨0, 3, fourS router⟩] := by unfold leaseOs; rw [if_neg hr0]; rfl
        rw [e, optCells_app]
        exact h1'
      have hgg : w.heap.size ≤ g := (World.ownsRow.lt h1' g rfl).1
      have hgz : w.heap.size + 1 + 1 ≠ g := by omega
      generalize (we.setCell ⟨W1.heap.size, 9, none⟩ (.slice (some ⟨g, 0, none⟩) 5 cap2)) = WF at aAe' aZe fZe hBe hOe ⊢
      clear aAe h1' h2' h3' h4' s9 sf s4 v9 vf hOw' hnw hnz hnA bd bE HbU r9 r4
      clear u0 u1 u2 u3 u4 u5 u6 u7 u8 u9 y0 y1 y2 y3 y4 y5
      obtain ⟨u0, u1, u2, u3, u4, u5, u6, u7, u8, u9⟩ := AtB.ten aAe'
      obtain ⟨z0, z1, z2, z3, z4, z5, z6, z7, z8, z9⟩ := AtB.ten aZe
      have HOe : Hid _ := hOe
      have HBe : Hid _ := hBe
      have fz := fZe
      clear hOe hBe aAe' aZe fZe
      go_wp2
      refine bodyPost_ret (v := .tuple #[.agg #[.int .i64 2, .int .u32 xid, .int .i64 0, .int .i64 flags, .int .u32 0, .int .u32 ip, .int .u32 server, .int .u32 gi, .int .u64 ch, .slice (some ⟨g, 0, none⟩) 5 cap2], .bool true]) ?_ rfl ⟨g, 5, cap2, rfl, hgg, ?_, ?_⟩
      · simp [results, Try.results14, go_sem, *]
      · repeat refine OS.far ?_ (by assumption)
        exact HOe.out
      · repeat refine Below.setCell ?_ (by simp; omega) _
        exact HBe.out
  · have hs3 : s = ⟨#[3]⟩ := by
      unfold kindS at hk0
      rw [if_neg hs1] at hk0
      by_cases h : s = ⟨#[3]⟩
      · exact h
      · rw [if_neg h] at hk0; simp at hk0
    subst hs3
    rw [kindS_three] at ho ⊢
    simp only [beq_self_eq_true, Bool.true_and, Bool.or_eq_false_iff] at ho
    obtain ⟨ho1, ho2⟩ := ho
    have HO1 : Hid _ := ho1
    have HO2 : Hid _ := ho2
    clear ho1 ho2 hk0 hs1
    have t1 : ((⟨#[3]⟩ : ByteArray).toList == (⟨#[1]⟩ : ByteArray).toList) = false := str_ne (by decide)
    go_enter Try.func14, Try.ntmps14
    go_wp2_with fail
    refine (rfind_any _ _ _ _ _ _ _ _ _ 53 a n cap os _ (H.out.below HB3.out)).mono ?_
    rw [HF.out]
    rintro e W1 ⟨rfl, hw1⟩
    have hb1 := below1 (((w.alloc (.cells #[.int .i64 1, .int .u32 xid, .int .i64 secs, .int .i64 flags, .int .u32 ci, .int .u32 yi, .int .u32 si, .int .u32 gi, .int .u64 ch, .slice a n cap] 27)).alloc (.cells #[.int .u64 ch, .int .u32 ip, .int .u32 server, .int .u32 mask, .int .u32 router, .int .u32 time] 38)).alloc (.cells #[.int .i64 0, .int .u32 0, .int .i64 0, .int .i64 0, .int .u32 0, .int .u32 0, .int .u32 0, .int .u32 0, .int .u64 0, .slice none 0 0] 27)) (.cells #[.int .i64 1, .int .u32 xid, .int .i64 secs, .int .i64 flags, .int .u32 ci, .int .u32 yi, .int .u32 si, .int .u32 gi, .int .u64 ch, .slice a n cap] 27)
    rw [← hw1] at hb1
    clear hw1
    have HBW1 : Hid (Below w.heap.size w W1) := HB3.out.trans (hb1.mono HB3.out.size)
    have aMW1 := AtB.below AM0.out hb1
    have aLW1 := AtB.below AL0.out hb1
    have aZW1 := AtB.below AZ0.out hb1
    have fZW1 : ∀ o, W1.frozen? ⟨w.heap.size + 1 + 1, o, none⟩ = false := fun o => (hb1.frozen (p := ⟨w.heap.size + 1 + 1, o, none⟩) AZ0.out.1).trans (FZ0.out o)
    obtain ⟨x0, x1, x2, x3, x4, x5, x6, x7, x8, x9⟩ := AtB.ten aMW1
    obtain ⟨y0, y1, y2, y3, y4, y5⟩ := AtB.six aLW1
    have AMW1 : Hid _ := aMW1
    have ALW1 : Hid _ := aLW1
    have AZW1 : Hid _ := aZW1
    have FZW1 : Hid _ := fZW1
    have hn0W1 : w.heap.size < W1.heap.size := aMW1.1
    have hn1W1 : w.heap.size + 1 < W1.heap.size := aLW1.1
    have hn2W1 : w.heap.size + 1 + 1 < W1.heap.size := aZW1.1
    clear hb1 aMW1 aLW1 aZW1 fZW1
    go_wp2_with fail
    refine (says_any _ _ _ _ _ _ _ _ _ 50 _ h0 a n cap os _ (H.out.below HBW1.out)).mono ?_
    rw [HO1.out]
    rintro e V1 ⟨rfl, hb1⟩
    clear x0 x1 x2 x3 x4 x5 x6 x7 x8 x9 y0 y1 y2 y3 y4 y5
    have HBV1 : Hid (Below w.heap.size w V1) := HBW1.out.trans (hb1.mono HBW1.out.size)
    have aMV1 := AtB.below AMW1.out hb1
    have aLV1 := AtB.below ALW1.out hb1
    have aZV1 := AtB.below AZW1.out hb1
    have fZV1 : ∀ o, V1.frozen? ⟨w.heap.size + 1 + 1, o, none⟩ = false := fun o => (hb1.frozen (p := ⟨w.heap.size + 1 + 1, o, none⟩) AZW1.out.1).trans (FZW1.out o)
    obtain ⟨x0, x1, x2, x3, x4, x5, x6, x7, x8, x9⟩ := AtB.ten aMV1
    obtain ⟨y0, y1, y2, y3, y4, y5⟩ := AtB.six aLV1
    have AMV1 : Hid _ := aMV1
    have ALV1 : Hid _ := aLV1
    have AZV1 : Hid _ := aZV1
    have FZV1 : Hid _ := fZV1
    have hn0V1 : w.heap.size < V1.heap.size := aMV1.1
    have hn1V1 : w.heap.size + 1 < V1.heap.size := aLV1.1
    have hn2V1 : w.heap.size + 1 + 1 < V1.heap.size := aZV1.1
    clear hb1 aMV1 aLV1 aZV1 fZV1
    go_wp2_with fail
    refine (says_any _ _ _ _ _ _ _ _ _ 54 _ h1 a n cap os _ (H.out.below HBV1.out)).mono ?_
    rw [HO2.out]
    rintro e V2 ⟨rfl, hb1⟩
    clear x0 x1 x2 x3 x4 x5 x6 x7 x8 x9 y0 y1 y2 y3 y4 y5
    have HBV2 : Hid (Below w.heap.size w V2) := HBV1.out.trans (hb1.mono HBV1.out.size)
    have aMV2 := AtB.below AMV1.out hb1
    have aLV2 := AtB.below ALV1.out hb1
    have aZV2 := AtB.below AZV1.out hb1
    have fZV2 : ∀ o, V2.frozen? ⟨w.heap.size + 1 + 1, o, none⟩ = false := fun o => (hb1.frozen (p := ⟨w.heap.size + 1 + 1, o, none⟩) AZV1.out.1).trans (FZV1.out o)
    obtain ⟨x0, x1, x2, x3, x4, x5, x6, x7, x8, x9⟩ := AtB.ten aMV2
    obtain ⟨y0, y1, y2, y3, y4, y5⟩ := AtB.six aLV2
    have AMV2 : Hid _ := aMV2
    have ALV2 : Hid _ := aLV2
    have AZV2 : Hid _ := aZV2
    have FZV2 : Hid _ := fZV2
    have hn0V2 : w.heap.size < V2.heap.size := aMV2.1
    have hn1V2 : w.heap.size + 1 < V2.heap.size := aLV2.1
    have hn2V2 : w.heap.size + 1 + 1 < V2.heap.size := aZV2.1
    clear hb1 aMV2 aLV2 aZV2 fZV2
    go_wp2_with fail
    have aA := atB_new V2 #[.int .i64 2, .int .u32 xid, .int .i64 0, .int .i64 flags, .int .u32 0, .int .u32 ip, .int .u32 server, .int .u32 gi, .int .u64 ch, .slice none 0 0] 27 V2.heap.size rfl
    have bP := below1 V2 (.cells #[.int .i64 2, .int .u32 xid, .int .i64 0, .int .i64 flags, .int .u32 0, .int .u32 ip, .int .u32 server, .int .u32 gi, .int .u64 ch, .slice none 0 0] 27)
    have aL := AtB.below ALV2.out bP
    have aZ := AtB.below AZV2.out bP
    have fZ : ∀ o, (V2.alloc (.cells #[.int .i64 2, .int .u32 xid, .int .i64 0, .int .i64 flags, .int .u32 0, .int .u32 ip, .int .u32 server, .int .u32 gi, .int .u64 ch, .slice none 0 0] 27)).frozen? ⟨w.heap.size + 1 + 1, o, none⟩ = false := fun o => (bP.frozen (p := ⟨w.heap.size + 1 + 1, o, none⟩) hn2V2).trans (FZV2.out o)
    have fA : ∀ o, (V2.alloc (.cells #[.int .i64 2, .int .u32 xid, .int .i64 0, .int .i64 flags, .int .u32 0, .int .u32 ip, .int .u32 server, .int .u32 gi, .int .u64 ch, .slice none 0 0] 27)).frozen? ⟨V2.heap.size, o, none⟩ = false := fun o => by simp [go_sem]
    have hBV : Below w.heap.size w (V2.alloc (.cells #[.int .i64 2, .int .u32 xid, .int .i64 0, .int .i64 flags, .int .u32 0, .int .u32 ip, .int .u32 server, .int .u32 gi, .int .u64 ch, .slice none 0 0] 27)) := HBV2.out.alloc HBV2.out.size _
    generalize V2.alloc (.cells #[.int .i64 2, .int .u32 xid, .int .i64 0, .int .i64 flags, .int .u32 0, .int .u32 ip, .int .u32 server, .int .u32 gi, .int .u64 ch, .slice none 0 0] 27) = VA at aA bP aL aZ fZ fA hBV ⊢
    have hpa : V2.heap.size < VA.heap.size := aA.1
    have hpl : w.heap.size + 1 < VA.heap.size := aL.1
    have hpz : w.heap.size + 1 + 1 < VA.heap.size := aZ.1
    clear x0 x1 x2 x3 x4 x5 x6 x7 x8 x9 y0 y1 y2 y3 y4 y5 bP AM0 AL0 AZ0 FZ0 AMV2 ALV2 AZV2 FZV2 HBV2 HB3
    obtain ⟨y0, y1, y2, y3, y4, y5⟩ := AtB.six aL
    have hV0 : Below VA.heap.size VA VA.drew := (Below.refl _ _).drew
    have KC : Hid (∀ W, Below VA.heap.size VA W → W.cell? ⟨w.heap.size + 1, 2, none⟩ = some (.int .u32 server) ∧ W.cell? ⟨w.heap.size + 1, 3, none⟩ = some (.int .u32 mask) ∧ W.cell? ⟨w.heap.size + 1, 5, none⟩ = some (.int .u32 time)) := fun W h => ⟨(h.cell (p := ⟨w.heap.size + 1, 2, none⟩) hpl).trans y2, (h.cell (p := ⟨w.heap.size + 1, 3, none⟩) hpl).trans y3, (h.cell (p := ⟨w.heap.size + 1, 5, none⟩) hpl).trans y5⟩
    have AA : Hid _ := aA
    have AL : Hid _ := aL
    have AZ : Hid _ := aZ
    have FZ : Hid _ := fZ
    have FA : Hid _ := fA
    have HBV : Hid _ := hBV
    have hd1 : ¬ V2.heap.size = w.heap.size + 1 := by omega
    have hd2 : ¬ w.heap.size + 1 = V2.heap.size := by omega
    clear aA aL aZ fZ fA hBV y0 y1 y2 y3 y4 y5
    go_region_held3 (fun W => W.cell? ⟨w.heap.size + 1, 2, none⟩ = some (.int .u32 server) ∧ W.cell? ⟨w.heap.size + 1, 3, none⟩ = some (.int .u32 mask) ∧ W.cell? ⟨w.heap.size + 1, 5, none⟩ = some (.int .u32 time))
      (first
        | exact KC.out _ hV0
        | exact KC.out _ hVn
        | exact KC.out _ (hVn.alloc hVn.size _)
        | go_keep
        | fail)
      (first
        | (go_at_call 32; refine (rfour_any _ (by omega) _).mono ?_; rintro e w' ⟨rfl, hb'⟩; have hVn := bv_call (VA := VA) (by assumption) hb'; have q9 := (hVn.cell (p := ⟨V2.heap.size, 9, none⟩) hpa).trans (AA.out.2 9); have qf := (hVn.frozen (p := ⟨V2.heap.size, 9, none⟩) hpa).trans (FA.out 9); have ql : V2.heap.size < w'.heap.size := Nat.lt_of_lt_of_le hpa hVn.size; have qm : w.heap.size + 1 < w'.heap.size := Nat.lt_of_lt_of_le hpl hVn.size; have qs := KC.out _ hVn)
        | fail)
    have aLs := AtB.far (g := V2.heap.size) (k := 9) (u := (.slice (some ⟨w'.heap.size, 0, none⟩) 4 4)) (AtB.below AL.out hVn) hd1
    have aZs := AtB.far (g := V2.heap.size) (k := 9) (u := (.slice (some ⟨w'.heap.size, 0, none⟩) 4 4)) (AtB.below AZ.out hVn) (by omega)
    have aAs : AtB (w'.setCell ⟨V2.heap.size, 9, none⟩ (.slice (some ⟨w'.heap.size, 0, none⟩) 4 4)) V2.heap.size #[.int .i64 2, .int .u32 xid, .int .i64 0, .int .i64 flags, .int .u32 0, .int .u32 ip, .int .u32 server, .int .u32 gi, .int .u64 ch, .slice (some ⟨w'.heap.size, 0, none⟩) 4 4] := AtB.setAt (AtB.below AA.out hVn) (by simp)
    have hBs : Below w.heap.size w (w'.setCell ⟨V2.heap.size, 9, none⟩ (.slice (some ⟨w'.heap.size, 0, none⟩) 4 4)) := (HBV.out.trans (hVn.mono HBV.out.size)).setCell (by show _ ≤ V2.heap.size; omega) _
    have fZs : ∀ o, (w'.setCell ⟨V2.heap.size, 9, none⟩ (.slice (some ⟨w'.heap.size, 0, none⟩) 4 4)).frozen? ⟨w.heap.size + 1 + 1, o, none⟩ = false := fun o => by rw [World.frozen?_setCell]; exact (hVn.frozen (p := ⟨w.heap.size + 1 + 1, o, none⟩) hpz).trans (FZ.out o)
    have fAs : ∀ o, (w'.setCell ⟨V2.heap.size, 9, none⟩ (.slice (some ⟨w'.heap.size, 0, none⟩) 4 4)).frozen? ⟨V2.heap.size, o, none⟩ = false := fun o => by rw [World.frozen?_setCell]; exact (hVn.frozen (p := ⟨V2.heap.size, o, none⟩) hpa).trans (FA.out o)
    have hsz : (w'.setCell ⟨V2.heap.size, 9, none⟩ (.slice (some ⟨w'.heap.size, 0, none⟩) 4 4)).heap.size = w'.heap.size := by simp
    generalize (w'.setCell ⟨V2.heap.size, 9, none⟩ (.slice (some ⟨w'.heap.size, 0, none⟩) 4 4)) = WS at aLs aZs aAs hBs fZs fAs hsz ⊢
    have hown := own_opts WS w.heap.size [⟨0, 53, ⟨#[5]⟩⟩, ⟨0, 54, fourS server⟩, ⟨0, 51, fourS time⟩, ⟨0, 1, fourS mask⟩] hBs.size 4 rfl (by omega)
    rw [hsz] at hown
    have bO := below1 WS (.cells #[.int .i64 0, .int .i64 53, .string ⟨#[5]⟩, .int .i64 0, .int .i64 54, .string (fourS server), .int .i64 0, .int .i64 51, .string (fourS time), .int .i64 0, .int .i64 1, .string (fourS mask)] 45)
    have aLu := AtB.below aLs bO
    have aZu := AtB.below aZs bO
    have aAu := AtB.below aAs bO
    have fZu : ∀ o, (WS.alloc (.cells #[.int .i64 0, .int .i64 53, .string ⟨#[5]⟩, .int .i64 0, .int .i64 54, .string (fourS server), .int .i64 0, .int .i64 51, .string (fourS time), .int .i64 0, .int .i64 1, .string (fourS mask)] 45)).frozen? ⟨w.heap.size + 1 + 1, o, none⟩ = false := fun o => (bO.frozen (p := ⟨w.heap.size + 1 + 1, o, none⟩) aZs.1).trans (fZs o)
    have fAu : ∀ o, (WS.alloc (.cells #[.int .i64 0, .int .i64 53, .string ⟨#[5]⟩, .int .i64 0, .int .i64 54, .string (fourS server), .int .i64 0, .int .i64 51, .string (fourS time), .int .i64 0, .int .i64 1, .string (fourS mask)] 45)).frozen? ⟨V2.heap.size, o, none⟩ = false := fun o => (bO.frozen (p := ⟨V2.heap.size, o, none⟩) aAs.1).trans (fAs o)
    have hBu := hBs.alloc hBs.size (.cells #[.int .i64 0, .int .i64 53, .string ⟨#[5]⟩, .int .i64 0, .int .i64 54, .string (fourS server), .int .i64 0, .int .i64 51, .string (fourS time), .int .i64 0, .int .i64 1, .string (fourS mask)] 45)
    have hownU : (WS.alloc (.cells #[.int .i64 0, .int .i64 53, .string ⟨#[5]⟩, .int .i64 0, .int .i64 54, .string (fourS server), .int .i64 0, .int .i64 51, .string (fourS time), .int .i64 0, .int .i64 1, .string (fourS mask)] 45)).ownsRow w.heap.size 45 3 (.slice (some ⟨w'.heap.size, 0, none⟩) 4 4) 4 (optCells [⟨0, 53, ⟨#[5]⟩⟩, ⟨0, 54, fourS server⟩, ⟨0, 51, fourS time⟩, ⟨0, 1, fourS mask⟩]) := hown
    have hgw : V2.heap.size < w'.heap.size := ql
    clear aLs aZs aAs hBs fZs fAs hsz hown bO AL AZ AA FZ FA HBV KC hV0 hVn q9 qf ql qm qs hb'
    generalize WS.alloc (.cells #[.int .i64 0, .int .i64 53, .string ⟨#[5]⟩, .int .i64 0, .int .i64 54, .string (fourS server), .int .i64 0, .int .i64 51, .string (fourS time), .int .i64 0, .int .i64 1, .string (fourS mask)] 45) = U at *
    have HOw : Hid _ := hownU
    have AAu : Hid _ := aAu
    have AZu : Hid _ := aZu
    have ALu : Hid _ := aLu
    have FZu : Hid _ := fZu
    have FAu : Hid _ := fAu
    have HBu : Hid _ := hBu
    have hU1 : V2.heap.size < U.heap.size := aAu.1
    have hU2 : w.heap.size + 1 < U.heap.size := aLu.1
    have hU3 : w.heap.size + 1 + 1 < U.heap.size := aZu.1
    obtain ⟨y0, y1, y2, y3, y4, y5⟩ := AtB.six aLu
    obtain ⟨u0, u1, u2, u3, u4, u5, u6, u7, u8, u9⟩ := AtB.ten aAu
    clear hownU aAu aZu aLu fZu fAu hBu
    have hd3 : ¬ V2.heap.size = w.heap.size + 1 + 1 := by omega
    have hd4 : ¬ w.heap.size + 1 + 1 = V2.heap.size := by omega
    by_cases hr0 : router = 0
    · obtain ⟨z0, z1, z2, z3, z4, z5, z6, z7, z8, z9⟩ := AtB.ten AZu.out
      have fz := FZu.out
      have hne2 : w.heap.size + 1 + 1 ≠ w'.heap.size := by omega
      subst hr0
      go_wp2
      refine bodyPost_ret (v := .tuple #[.agg #[.int .i64 2, .int .u32 xid, .int .i64 0, .int .i64 flags, .int .u32 0, .int .u32 ip, .int .u32 server, .int .u32 gi, .int .u64 ch, .slice (some ⟨w'.heap.size, 0, none⟩) 4 4], .bool true]) ?_ rfl ⟨w'.heap.size, 4, 4, rfl, by omega, ?_, ?_⟩
      · simp [results, Try.results14, go_sem, *]
      · repeat refine OS.far ?_ (by assumption)
        exact os_own HOw.out (by omega)
      · repeat refine Below.setCell ?_ (by simp; omega) _
        exact HBu.out
    · have er0 : (router == 0) = false := by simp [hr0]
      obtain ⟨i0, hi, hzz0, hzz1, hzz2⟩ := info_parts infoOpt
      go_wp2_with fail
      refine wp_region_held_drew (S := fun W => W.cell? ⟨w.heap.size + 1, 4, none⟩ = some (.int .u32 router)) (by kernel_rfl) ?_ (fun hHeld => ?_)
      · exact y4
      refine wpAnyH_take (i := 0) (v := ?_) rfl (by kernel_rfl) (by kernel_rfl) (by kernel_rfl) (fun _ _ _ h => h) (Or.inl ⟨by rfl, ?_⟩) (by assumption) ?_
      rotate_left
      · (intro w hSw; (try dsimp only at hSw); go_simp; try with_reducible rfl)
      try simp only [List.getElem_toArray, List.getElem_cons_zero, List.getElem_cons_succ, Act.put, List.setIfInBounds_toArray, List.set_cons_zero, List.set_cons_succ]
      refine wpAnyH_take (i := 2) (v := ?_) rfl (by kernel_rfl) (by kernel_rfl) (by kernel_rfl) (fun _ _ _ h => h) (Or.inl ⟨by rfl, ?_⟩) (by assumption) ?_
      rotate_left
      · (intro w hSw; (try dsimp only at hSw); go_simp; try with_reducible rfl)
      try simp only [List.getElem_toArray, List.getElem_cons_zero, List.getElem_cons_succ, Act.put, List.setIfInBounds_toArray, List.set_cons_zero, List.set_cons_succ]
      refine wpAnyH_take (i := 3) (v := ?_) rfl (by kernel_rfl) (by kernel_rfl) (by kernel_rfl) (fun _ _ _ h => h) (Or.inl ⟨by rfl, ?_⟩) (by assumption) ?_
      rotate_left
      · (intro w hSw; (try dsimp only at hSw); go_simp; try with_reducible rfl)
      try simp only [List.getElem_toArray, List.getElem_cons_zero, List.getElem_cons_succ, Act.put, List.setIfInBounds_toArray, List.set_cons_zero, List.set_cons_succ]
      refine wpAnyH_ready (rs := [1, 4]) (by kernel_rfl) (by simp) ?_
      refine AllReadyH.cons (o := _) rfl (fun K hK => ?_) ?_
      · go_simp
        refine hK.out _ _ (by exact y4) (fun hHeld2 => ?_)
        clear hK K hHeld
        have hHeld := hHeld2
        clear hHeld2
        try simp only [List.getElem_toArray, List.getElem_cons_zero, List.getElem_cons_succ, Act.put, List.setIfInBounds_toArray, List.set_cons_zero, List.set_cons_succ]
        refine wpAnyH_ready (rs := [4]) (by kernel_rfl) (by simp) ?_
        refine AllReadyH.cons (o := _) rfl (fun K hK => ?_) AllReadyH.nil
        go_simp
        refine (rfour_any _ h3 _).mono ?_
        rintro e wd ⟨rfl, hb'⟩
        have hbU : Below U.heap.size U wd := (Below.refl U.heap.size U).drew.trans hb'
        have r9 := (hbU.cell (p := ⟨V2.heap.size, 9, none⟩) hU1).trans u9
        have r4 := (hbU.cell (p := ⟨w.heap.size + 1, 4, none⟩) hU2).trans y4
        have rl : V2.heap.size < wd.heap.size := Nat.lt_of_lt_of_le hU1 hbU.size
        have rl2 : w.heap.size + 1 < wd.heap.size := Nat.lt_of_lt_of_le hU2 hbU.size
        have HbU : Hid _ := hbU
        clear hbU hb'
        go_wp2_with fail
        refine hK.out _ _ (r4) (fun hHeld2 => ?_)
        clear hK K hHeld
        have hHeld := hHeld2
        clear hHeld2
        try simp only [List.getElem_toArray, List.getElem_cons_zero, List.getElem_cons_succ, Act.put, List.setIfInBounds_toArray, List.set_cons_zero, List.set_cons_succ]
        refine wpAnyH_take (i := 5) (v := ?_) rfl (by kernel_rfl) (by kernel_rfl) (by kernel_rfl) (fun _ _ _ h => h) (Or.inl ⟨by rfl, ?_⟩) (by assumption) ?_
        rotate_left
        · (intro w hSw; (try dsimp only at hSw); go_simp; try with_reducible rfl)
        try simp only [List.getElem_toArray, List.getElem_cons_zero, List.getElem_cons_succ, Act.put, List.setIfInBounds_toArray, List.set_cons_zero, List.set_cons_succ]
        refine wpAnyH_ready (rs := [6]) (by kernel_rfl) (by simp) ?_
        refine AllReadyH.cons (o := _) rfl (fun K hK => ?_) AllReadyH.nil
        go_simp
        refine hK.out _ _ (((below1 wd _).cell (p := ⟨w.heap.size + 1, 4, none⟩) rl2).trans r4) (fun hHeld2 => ?_)
        clear hK K hHeld
        have hHeld := hHeld2
        clear hHeld2
        try simp only [List.getElem_toArray, List.getElem_cons_zero, List.getElem_cons_succ, Act.put, List.setIfInBounds_toArray, List.set_cons_zero, List.set_cons_succ]
        refine wpAnyH_ready (rs := [7]) (by kernel_rfl) (by simp) ?_
        refine AllReadyH.cons (o := _) rfl (fun K hK => ?_) AllReadyH.nil
        have hOw' : World.ownsRow (wd.alloc (.cells #[.int .i64 0, .int .i64 3, .string (fourS router)] 45)) w.heap.size 45 3 (.slice (some ⟨w'.heap.size, 0, none⟩) 4 4) 4 (optCells [⟨0, 53, ⟨#[5]⟩⟩, ⟨0, 54, fourS server⟩, ⟨0, 51, fourS time⟩, ⟨0, 1, fourS mask⟩]) := World.ownsRow.alloc (own_below HOw.out HbU.out) _
        have v9 : (wd.alloc (.cells #[.int .i64 0, .int .i64 3, .string (fourS router)] 45)).cell? ⟨V2.heap.size, 9, none⟩ = some (.slice (some ⟨w'.heap.size, 0, none⟩) 4 4) := ((below1 wd _).cell (p := ⟨V2.heap.size, 9, none⟩) rl).trans r9
        have vf : (wd.alloc (.cells #[.int .i64 0, .int .i64 3, .string (fourS router)] 45)).frozen? ⟨V2.heap.size, 9, none⟩ = false := ((below1 wd _).frozen (p := ⟨V2.heap.size, 9, none⟩) rl).trans ((HbU.out.frozen (p := ⟨V2.heap.size, 9, none⟩) hU1).trans (FAu.out 9))
        refine step_append_lies _ (by rfl) (.tmp 85) (.tmp 90) 25 (by rfl) w.heap.size 45 i0 _ 3 32 Try.underlying25 hi hzz0 hzz1 hzz2 rfl (by omega) _ 4 _ (by rfl) hOw' ⟨wd.heap.size, 0, none⟩ 1 1 [.int .i64 0, .int .i64 3, .string (fourS router)] (by rfl) rfl (World.news_of_block (heap_alloc_new wd _)) (by simp [Value.oneCell']) (by omega) (by unfold maxLen; omega) (by omega) (by simp; omega) (wd.heap.size + 1) (by simp) ?_
        intro g cap2 we h1' h2' h3' h4'
        have hnw : some (Addr.block ⟨V2.heap.size, 9, none⟩) ≠ Value.ownBlock (.slice (some ⟨w'.heap.size, 0, none⟩) 4 4) := by simp [Value.ownBlock]; omega
        have s9 := (h2'.cell_far ⟨V2.heap.size, 9, none⟩ (by simp; omega) hnw).trans v9
        have sf := (h2'.frozen_far ⟨V2.heap.size, 9, none⟩ (by simp; omega) hnw).trans vf
        have s4 := (h2'.cell_far ⟨w.heap.size + 1, 4, none⟩ (by simp; omega) (by simp [Value.ownBlock]; omega)).trans (((below1 wd _).cell (p := ⟨w.heap.size + 1, 4, none⟩) rl2).trans r4)
        refine hK.out _ _ (by exact s4) (fun hHeld2 => ?_)
        clear hK K hHeld
        have hHeld := hHeld2
        clear hHeld2
        try simp only [List.getElem_toArray, List.getElem_cons_zero, List.getElem_cons_succ, Act.put, List.setIfInBounds_toArray, List.set_cons_zero, List.set_cons_succ]
        refine wpAnyH_take (i := 8) (v := ?_) rfl (by kernel_rfl) (by kernel_rfl) (by kernel_rfl) (fun _ _ _ h => h) (Or.inl ⟨by rfl, ?_⟩) (by assumption) ?_
        rotate_left
        · (intro w hSw; (try dsimp only at hSw); go_simp; try with_reducible rfl)
        try simp only [List.getElem_toArray, List.getElem_cons_zero, List.getElem_cons_succ, Act.put, List.setIfInBounds_toArray, List.set_cons_zero, List.set_cons_succ]
        refine wpAnyH_ready (rs := [9]) (by kernel_rfl) (by simp) ?_
        refine AllReadyH.cons (o := _) rfl (fun K hK => ?_) AllReadyH.nil
        go_simp
        refine hK.out _ _ ((World.cell?_setCell_other _ _ _ _ (fun e => hd1 (congrArg Addr.block e))).trans s4) (fun hHeld2 => ?_)
        clear hK K hHeld hHeld2
        try simp only [List.getElem_toArray, List.getElem_cons_zero, List.getElem_cons_succ, Act.put, List.setIfInBounds_toArray, List.set_cons_zero, List.set_cons_succ]
        refine wpAnyH_done (by kernel_rfl) ?_ _
        have bE := below1 wd (.cells #[.int .i64 0, .int .i64 3, .string (fourS router)] 45)
        have hg1 : g = w'.heap.size ∨ g = wd.heap.size + 1 := by
          rcases h3' with h | h
          · left; simpa [Value.ownBlock] using h.symm
          · right; exact h
        have hnz : some (w.heap.size + 1 + 1) ≠ Value.ownBlock (.slice (some ⟨w'.heap.size, 0, none⟩) 4 4) := by simp [Value.ownBlock]; omega
        have hnA : some V2.heap.size ≠ Value.ownBlock (.slice (some ⟨w'.heap.size, 0, none⟩) 4 4) := hnw
        have zl : w.heap.size + 1 + 1 < wd.heap.size := Nat.lt_of_lt_of_le hU3 HbU.out.size
        have aAe := AtB.setAt (k := 9) (u := .slice (some ⟨g, 0, none⟩) 5 cap2) (AtB.grown (AtB.below (AtB.below AAu.out HbU.out) bE) h2' hnA) (by simp)
        have aZe := AtB.far (g := V2.heap.size) (k := 9) (u := .slice (some ⟨g, 0, none⟩) 5 cap2) (AtB.grown (AtB.below (AtB.below AZu.out HbU.out) bE) h2' hnz) hd3
        have aAe' : AtB (we.setCell ⟨V2.heap.size, 9, none⟩ (.slice (some ⟨g, 0, none⟩) 5 cap2)) V2.heap.size #[.int .i64 2, .int .u32 xid, .int .i64 0, .int .i64 flags, .int .u32 0, .int .u32 ip, .int .u32 server, .int .u32 gi, .int .u64 ch, .slice (some ⟨g, 0, none⟩) 5 cap2] := aAe
        have fZe : ∀ o, (we.setCell ⟨V2.heap.size, 9, none⟩ (.slice (some ⟨g, 0, none⟩) 5 cap2)).frozen? ⟨w.heap.size + 1 + 1, o, none⟩ = false := fun o => by
          rw [World.frozen?_setCell]
          exact (h2'.frozen_far ⟨w.heap.size + 1 + 1, o, none⟩ (by simp; omega) hnz).trans ((bE.frozen (p := ⟨w.heap.size + 1 + 1, o, none⟩) zl).trans ((HbU.out.frozen (p := ⟨w.heap.size + 1 + 1, o, none⟩) hU3).trans (FZu.out o)))
        have bd := HBu.out.trans (HbU.out.mono HBu.out.size)
        have hBe : Below w.heap.size w (we.setCell ⟨V2.heap.size, 9, none⟩ (.slice (some ⟨g, 0, none⟩) 5 cap2)) := ((bd.alloc bd.size _).grown h2' (by have := bd.size; simp; omega) (fun j hj => by simp [Value.ownBlock] at hj; omega)).setCell (by show _ ≤ V2.heap.size; omega) _
        have hOe : OS (we.setCell ⟨V2.heap.size, 9, none⟩ (.slice (some ⟨g, 0, none⟩) 5 cap2)) (some ⟨g, 0, none⟩) 5 (leaseOs 5 server time mask router) := by
          refine OS.far ?_ (by omega)
          refine os_own (cap := cap2) (base := w.heap.size) ?_ (by omega)
          have e : leaseOs 5 server time mask router = [⟨0, 53, ⟨#[5]⟩⟩, ⟨0, 54, fourS server⟩, ⟨0, 51, fourS time⟩, ⟨0, 1, fourS mask⟩] ++ [⟨0, 3, fourS router⟩] := by unfold leaseOs; rw [if_neg hr0]; rfl
          rw [e, optCells_app]
          exact h1'
        have hgg : w.heap.size ≤ g := (World.ownsRow.lt h1' g rfl).1
        have hgz : w.heap.size + 1 + 1 ≠ g := by omega
        generalize (we.setCell ⟨V2.heap.size, 9, none⟩ (.slice (some ⟨g, 0, none⟩) 5 cap2)) = WF at aAe' aZe fZe hBe hOe ⊢
        clear aAe h1' h2' h3' h4' s9 sf s4 v9 vf hOw' hnw hnz hnA bd bE HbU r9 r4
        clear u0 u1 u2 u3 u4 u5 u6 u7 u8 u9 y0 y1 y2 y3 y4 y5
        obtain ⟨u0, u1, u2, u3, u4, u5, u6, u7, u8, u9⟩ := AtB.ten aAe'
        obtain ⟨z0, z1, z2, z3, z4, z5, z6, z7, z8, z9⟩ := AtB.ten aZe
        have HOe : Hid _ := hOe
        have HBe : Hid _ := hBe
        have fz := fZe
        clear hOe hBe aAe' aZe fZe
        go_wp2
        refine bodyPost_ret (v := .tuple #[.agg #[.int .i64 2, .int .u32 xid, .int .i64 0, .int .i64 flags, .int .u32 0, .int .u32 ip, .int .u32 server, .int .u32 gi, .int .u64 ch, .slice (some ⟨g, 0, none⟩) 5 cap2], .bool true]) ?_ rfl ⟨g, 5, cap2, rfl, hgg, ?_, ?_⟩
        · simp [results, Try.results14, go_sem, *]
        · repeat refine OS.far ?_ (by assumption)
          exact HOe.out
        · repeat refine Below.setCell ?_ (by simp; omega) _
          exact HBe.out
      refine AllReadyH.cons (o := _) rfl (fun K hK => ?_) AllReadyH.nil
      go_simp
      refine (rfour_any _ h3 _).mono ?_
      rintro e wd ⟨rfl, hb'⟩
      have hbU : Below U.heap.size U wd := (Below.refl U.heap.size U).drew.trans hb'
      have r9 := (hbU.cell (p := ⟨V2.heap.size, 9, none⟩) hU1).trans u9
      have r4 := (hbU.cell (p := ⟨w.heap.size + 1, 4, none⟩) hU2).trans y4
      have rl : V2.heap.size < wd.heap.size := Nat.lt_of_lt_of_le hU1 hbU.size
      have rl2 : w.heap.size + 1 < wd.heap.size := Nat.lt_of_lt_of_le hU2 hbU.size
      have HbU : Hid _ := hbU
      clear hbU hb'
      go_wp2_with fail
      refine hK.out _ _ (r4) (fun hHeld2 => ?_)
      clear hK K hHeld
      have hHeld := hHeld2
      clear hHeld2
      try simp only [List.getElem_toArray, List.getElem_cons_zero, List.getElem_cons_succ, Act.put, List.setIfInBounds_toArray, List.set_cons_zero, List.set_cons_succ]
      refine wpAnyH_take (i := 5) (v := ?_) rfl (by kernel_rfl) (by kernel_rfl) (by kernel_rfl) (fun _ _ _ h => h) (Or.inl ⟨by rfl, ?_⟩) (by assumption) ?_
      rotate_left
      · (intro w hSw; (try dsimp only at hSw); go_simp; try with_reducible rfl)
      try simp only [List.getElem_toArray, List.getElem_cons_zero, List.getElem_cons_succ, Act.put, List.setIfInBounds_toArray, List.set_cons_zero, List.set_cons_succ]
      refine wpAnyH_ready (rs := [1, 6]) (by kernel_rfl) (by simp) ?_
      refine AllReadyH.cons (o := _) rfl (fun K hK => ?_) ?_
      · go_simp
        refine hK.out _ _ (by exact r4) (fun hHeld2 => ?_)
        clear hK K hHeld
        have hHeld := hHeld2
        clear hHeld2
        try simp only [List.getElem_toArray, List.getElem_cons_zero, List.getElem_cons_succ, Act.put, List.setIfInBounds_toArray, List.set_cons_zero, List.set_cons_succ]
        refine wpAnyH_ready (rs := [6]) (by kernel_rfl) (by simp) ?_
        refine AllReadyH.cons (o := _) rfl (fun K hK => ?_) AllReadyH.nil
        go_simp
        refine hK.out _ _ (((below1 wd _).cell (p := ⟨w.heap.size + 1, 4, none⟩) rl2).trans r4) (fun hHeld2 => ?_)
        clear hK K hHeld
        have hHeld := hHeld2
        clear hHeld2
        try simp only [List.getElem_toArray, List.getElem_cons_zero, List.getElem_cons_succ, Act.put, List.setIfInBounds_toArray, List.set_cons_zero, List.set_cons_succ]
        refine wpAnyH_ready (rs := [7]) (by kernel_rfl) (by simp) ?_
        refine AllReadyH.cons (o := _) rfl (fun K hK => ?_) AllReadyH.nil
        have hOw' : World.ownsRow (wd.alloc (.cells #[.int .i64 0, .int .i64 3, .string (fourS router)] 45)) w.heap.size 45 3 (.slice (some ⟨w'.heap.size, 0, none⟩) 4 4) 4 (optCells [⟨0, 53, ⟨#[5]⟩⟩, ⟨0, 54, fourS server⟩, ⟨0, 51, fourS time⟩, ⟨0, 1, fourS mask⟩]) := World.ownsRow.alloc (own_below HOw.out HbU.out) _
        have v9 : (wd.alloc (.cells #[.int .i64 0, .int .i64 3, .string (fourS router)] 45)).cell? ⟨V2.heap.size, 9, none⟩ = some (.slice (some ⟨w'.heap.size, 0, none⟩) 4 4) := ((below1 wd _).cell (p := ⟨V2.heap.size, 9, none⟩) rl).trans r9
        have vf : (wd.alloc (.cells #[.int .i64 0, .int .i64 3, .string (fourS router)] 45)).frozen? ⟨V2.heap.size, 9, none⟩ = false := ((below1 wd _).frozen (p := ⟨V2.heap.size, 9, none⟩) rl).trans ((HbU.out.frozen (p := ⟨V2.heap.size, 9, none⟩) hU1).trans (FAu.out 9))
        refine step_append_lies _ (by rfl) (.tmp 85) (.tmp 90) 25 (by rfl) w.heap.size 45 i0 _ 3 32 Try.underlying25 hi hzz0 hzz1 hzz2 rfl (by omega) _ 4 _ (by rfl) hOw' ⟨wd.heap.size, 0, none⟩ 1 1 [.int .i64 0, .int .i64 3, .string (fourS router)] (by rfl) rfl (World.news_of_block (heap_alloc_new wd _)) (by simp [Value.oneCell']) (by omega) (by unfold maxLen; omega) (by omega) (by simp; omega) (wd.heap.size + 1) (by simp) ?_
        intro g cap2 we h1' h2' h3' h4'
        have hnw : some (Addr.block ⟨V2.heap.size, 9, none⟩) ≠ Value.ownBlock (.slice (some ⟨w'.heap.size, 0, none⟩) 4 4) := by simp [Value.ownBlock]; omega
        have s9 := (h2'.cell_far ⟨V2.heap.size, 9, none⟩ (by simp; omega) hnw).trans v9
        have sf := (h2'.frozen_far ⟨V2.heap.size, 9, none⟩ (by simp; omega) hnw).trans vf
        have s4 := (h2'.cell_far ⟨w.heap.size + 1, 4, none⟩ (by simp; omega) (by simp [Value.ownBlock]; omega)).trans (((below1 wd _).cell (p := ⟨w.heap.size + 1, 4, none⟩) rl2).trans r4)
        refine hK.out _ _ (by exact s4) (fun hHeld2 => ?_)
        clear hK K hHeld
        have hHeld := hHeld2
        clear hHeld2
        try simp only [List.getElem_toArray, List.getElem_cons_zero, List.getElem_cons_succ, Act.put, List.setIfInBounds_toArray, List.set_cons_zero, List.set_cons_succ]
        refine wpAnyH_take (i := 8) (v := ?_) rfl (by kernel_rfl) (by kernel_rfl) (by kernel_rfl) (fun _ _ _ h => h) (Or.inl ⟨by rfl, ?_⟩) (by assumption) ?_
        rotate_left
        · (intro w hSw; (try dsimp only at hSw); go_simp; try with_reducible rfl)
        try simp only [List.getElem_toArray, List.getElem_cons_zero, List.getElem_cons_succ, Act.put, List.setIfInBounds_toArray, List.set_cons_zero, List.set_cons_succ]
        refine wpAnyH_ready (rs := [9]) (by kernel_rfl) (by simp) ?_
        refine AllReadyH.cons (o := _) rfl (fun K hK => ?_) AllReadyH.nil
        go_simp
        refine hK.out _ _ ((World.cell?_setCell_other _ _ _ _ (fun e => hd1 (congrArg Addr.block e))).trans s4) (fun hHeld2 => ?_)
        clear hK K hHeld hHeld2
        try simp only [List.getElem_toArray, List.getElem_cons_zero, List.getElem_cons_succ, Act.put, List.setIfInBounds_toArray, List.set_cons_zero, List.set_cons_succ]
        refine wpAnyH_done (by kernel_rfl) ?_ _
        have bE := below1 wd (.cells #[.int .i64 0, .int .i64 3, .string (fourS router)] 45)
        have hg1 : g = w'.heap.size ∨ g = wd.heap.size + 1 := by
          rcases h3' with h | h
          · left; simpa [Value.ownBlock] using h.symm
          · right; exact h
        have hnz : some (w.heap.size + 1 + 1) ≠ Value.ownBlock (.slice (some ⟨w'.heap.size, 0, none⟩) 4 4) := by simp [Value.ownBlock]; omega
        have hnA : some V2.heap.size ≠ Value.ownBlock (.slice (some ⟨w'.heap.size, 0, none⟩) 4 4) := hnw
        have zl : w.heap.size + 1 + 1 < wd.heap.size := Nat.lt_of_lt_of_le hU3 HbU.out.size
        have aAe := AtB.setAt (k := 9) (u := .slice (some ⟨g, 0, none⟩) 5 cap2) (AtB.grown (AtB.below (AtB.below AAu.out HbU.out) bE) h2' hnA) (by simp)
        have aZe := AtB.far (g := V2.heap.size) (k := 9) (u := .slice (some ⟨g, 0, none⟩) 5 cap2) (AtB.grown (AtB.below (AtB.below AZu.out HbU.out) bE) h2' hnz) hd3
        have aAe' : AtB (we.setCell ⟨V2.heap.size, 9, none⟩ (.slice (some ⟨g, 0, none⟩) 5 cap2)) V2.heap.size #[.int .i64 2, .int .u32 xid, .int .i64 0, .int .i64 flags, .int .u32 0, .int .u32 ip, .int .u32 server, .int .u32 gi, .int .u64 ch, .slice (some ⟨g, 0, none⟩) 5 cap2] := aAe
        have fZe : ∀ o, (we.setCell ⟨V2.heap.size, 9, none⟩ (.slice (some ⟨g, 0, none⟩) 5 cap2)).frozen? ⟨w.heap.size + 1 + 1, o, none⟩ = false := fun o => by
          rw [World.frozen?_setCell]
          exact (h2'.frozen_far ⟨w.heap.size + 1 + 1, o, none⟩ (by simp; omega) hnz).trans ((bE.frozen (p := ⟨w.heap.size + 1 + 1, o, none⟩) zl).trans ((HbU.out.frozen (p := ⟨w.heap.size + 1 + 1, o, none⟩) hU3).trans (FZu.out o)))
        have bd := HBu.out.trans (HbU.out.mono HBu.out.size)
        have hBe : Below w.heap.size w (we.setCell ⟨V2.heap.size, 9, none⟩ (.slice (some ⟨g, 0, none⟩) 5 cap2)) := ((bd.alloc bd.size _).grown h2' (by have := bd.size; simp; omega) (fun j hj => by simp [Value.ownBlock] at hj; omega)).setCell (by show _ ≤ V2.heap.size; omega) _
        have hOe : OS (we.setCell ⟨V2.heap.size, 9, none⟩ (.slice (some ⟨g, 0, none⟩) 5 cap2)) (some ⟨g, 0, none⟩) 5 (leaseOs 5 server time mask router) := by
          refine OS.far ?_ (by omega)
          refine os_own (cap := cap2) (base := w.heap.size) ?_ (by omega)
          have e : leaseOs 5 server time mask router = [⟨0, 53, ⟨#[5]⟩⟩, ⟨0, 54, fourS server⟩, ⟨0, 51, fourS time⟩, ⟨0, 1, fourS mask⟩] ++ [⟨0, 3, fourS router⟩] := by unfold leaseOs; rw [if_neg hr0]; rfl
          rw [e, optCells_app]
          exact h1'
        have hgg : w.heap.size ≤ g := (World.ownsRow.lt h1' g rfl).1
        have hgz : w.heap.size + 1 + 1 ≠ g := by omega
        generalize (we.setCell ⟨V2.heap.size, 9, none⟩ (.slice (some ⟨g, 0, none⟩) 5 cap2)) = WF at aAe' aZe fZe hBe hOe ⊢
        clear aAe h1' h2' h3' h4' s9 sf s4 v9 vf hOw' hnw hnz hnA bd bE HbU r9 r4
        clear u0 u1 u2 u3 u4 u5 u6 u7 u8 u9 y0 y1 y2 y3 y4 y5
        obtain ⟨u0, u1, u2, u3, u4, u5, u6, u7, u8, u9⟩ := AtB.ten aAe'
        obtain ⟨z0, z1, z2, z3, z4, z5, z6, z7, z8, z9⟩ := AtB.ten aZe
        have HOe : Hid _ := hOe
        have HBe : Hid _ := hBe
        have fz := fZe
        clear hOe hBe aAe' aZe fZe
        go_wp2
        refine bodyPost_ret (v := .tuple #[.agg #[.int .i64 2, .int .u32 xid, .int .i64 0, .int .i64 flags, .int .u32 0, .int .u32 ip, .int .u32 server, .int .u32 gi, .int .u64 ch, .slice (some ⟨g, 0, none⟩) 5 cap2], .bool true]) ?_ rfl ⟨g, 5, cap2, rfl, hgg, ?_, ?_⟩
        · simp [results, Try.results14, go_sem, *]
        · repeat refine OS.far ?_ (by assumption)
          exact HOe.out
        · repeat refine Below.setCell ?_ (by simp; omega) _
          exact HBe.out
      refine AllReadyH.cons (o := _) rfl (fun K hK => ?_) AllReadyH.nil
      go_simp
      refine hK.out _ _ (((below1 wd _).cell (p := ⟨w.heap.size + 1, 4, none⟩) rl2).trans r4) (fun hHeld2 => ?_)
      clear hK K hHeld
      have hHeld := hHeld2
      clear hHeld2
      try simp only [List.getElem_toArray, List.getElem_cons_zero, List.getElem_cons_succ, Act.put, List.setIfInBounds_toArray, List.set_cons_zero, List.set_cons_succ]
      refine wpAnyH_ready (rs := [1]) (by kernel_rfl) (by simp) ?_
      refine AllReadyH.cons (o := _) rfl (fun K hK => ?_) AllReadyH.nil
      go_simp
      refine hK.out _ _ (((below1 wd _).cell (p := ⟨w.heap.size + 1, 4, none⟩) rl2).trans r4) (fun hHeld2 => ?_)
      clear hK K hHeld
      have hHeld := hHeld2
      clear hHeld2
      try simp only [List.getElem_toArray, List.getElem_cons_zero, List.getElem_cons_succ, Act.put, List.setIfInBounds_toArray, List.set_cons_zero, List.set_cons_succ]
      refine wpAnyH_ready (rs := [7]) (by kernel_rfl) (by simp) ?_
      refine AllReadyH.cons (o := _) rfl (fun K hK => ?_) AllReadyH.nil
      have hOw' : World.ownsRow (wd.alloc (.cells #[.int .i64 0, .int .i64 3, .string (fourS router)] 45)) w.heap.size 45 3 (.slice (some ⟨w'.heap.size, 0, none⟩) 4 4) 4 (optCells [⟨0, 53, ⟨#[5]⟩⟩, ⟨0, 54, fourS server⟩, ⟨0, 51, fourS time⟩, ⟨0, 1, fourS mask⟩]) := World.ownsRow.alloc (own_below HOw.out HbU.out) _
      have v9 : (wd.alloc (.cells #[.int .i64 0, .int .i64 3, .string (fourS router)] 45)).cell? ⟨V2.heap.size, 9, none⟩ = some (.slice (some ⟨w'.heap.size, 0, none⟩) 4 4) := ((below1 wd _).cell (p := ⟨V2.heap.size, 9, none⟩) rl).trans r9
      have vf : (wd.alloc (.cells #[.int .i64 0, .int .i64 3, .string (fourS router)] 45)).frozen? ⟨V2.heap.size, 9, none⟩ = false := ((below1 wd _).frozen (p := ⟨V2.heap.size, 9, none⟩) rl).trans ((HbU.out.frozen (p := ⟨V2.heap.size, 9, none⟩) hU1).trans (FAu.out 9))
      refine step_append_lies _ (by rfl) (.tmp 85) (.tmp 90) 25 (by rfl) w.heap.size 45 i0 _ 3 32 Try.underlying25 hi hzz0 hzz1 hzz2 rfl (by omega) _ 4 _ (by rfl) hOw' ⟨wd.heap.size, 0, none⟩ 1 1 [.int .i64 0, .int .i64 3, .string (fourS router)] (by rfl) rfl (World.news_of_block (heap_alloc_new wd _)) (by simp [Value.oneCell']) (by omega) (by unfold maxLen; omega) (by omega) (by simp; omega) (wd.heap.size + 1) (by simp) ?_
      intro g cap2 we h1' h2' h3' h4'
      have hnw : some (Addr.block ⟨V2.heap.size, 9, none⟩) ≠ Value.ownBlock (.slice (some ⟨w'.heap.size, 0, none⟩) 4 4) := by simp [Value.ownBlock]; omega
      have s9 := (h2'.cell_far ⟨V2.heap.size, 9, none⟩ (by simp; omega) hnw).trans v9
      have sf := (h2'.frozen_far ⟨V2.heap.size, 9, none⟩ (by simp; omega) hnw).trans vf
      have s4 := (h2'.cell_far ⟨w.heap.size + 1, 4, none⟩ (by simp; omega) (by simp [Value.ownBlock]; omega)).trans (((below1 wd _).cell (p := ⟨w.heap.size + 1, 4, none⟩) rl2).trans r4)
      refine hK.out _ _ (by exact s4) (fun hHeld2 => ?_)
      clear hK K hHeld
      have hHeld := hHeld2
      clear hHeld2
      try simp only [List.getElem_toArray, List.getElem_cons_zero, List.getElem_cons_succ, Act.put, List.setIfInBounds_toArray, List.set_cons_zero, List.set_cons_succ]
      refine wpAnyH_take (i := 8) (v := ?_) rfl (by kernel_rfl) (by kernel_rfl) (by kernel_rfl) (fun _ _ _ h => h) (Or.inl ⟨by rfl, ?_⟩) (by assumption) ?_
      rotate_left
      · (intro w hSw; (try dsimp only at hSw); go_simp; try with_reducible rfl)
      try simp only [List.getElem_toArray, List.getElem_cons_zero, List.getElem_cons_succ, Act.put, List.setIfInBounds_toArray, List.set_cons_zero, List.set_cons_succ]
      refine wpAnyH_ready (rs := [9]) (by kernel_rfl) (by simp) ?_
      refine AllReadyH.cons (o := _) rfl (fun K hK => ?_) AllReadyH.nil
      go_simp
      refine hK.out _ _ ((World.cell?_setCell_other _ _ _ _ (fun e => hd1 (congrArg Addr.block e))).trans s4) (fun hHeld2 => ?_)
      clear hK K hHeld hHeld2
      try simp only [List.getElem_toArray, List.getElem_cons_zero, List.getElem_cons_succ, Act.put, List.setIfInBounds_toArray, List.set_cons_zero, List.set_cons_succ]
      refine wpAnyH_done (by kernel_rfl) ?_ _
      have bE := below1 wd (.cells #[.int .i64 0, .int .i64 3, .string (fourS router)] 45)
      have hg1 : g = w'.heap.size ∨ g = wd.heap.size + 1 := by
        rcases h3' with h | h
        · left; simpa [Value.ownBlock] using h.symm
        · right; exact h
      have hnz : some (w.heap.size + 1 + 1) ≠ Value.ownBlock (.slice (some ⟨w'.heap.size, 0, none⟩) 4 4) := by simp [Value.ownBlock]; omega
      have hnA : some V2.heap.size ≠ Value.ownBlock (.slice (some ⟨w'.heap.size, 0, none⟩) 4 4) := hnw
      have zl : w.heap.size + 1 + 1 < wd.heap.size := Nat.lt_of_lt_of_le hU3 HbU.out.size
      have aAe := AtB.setAt (k := 9) (u := .slice (some ⟨g, 0, none⟩) 5 cap2) (AtB.grown (AtB.below (AtB.below AAu.out HbU.out) bE) h2' hnA) (by simp)
      have aZe := AtB.far (g := V2.heap.size) (k := 9) (u := .slice (some ⟨g, 0, none⟩) 5 cap2) (AtB.grown (AtB.below (AtB.below AZu.out HbU.out) bE) h2' hnz) hd3
      have aAe' : AtB (we.setCell ⟨V2.heap.size, 9, none⟩ (.slice (some ⟨g, 0, none⟩) 5 cap2)) V2.heap.size #[.int .i64 2, .int .u32 xid, .int .i64 0, .int .i64 flags, .int .u32 0, .int .u32 ip, .int .u32 server, .int .u32 gi, .int .u64 ch, .slice (some ⟨g, 0, none⟩) 5 cap2] := aAe
      have fZe : ∀ o, (we.setCell ⟨V2.heap.size, 9, none⟩ (.slice (some ⟨g, 0, none⟩) 5 cap2)).frozen? ⟨w.heap.size + 1 + 1, o, none⟩ = false := fun o => by
        rw [World.frozen?_setCell]
        exact (h2'.frozen_far ⟨w.heap.size + 1 + 1, o, none⟩ (by simp; omega) hnz).trans ((bE.frozen (p := ⟨w.heap.size + 1 + 1, o, none⟩) zl).trans ((HbU.out.frozen (p := ⟨w.heap.size + 1 + 1, o, none⟩) hU3).trans (FZu.out o)))
      have bd := HBu.out.trans (HbU.out.mono HBu.out.size)
      have hBe : Below w.heap.size w (we.setCell ⟨V2.heap.size, 9, none⟩ (.slice (some ⟨g, 0, none⟩) 5 cap2)) := ((bd.alloc bd.size _).grown h2' (by have := bd.size; simp; omega) (fun j hj => by simp [Value.ownBlock] at hj; omega)).setCell (by show _ ≤ V2.heap.size; omega) _
      have hOe : OS (we.setCell ⟨V2.heap.size, 9, none⟩ (.slice (some ⟨g, 0, none⟩) 5 cap2)) (some ⟨g, 0, none⟩) 5 (leaseOs 5 server time mask router) := by
        refine OS.far ?_ (by omega)
        refine os_own (cap := cap2) (base := w.heap.size) ?_ (by omega)
        have e : leaseOs 5 server time mask router = [⟨0, 53, ⟨#[5]⟩⟩, ⟨0, 54, fourS server⟩, ⟨0, 51, fourS time⟩, ⟨0, 1, fourS mask⟩] ++ [⟨0, 3, fourS router⟩] := by unfold leaseOs; rw [if_neg hr0]; rfl
        rw [e, optCells_app]
        exact h1'
      have hgg : w.heap.size ≤ g := (World.ownsRow.lt h1' g rfl).1
      have hgz : w.heap.size + 1 + 1 ≠ g := by omega
      generalize (we.setCell ⟨V2.heap.size, 9, none⟩ (.slice (some ⟨g, 0, none⟩) 5 cap2)) = WF at aAe' aZe fZe hBe hOe ⊢
      clear aAe h1' h2' h3' h4' s9 sf s4 v9 vf hOw' hnw hnz hnA bd bE HbU r9 r4
      clear u0 u1 u2 u3 u4 u5 u6 u7 u8 u9 y0 y1 y2 y3 y4 y5
      obtain ⟨u0, u1, u2, u3, u4, u5, u6, u7, u8, u9⟩ := AtB.ten aAe'
      obtain ⟨z0, z1, z2, z3, z4, z5, z6, z7, z8, z9⟩ := AtB.ten aZe
      have HOe : Hid _ := hOe
      have HBe : Hid _ := hBe
      have fz := fZe
      clear hOe hBe aAe' aZe fZe
      go_wp2
      refine bodyPost_ret (v := .tuple #[.agg #[.int .i64 2, .int .u32 xid, .int .i64 0, .int .i64 flags, .int .u32 0, .int .u32 ip, .int .u32 server, .int .u32 gi, .int .u64 ch, .slice (some ⟨g, 0, none⟩) 5 cap2], .bool true]) ?_ rfl ⟨g, 5, cap2, rfl, hgg, ?_, ?_⟩
      · simp [results, Try.results14, go_sem, *]
      · repeat refine OS.far ?_ (by assumption)
        exact HOe.out
      · repeat refine Below.setCell ?_ (by simp; omega) _
        exact HBe.out
end Go.Proofs.Ytglaheblbomhpaa
