/- Same of the laws of dhcp is true of two messages with the same numbers and options; a message among a law's arguments. Conditions: the options can be read. -/
import Derived.Test.YtglaheblbomhpaaDhcpTalks
import Derived.Deep.Slices
namespace Go.Proofs.Ytglaheblbomhpaa
open Go.ChangeShapes Go.WideShapes Go.ChangeAt Go.RowKit

theorem os_cell {w : World} {a : Option Addr} {n k : Nat} {os : List Opt} {o : Opt} (h : OS w a n os) (hk : k < n) (ho : os[k]? = some o) : ∃ b off, a = some ⟨b, off, none⟩ ∧ w.cell? ⟨b, off + k * 3, none⟩ = some (.int .i64 o.cls) ∧ w.cell? ⟨b, off + k * 3 + 1, none⟩ = some (.int .i64 o.code) ∧ w.cell? ⟨b, off + k * 3 + 2, none⟩ = some (.string o.data) ∧ b < w.heap.size := by
  rcases h.cells with h0 | ⟨b, off, e, hc⟩
  · omega
  · obtain ⟨c0, c1, c2⟩ := hc k o ho
    exact ⟨b, off, e, c0, c1, c2, cell_lt c0⟩

set_option maxHeartbeats 2000000 in
theorem same_yes (op xid secs flags ci yi si gi ch : Int) (a1 a2 : Option Addr) (n cap1 cap2 : Nat) (os : List Opt) (w : World) (h1 : OS w a1 n os) (h2 : OS w a2 n os) :
    Calls Try.prog 10 #[dhcpV op xid secs flags ci yi si gi ch (.slice a1 n cap1), dhcpV op xid secs flags ci yi si gi ch (.slice a2 n cap2)] w fun e w' => e = .returned (.bool true) ∧ Below w.heap.size w w' := by
  unfold dhcpV
  have hl := h1.len
  have hr := h1.room
  have H1 : Hid _ := h1
  have H2 : Hid _ := h2
  clear h1 h2
  have B := below2 w (.cells #[.int .i64 op, .int .u32 xid, .int .i64 secs, .int .i64 flags, .int .u32 ci, .int .u32 yi, .int .u32 si, .int .u32 gi, .int .u64 ch, .slice a1 n cap1] 27) (.cells #[.int .i64 op, .int .u32 xid, .int .i64 secs, .int .i64 flags, .int .u32 ci, .int .u32 yi, .int .u32 si, .int .u32 gi, .int .u64 ch, .slice a2 n cap2] 27)
  have HB : Hid _ := B
  clear B
  go_enter Try.func10, Try.ntmps10
  go_wp2_with fail
  go_loopw [5] (fun i wr => ∃ k nq : Nat, k ≤ n ∧ i = .int .i64 k ∧ wr = World.drewN ((w.alloc (.cells #[.int .i64 op, .int .u32 xid, .int .i64 secs, .int .i64 flags, .int .u32 ci, .int .u32 yi, .int .u32 si, .int .u32 gi, .int .u64 ch, .slice a1 n cap1] 27)).alloc (.cells #[.int .i64 op, .int .u32 xid, .int .i64 secs, .int .i64 flags, .int .u32 ci, .int .u32 yi, .int .u32 si, .int .u32 gi, .int .u64 ch, .slice a2 n cap2] 27)) nq) (fun i _ => n - (intOf i).toNat)
  case atStart => exact ⟨0, 0, by omega, rfl, rfl⟩
  case round =>
    obtain ⟨k, nq, hk, rfl, rfl⟩ := hrel
    by_cases hlt : k < n
    · have hkI : (k : Int) < (n : Int) := by omega
      obtain ⟨o, ho⟩ : ∃ o, os[k]? = some o := ⟨os[k]'(by omega), List.getElem?_eq_getElem (by omega)⟩
      obtain ⟨b, off, rfl, c0, c1, c2, hb1⟩ := os_cell H1.out hlt ho
      obtain ⟨b2, off2, rfl, d0, d1, d2, hb2⟩ := os_cell H2.out hlt ho
      have hq1 : b < w.heap.size + 1 := by omega
      have hq2 : b2 < w.heap.size + 1 := by omega
      have hneq : ∀ W, (binOp .neq 45 (.agg #[.int .i64 o.cls, .int .i64 o.code, .string o.data]) (.agg #[.int .i64 o.cls, .int .i64 o.code, .string o.data])).run Try.prog W = .ok (.bool false) W := fun W => by simp [go_sem]
      clear H1 H2 ho
      go_wp2_with fail
      go_quiet (fail)
      go_wp2
      go_roundw
      case rel => exact ⟨k + 1, _, by omega, by go_num, rfl⟩
      case measure => simp [intOf]; omega
    · obtain rfl : k = n := by omega
      go_wp2
      go_ret
      exact ⟨rfl, below_drewN HB.out _⟩
theorem cellsOpts : Try.prog.cellsOf 25 = 1 := by kernel_rfl
theorem cellsOpt : Try.prog.cellsOf 45 = 3 := by kernel_rfl
theorem cellsStr : Try.prog.cellsOf 9 = 1 := by kernel_rfl
theorem cellsDhcp : Try.prog.cellsOf 27 = 10 := by kernel_rfl
theorem bytesOpt : Try.prog.bytesOf 45 = 32 := by kernel_rfl
theorem array10 {α : Type} {cs : Array α} (h : cs.size = 10) : ∃ a b c d e f g i j k, cs = #[a, b, c, d, e, f, g, i, j, k] := by
  obtain ⟨l⟩ := cs
  match l, h with
  | [a, b, c, d, e, f, g, i, j, k], _ => exact ⟨a, b, c, d, e, f, g, i, j, k, rfl⟩

/-- An option as it is read. -/
theorem open_opt {H : Type} {enc : TypeId × Value → H} {W : World} {n : Nat} {a : Addr} {i : Nat} {cs : List Value} {x : DataW H × List MemPlace}
    (h1 : W.cells? 0 (a.add (i * Try.prog.cellsOf 45)) (Try.prog.cellsOf 45) = some cs) (h2 : DataW.trod enc Try.prog W 0 (fun _ => true) true n 45 cs = some x) :
    ∃ o : Opt, W.cell? (a.add (i * 3)) = some (.int .i64 o.cls) ∧ W.cell? (a.add (i * 3 + 1)) = some (.int .i64 o.code) ∧ W.cell? (a.add (i * 3 + 2)) = some (.string o.data) := by
  rw [cellsOpt] at h1
  obtain ⟨_, hlen, hcell⟩ := World.cells?_some h1
  obtain ⟨xs, k, _, _, _, hxl, hf⟩ := DataW.trod_struct Try.underlying45 h2
  match xs, hxl, cs, hlen with
  | [y0, y1, y2], _, [v0, v1, v2], _ =>
    have g0 : DataW.trod enc Try.prog W 0 (fun _ => true) true k 3 (([v0, v1, v2].drop 0).take (Try.prog.cellsOf 3)) = some y0 := hf 0 _ rfl
    have g1 : DataW.trod enc Try.prog W 0 (fun _ => true) true k 3 (([v0, v1, v2].drop 1).take (Try.prog.cellsOf 3)) = some y1 := hf 1 _ rfl
    have g2 : DataW.trod enc Try.prog W 0 (fun _ => true) true k 9 (([v0, v1, v2].drop 2).take (Try.prog.cellsOf 9)) = some y2 := hf 2 _ rfl
    rw [cells3] at g0 g1
    rw [cellsStr] at g2
    obtain ⟨x0, e0, _, _⟩ := DataW.trod_int Try.underlying3 g0
    obtain ⟨x1, e1, _, _⟩ := DataW.trod_int Try.underlying3 g1
    obtain ⟨x2, e2, _, _⟩ := DataW.trod_string Try.underlying9 g2
    simp at e0 e1 e2
    subst e0 e1 e2
    have q0 := hcell 0 (by omega)
    have q1 := hcell 1 (by omega)
    have q2 := hcell 2 (by omega)
    rw [Deep.add_add] at q0 q1 q2
    exact ⟨⟨x0, x1, x2⟩, by simpa using q0, by simpa using q1, by simpa using q2⟩

theorem open_dhcp {H : Type} {enc : TypeId × Value → H} {W : World} {v : Value} {d : DataW H} {p : List MemPlace} {r : Reach} {base : Nat} {ts : List TypeId} {ds : List (DataW H)} (j : Nat)
    (hv : Value.okWide Try.prog W r base 27 v) (h : DataW.Trod enc Try.prog W 0 (fun _ => true) true 27 v d p) (hsz : (DataW.weightsEach Try.prog ts ds).all (· ≤ reachBytes) = true) (ht : ts[j]? = some 27) (hd : ds[j]? = some d) :
    ∃ (op xid secs flags ci yi si gi ch : Int) (a : Option Addr) (n cap : Nat) (os : List Opt), v = dhcpV op xid secs flags ci yi si gi ch (.slice a n cap) ∧ OS W a n os ∧ (0 ≤ xid ∧ xid ≤ 4294967295) ∧ (0 ≤ ci ∧ ci ≤ 4294967295) ∧ (0 ≤ yi ∧ yi ≤ 4294967295) ∧ (0 ≤ si ∧ si ≤ 4294967295) ∧ (0 ≤ gi ∧ gi ≤ 4294967295) ∧ (0 ≤ ch ∧ ch ≤ 18446744073709551615) := by
  obtain ⟨cs, rfl, hcs⟩ := okWide_struct Try.underlying27 hv
  obtain ⟨c0, c1, c2, c3, c4, c5, c6, c7, c8, c9, rfl⟩ := array10 (hcs.trans cellsDhcp)
  obtain ⟨fuel, hf⟩ := h
  obtain ⟨xs, n, _, hx, _, hlen, hx2⟩ := DataW.trod_struct Try.underlying27 hf
  match xs, hlen with
  | [y0, y1, y2, y3, y4, y5, y6, y7, y8, y9], _ =>
    have g0 : DataW.trod enc Try.prog W 0 (fun _ => true) true n 3 (([c0, c1, c2, c3, c4, c5, c6, c7, c8, c9].drop 0).take (Try.prog.cellsOf 3)) = some y0 := hx2 0 _ rfl
    rw [cells3] at g0
    have g1 : DataW.trod enc Try.prog W 0 (fun _ => true) true n 23 (([c0, c1, c2, c3, c4, c5, c6, c7, c8, c9].drop 1).take (Try.prog.cellsOf 23)) = some y1 := hx2 1 _ rfl
    rw [cellsU32] at g1
    have g2 : DataW.trod enc Try.prog W 0 (fun _ => true) true n 3 (([c0, c1, c2, c3, c4, c5, c6, c7, c8, c9].drop 2).take (Try.prog.cellsOf 3)) = some y2 := hx2 2 _ rfl
    rw [cells3] at g2
    have g3 : DataW.trod enc Try.prog W 0 (fun _ => true) true n 3 (([c0, c1, c2, c3, c4, c5, c6, c7, c8, c9].drop 3).take (Try.prog.cellsOf 3)) = some y3 := hx2 3 _ rfl
    rw [cells3] at g3
    have g4 : DataW.trod enc Try.prog W 0 (fun _ => true) true n 23 (([c0, c1, c2, c3, c4, c5, c6, c7, c8, c9].drop 4).take (Try.prog.cellsOf 23)) = some y4 := hx2 4 _ rfl
    rw [cellsU32] at g4
    have g5 : DataW.trod enc Try.prog W 0 (fun _ => true) true n 23 (([c0, c1, c2, c3, c4, c5, c6, c7, c8, c9].drop 5).take (Try.prog.cellsOf 23)) = some y5 := hx2 5 _ rfl
    rw [cellsU32] at g5
    have g6 : DataW.trod enc Try.prog W 0 (fun _ => true) true n 23 (([c0, c1, c2, c3, c4, c5, c6, c7, c8, c9].drop 6).take (Try.prog.cellsOf 23)) = some y6 := hx2 6 _ rfl
    rw [cellsU32] at g6
    have g7 : DataW.trod enc Try.prog W 0 (fun _ => true) true n 23 (([c0, c1, c2, c3, c4, c5, c6, c7, c8, c9].drop 7).take (Try.prog.cellsOf 23)) = some y7 := hx2 7 _ rfl
    rw [cellsU32] at g7
    have g8 : DataW.trod enc Try.prog W 0 (fun _ => true) true n 24 (([c0, c1, c2, c3, c4, c5, c6, c7, c8, c9].drop 8).take (Try.prog.cellsOf 24)) = some y8 := hx2 8 _ rfl
    rw [cellsU64] at g8
    have g9 : DataW.trod enc Try.prog W 0 (fun _ => true) true n 25 (([c0, c1, c2, c3, c4, c5, c6, c7, c8, c9].drop 9).take (Try.prog.cellsOf 25)) = some y9 := hx2 9 _ rfl
    rw [cellsOpts] at g9
    obtain ⟨x0, e0, _, w0⟩ := DataW.trod_int Try.underlying3 g0
    obtain ⟨x1, e1, _, w1⟩ := DataW.trod_int Try.underlying23 g1
    obtain ⟨x2, e2, _, w2⟩ := DataW.trod_int Try.underlying3 g2
    obtain ⟨x3, e3, _, w3⟩ := DataW.trod_int Try.underlying3 g3
    obtain ⟨x4, e4, _, w4⟩ := DataW.trod_int Try.underlying23 g4
    obtain ⟨x5, e5, _, w5⟩ := DataW.trod_int Try.underlying23 g5
    obtain ⟨x6, e6, _, w6⟩ := DataW.trod_int Try.underlying23 g6
    obtain ⟨x7, e7, _, w7⟩ := DataW.trod_int Try.underlying23 g7
    obtain ⟨x8, e8, _, w8⟩ := DataW.trod_int Try.underlying24 g8
    simp at e0 e1 e2 e3 e4 e5 e6 e7 e8
    subst e0 e1 e2 e3 e4 e5 e6 e7 e8
    have bnd := And.intro (bounds_u32 w1) (And.intro (bounds_u32 w4) (And.intro (bounds_u32 w5) (And.intro (bounds_u32 w6) (And.intro (bounds_u32 w7) (bounds_u64 w8)))))
    have g9' : DataW.trod enc Try.prog W 0 (fun _ => true) true n 25 [c9] = some y9 := g9
    rcases Deep.open_slice Try.underlying25 g9' with ⟨e9, _⟩ | ⟨ad, len, cap, m, k, D, Pl, e9, _, hl, hmx, hm, hy9, hel⟩
    · simp at e9
      subst e9
      exact ⟨x0, x1, x2, x3, x4, x5, x6, x7, x8, none, 0, 0, [], rfl, OS.empty _, bnd⟩
    · simp at e9
      subst e9
      simp at hm
      subst hm
      have hd2 : d = .agg [y0.1, y1.1, y2.1, y3.1, y4.1, y5.1, y6.1, y7.1, y8.1, y9.1] := by
        have := congrArg Prod.fst hx
        simpa using this
      have hroom : m ≤ 140737488351232 := by
        have hmem : (((List.range len).map D).length + ((List.range (m - len)).map fun j => D (len + j)).length) * 32 ∈ DataW.weightsEach Try.prog ts ds := by
          refine DataW.weights_mem_each ht hd _ ?_
          rw [hd2]
          simp only [DataW.weights, Try.underlying27]
          refine DataW.weights_mem_each (j := 9) (t := 25) (d := y9.1) rfl rfl _ ?_
          rw [hy9]
          simp [DataW.weights, Try.underlying25, bytesOpt]
        have := of_decide_eq_true (List.all_eq_true.1 hsz _ hmem)
        simp only [List.length_map, List.length_range, reachBytes] at this
        omega
      have each : ∀ i, i < m → ∃ o : Opt, W.cell? (ad.add (i * 3)) = some (.int .i64 o.cls) ∧ W.cell? (ad.add (i * 3 + 1)) = some (.int .i64 o.code) ∧ W.cell? (ad.add (i * 3 + 2)) = some (.string o.data) := fun i hi => by
        obtain ⟨cs', q1, q2⟩ := hel i hi
        exact open_opt q1 q2
      haveI : Inhabited Opt := ⟨⟨0, 0, ⟨#[]⟩⟩⟩
      obtain ⟨q, hq⟩ := Deep.choose_lt each
      refine ⟨x0, x1, x2, x3, x4, x5, x6, x7, x8, some ad, len, m, (List.range len).map q, rfl, ⟨by simp, by omega, ?_⟩, bnd⟩
      by_cases h0 : len = 0
      · exact .inl h0
      · obtain ⟨b, off, spot⟩ := ad
        have hspot : spot = none := by
          have := (hq 0 (by omega)).1
          simpa [Addr.add] using World.cell?_spot this
        subst hspot
        refine .inr ⟨b, off, rfl, fun i o hi => ?_⟩
        rw [List.getElem?_map] at hi
        have hi' : i < len := by
          rcases Nat.lt_or_ge i len with h | h
          · exact h
          · simp [h] at hi
        simp [hi'] at hi
        subst hi
        obtain ⟨r0, r1, r2⟩ := hq i (by omega)
        rw [plain_add] at r0 r1 r2
        exact ⟨r0, by rw [Nat.add_assoc]; exact r1, by rw [Nat.add_assoc]; exact r2⟩
end Go.Proofs.Ytglaheblbomhpaa
