/- The law KeysUpdates, but for its frame: the walk. Conditions: keys and rows can be read; the keys are not too many. -/
import Derived.Test.YthejehbhjkmeeaaNK
namespace Go.Proofs.Ythejehbhjkmeeaa
open Go.RowKit
theorem agg_tuple {w : World} {r : Option (List Ky × List Ky × List Ky × List Ky)} {e : Ending} {w' : World} (h : UpdPost w r e w') : ∃ r1 s1 t1 r2 s2 t2 r3 s3 t3 r4 s4 t4 er, e = .returned (.tuple #[.agg #[.slice r1 s1 t1, .slice r2 s2 t2, .slice r3 s3 t3, .slice r4 s4 t4], .int .i64 er]) ∧ Below w.heap.size w w' ∧
    ((r = none ∧ er = 190 ∧ KV w' (.slice r1 s1 t1) [] ∧ KV w' (.slice r2 s2 t2) [] ∧ KV w' (.slice r3 s3 t3) [] ∧ KV w' (.slice r4 s4 t4) []) ∨ ∃ x, r = some x ∧ er = 0 ∧ KV w' (.slice r1 s1 t1) x.1 ∧ KV w' (.slice r2 s2 t2) x.2.1 ∧ KV w' (.slice r3 s3 t3) x.2.2.1 ∧ KV w' (.slice r4 s4 t4) x.2.2.2) := by
  unfold UpdPost at h
  cases r with
  | none => exact ⟨none, 0, 0, none, 0, 0, none, 0, 0, none, 0, 0, 190, h.2, h.1, .inl ⟨rfl, rfl, KV.nil, KV.nil, KV.nil, KV.nil⟩⟩
  | some x =>
    obtain ⟨hb, u1, u2, u3, u4, rfl, k1, k2, k3, k4⟩ := h
    obtain ⟨r1, s1, t1, rfl⟩ := keys_slices k1
    obtain ⟨r2, s2, t2, rfl⟩ := keys_slices k2
    obtain ⟨r3, s3, t3, rfl⟩ := keys_slices k3
    obtain ⟨r4, s4, t4, rfl⟩ := keys_slices k4
    exact ⟨r1, s1, t1, r2, s2, t2, r3, s3, t3, r4, s4, t4, 0, rfl, hb, .inr ⟨x, rfl, rfl, k1, k2, k3, k4⟩⟩
/-- The keys so far, in a block. -/
def XAt (wr : World) (xb : Nat) (a b c d : List Ky) : Prop := ∃ x1 y1 z1 x2 y2 z2 x3 y3 z3 x4 y4 z4, wr.heap[xb]? = some (.cells #[.slice x1 y1 z1, .slice x2 y2 z2, .slice x3 y3 z3, .slice x4 y4 z4] 24 (0, 0)) ∧ KV wr (.slice x1 y1 z1) a ∧ KV wr (.slice x2 y2 z2) b ∧ KV wr (.slice x3 y3 z3) c ∧ KV wr (.slice x4 y4 z4) d
def Few (a b c d : List Ky) : Prop := a.length + b.length ≤ 5864062014805 ∧ c.length + d.length ≤ 5864062014805
theorem few_upd {a b c d : List Ky} {rs : List Rw} {x : List Ky × List Ky × List Ky × List Ky} {w : World} {p : Option Addr} {n : Nat} (h : updS a b c d rs = some x) (hR : RS w p n rs) : Few x.1 x.2.1 x.2.2.1 x.2.2.2 := by
  have h1 := upd_lens h
  have h2 := hR.len
  have h3 := hR.room
  exact ⟨by omega, by omega⟩
def Posts (w' : World) (r1 : Option Addr) (s1 t1 : Nat) (r2 : Option Addr) (s2 t2 : Nat) (r3 : Option Addr) (s3 t3 : Nat) (r4 : Option Addr) (s4 t4 : Nat) (er : Int) (r : Option (List Ky × List Ky × List Ky × List Ky)) : Prop :=
  (r = none ∧ er = 190 ∧ KV w' (.slice r1 s1 t1) [] ∧ KV w' (.slice r2 s2 t2) [] ∧ KV w' (.slice r3 s3 t3) [] ∧ KV w' (.slice r4 s4 t4) []) ∨ ∃ x, r = some x ∧ er = 0 ∧ KV w' (.slice r1 s1 t1) x.1 ∧ KV w' (.slice r2 s2 t2) x.2.1 ∧ KV w' (.slice r3 s3 t3) x.2.2.1 ∧ KV w' (.slice r4 s4 t4) x.2.2.2
theorem Posts.below {w w' : World} {r1 : Option Addr} {s1 t1 : Nat} {r2 : Option Addr} {s2 t2 : Nat} {r3 : Option Addr} {s3 t3 : Nat} {r4 : Option Addr} {s4 t4 : Nat} {er : Int} {r : Option (List Ky × List Ky × List Ky × List Ky)} (h : Posts w r1 s1 t1 r2 s2 t2 r3 s3 t3 r4 s4 t4 er r) (hb : Below w.heap.size w w') : Posts w' r1 s1 t1 r2 s2 t2 r3 s3 t3 r4 s4 t4 er r := by
  rcases h with ⟨h1, h2, k1, k2, k3, k4⟩ | ⟨x, h1, h2, k1, k2, k3, k4⟩
  · exact .inl ⟨h1, h2, k1.below hb, k2.below hb, k3.below hb, k4.below hb⟩
  · exact .inr ⟨x, h1, h2, k1.below hb, k2.below hb, k3.below hb, k4.below hb⟩
theorem Posts.store {w w' : World} {r1 : Option Addr} {s1 t1 : Nat} {r2 : Option Addr} {s2 t2 : Nat} {r3 : Option Addr} {s3 t3 : Nat} {r4 : Option Addr} {s4 t4 : Nat} {er : Int} {r : Option (List Ky × List Ky × List Ky × List Ky)} {g : Nat} (h : Posts w r1 s1 t1 r2 s2 t2 r3 s3 t3 r4 s4 t4 er r) (hg : w.heap[g]? = some (.cells nilK 24 (0, 0))) (hs : ∀ k, k ≠ g → w'.heap[k]? = w.heap[k]?) : Posts w' r1 s1 t1 r2 s2 t2 r3 s3 t3 r4 s4 t4 er r := by
  rcases h with ⟨h1, h2, k1, k2, k3, k4⟩ | ⟨x, h1, h2, k1, k2, k3, k4⟩
  · exact .inl ⟨h1, h2, k1.store hg hs, k2.store hg hs, k3.store hg hs, k4.store hg hs⟩
  · exact .inr ⟨x, h1, h2, k1.store hg hs, k2.store hg hs, k3.store hg hs, k4.store hg hs⟩
theorem four_at {e1 : Option Addr} {f1 g1 : Nat} {e2 : Option Addr} {f2 g2 : Nat} {e3 : Option Addr} {f3 g3 : Nat} {e4 : Option Addr} {f4 g4 : Nat} {i : Nat} {s : ByteArray} (h : (#[Value.slice e1 f1 g1, .slice e2 f2 g2, .slice e3 f3 g3, .slice e4 f4 g4] : Array Value)[i]? = some (.string s)) : False := by
  match i, h with
  | 0, h | 1, h | 2, h | 3, h => simp at h
  | i + 4, h => simp at h
theorem KV.store2 {W W' : World} {v : Value} {A : List Ky} {g : Nat} {e1 : Option Addr} {f1 g1 : Nat} {e2 : Option Addr} {f2 g2 : Nat} {e3 : Option Addr} {f3 g3 : Nat} {e4 : Option Addr} {f4 g4 : Nat} (h : KV W v A) (hg : W.heap[g]? = some (.cells #[.slice e1 f1 g1, .slice e2 f2 g2, .slice e3 f3 g3, .slice e4 f4 g4] 24 (0, 0))) (hs : ∀ k, k ≠ g → W'.heap[k]? = W.heap[k]?) : KV W' v A := by
  obtain ⟨a, n, c, e, hc, k⟩ := h
  refine ⟨a, n, c, e, hc, k.len, k.room, k.short, ?_⟩
  rcases k.cells with h0 | ⟨b, off, rfl, hcell⟩
  · exact .inl h0
  · refine .inr ⟨b, off, rfl, fun i t hi => ?_⟩
    obtain ⟨c0, c1⟩ := hcell i t hi
    have hne : b ≠ g := fun e => by
      subst e
      rw [cell_row hg] at c0
      exact four_at c0
    have key : ∀ o, W'.cell? ⟨b, o, none⟩ = W.cell? ⟨b, o, none⟩ := fun o => by unfold World.cell?; simp only [hs b hne]
    exact ⟨(key _).trans c0, (key _).trans c1⟩
theorem XAt.below {w w' : World} {xb : Nat} {a b c d : List Ky} (h : XAt w xb a b c d) (hb : Below w.heap.size w w') : XAt w' xb a b c d := by
  obtain ⟨x1, y1, z1, x2, y2, z2, x3, y3, z3, x4, y4, z4, h0, k1, k2, k3, k4⟩ := h
  exact ⟨x1, y1, z1, x2, y2, z2, x3, y3, z3, x4, y4, z4, (hb.block _ (lt_of_heap h0)).trans h0, k1.below hb, k2.below hb, k3.below hb, k4.below hb⟩
set_option linter.unusedSimpArgs false in
set_option maxRecDepth 20000 in
set_option maxHeartbeats 8000000 in
theorem updates_any (v1 v2 v3 v4 : Value) (a b c d : List Ky) (la : Option Addr) (n cL : Nat) (ls : List (List Rw)) (w : World) (h1 : KV w v1 a) (h2 : KV w v2 b) (h3 : KV w v3 c) (h4 : KV w v4 d) (hL : RL w la n ls) (hf : Few a b c d) :
    Calls Try.prog 3 #[.agg #[v1, v2, v3, v4], .slice la n cL] w fun e w' => e = .returned (.bool true) ∧ Below w.heap.size w w' := by
  have CH1 : Hid (∀ W, Below w.heap.size w W → Calls Try.prog 8 #[.agg #[v1, v2, v3, v4]] W fun e w' => e = .returned (.int .i64 (chkE a b c d)) ∧ Below W.heap.size W w') := fun W hW => check_any _ _ _ _ a b c d W (h1.below hW) (h2.below hW) (h3.below hW) (h4.below hW)
  have CH2 : Hid (∀ W, Below w.heap.size w W → Calls Try.prog 9 #[.agg #[v1, v2, v3, v4]] W fun e w' => e = .returned (.int .i64 (chkE a b c d)) ∧ Below W.heap.size W w') := fun W hW => rcheck_any _ _ _ _ a b c d W (h1.below hW) (h2.below hW) (h3.below hW) (h4.below hW) hf.1 hf.2
  obtain ⟨x1, y1, z1, rfl⟩ := keys_slices h1
  obtain ⟨x2, y2, z2, rfl⟩ := keys_slices h2
  obtain ⟨x3, y3, z3, rfl⟩ := keys_slices h3
  obtain ⟨x4, y4, z4, rfl⟩ := keys_slices h4
  have K1 : Hid (KV w (.slice x1 y1 z1) a) := h1
  have K2 : Hid (KV w (.slice x2 y2 z2) b) := h2
  have K3 : Hid (KV w (.slice x3 y3 z3) c) := h3
  have K4 : Hid (KV w (.slice x4 y4 z4) d) := h4
  have hln := hL.len
  have hlr := hL.room
  have HL : Hid _ := hL
  have HFW : Hid _ := hf
  have HBX : Hid _ := heap_alloc_new w (.cells #[.slice x1 y1 z1, .slice x2 y2 z2, .slice x3 y3 z3, .slice x4 y4 z4] 24)
  clear h1 h2 h3 h4 hL hf
  go_enter Try.func3, Try.ntmps3
  go_wp2_with fail
  have HSW : Hid (∀ V, Below (w.heap.size + 1) (w.alloc (.cells #[.slice x1 y1 z1, .slice x2 y2 z2, .slice x3 y3 z3, .slice x4 y4 z4] 24)) V → V.heap[w.heap.size]? = some (.cells #[.slice x1 y1 z1, .slice x2 y2 z2, .slice x3 y3 z3, .slice x4 y4 z4] 24 (0, 0)) ∧ Below w.heap.size w V) := fun V hV => ⟨(hV.block _ (by omega)).trans HBX.out, (below1 _ _).trans (hV.mono (by omega))⟩
  refine wp_region_held_drew (S := (fun V => V.heap[w.heap.size]? = some (.cells #[.slice x1 y1 z1, .slice x2 y2 z2, .slice x3 y3 z3, .slice x4 y4 z4] 24 (0, 0)))) (by kernel_rfl) ?_ (fun hHeld => ?_)
  · exact HBX.out
  refine wpAnyH_ready (rs := [0]) (by kernel_rfl) (by simp) ?_
  refine AllReadyH.cons (o := _) rfl (fun K hK => ?_) AllReadyH.nil
  go_simp
  refine (lives_any _).mono ?_
  rintro e W1 ⟨rfl, hb1⟩
  have B1 : Hid (Below (w.heap.size + 1) (w.alloc (.cells #[.slice x1 y1 z1, .slice x2 y2 z2, .slice x3 y3 z3, .slice x4 y4 z4] 24)) W1) := (Below.refl _ _).drew.trans (hb1.mono (by simp))
  clear hb1
  go_wp2_with fail
  refine hK.out _ _ ((HSW.out _ B1.out).1) (fun hHeld2 => ?_)
  clear hK K hHeld
  have hHeld := hHeld2
  clear hHeld2
  try simp only [List.getElem_toArray, List.getElem_cons_zero, List.getElem_cons_succ, Act.put, List.setIfInBounds_toArray, List.set_cons_zero, List.set_cons_succ]
  refine wpAnyH_take (i := 1) (v := ?_) rfl (by kernel_rfl) (by kernel_rfl) (by kernel_rfl) (fun _ _ _ h => h) (Or.inl ⟨by rfl, ?_⟩) (by assumption) ?_
  rotate_left
  · (intro w hSw; (try dsimp only at hSw); go_simp; try with_reducible rfl)
  try simp only [List.getElem_toArray, List.getElem_cons_zero, List.getElem_cons_succ, Act.put, List.setIfInBounds_toArray, List.set_cons_zero, List.set_cons_succ]
  refine wpAnyH_take (i := 2) (v := ?_) rfl (by kernel_rfl) (by kernel_rfl) (by kernel_rfl) (fun _ _ _ h => h) (Or.inl ⟨by rfl, ?_⟩) (by assumption) ?_
  rotate_left
  · (intro w hSw; (try dsimp only at hSw); go_simp; try with_reducible rfl)
  try simp only [List.getElem_toArray, List.getElem_cons_zero, List.getElem_cons_succ, Act.put, List.setIfInBounds_toArray, List.set_cons_zero, List.set_cons_succ]
  refine wpAnyH_take (i := 3) (v := .agg #[.slice x1 y1 z1, .slice x2 y2 z2, .slice x3 y3 z3, .slice x4 y4 z4]) rfl (by kernel_rfl) (by kernel_rfl) (by kernel_rfl) (fun _ _ _ h => h) (yields_loadR (by rfl) 24 _ rfl w.heap.size rfl 24 _ _ (fun _ h => h) Try.underlying24 rfl size4k) (by assumption) ?_
  try simp only [List.getElem_toArray, List.getElem_cons_zero, List.getElem_cons_succ, Act.put, List.setIfInBounds_toArray, List.set_cons_zero, List.set_cons_succ]
  refine wpAnyH_take (i := 5) (v := .agg #[.slice x1 y1 z1, .slice x2 y2 z2, .slice x3 y3 z3, .slice x4 y4 z4]) rfl (by kernel_rfl) (by kernel_rfl) (by kernel_rfl) (fun _ _ _ h => h) (yields_loadR (by rfl) 24 _ rfl w.heap.size rfl 24 _ _ (fun _ h => h) Try.underlying24 rfl size4k) (by assumption) ?_
  try simp only [List.getElem_toArray, List.getElem_cons_zero, List.getElem_cons_succ, Act.put, List.setIfInBounds_toArray, List.set_cons_zero, List.set_cons_succ]
  refine wpAnyH_ready (rs := [4]) (by kernel_rfl) (by simp) ?_
  refine AllReadyH.cons (o := _) rfl (fun K hK => ?_) AllReadyH.nil
  go_simp
  refine (CH1.out _ (HSW.out _ B1.out).2).mono ?_
  rintro e W2 ⟨rfl, hb2⟩
  have B2 : Hid (Below (w.heap.size + 1) (w.alloc (.cells #[.slice x1 y1 z1, .slice x2 y2 z2, .slice x3 y3 z3, .slice x4 y4 z4] 24)) W2) := B1.out.trans (hb2.mono (by have := B1.out.size; simpa using this))
  clear hb2
  go_wp2_with fail
  refine hK.out _ _ ((HSW.out _ B2.out).1) (fun hHeld2 => ?_)
  clear hK K hHeld
  have hHeld := hHeld2
  clear hHeld2
  try simp only [List.getElem_toArray, List.getElem_cons_zero, List.getElem_cons_succ, Act.put, List.setIfInBounds_toArray, List.set_cons_zero, List.set_cons_succ]
  refine wpAnyH_ready (rs := [6]) (by kernel_rfl) (by simp) ?_
  refine AllReadyH.cons (o := _) rfl (fun K hK => ?_) AllReadyH.nil
  go_simp
  refine (CH2.out _ (HSW.out _ B2.out).2).mono ?_
  rintro e W3 ⟨rfl, hb3⟩
  have B3 : Hid (Below (w.heap.size + 1) (w.alloc (.cells #[.slice x1 y1 z1, .slice x2 y2 z2, .slice x3 y3 z3, .slice x4 y4 z4] 24)) W3) := B2.out.trans (hb3.mono (by have := B2.out.size; simpa using this))
  have BW3 : Hid _ := (HSW.out _ B3.out).2
  have HX3 : Hid _ := (HSW.out _ B3.out).1
  clear hb3
  go_wp2_with fail
  refine hK.out _ _ ((HSW.out _ B3.out).1) (fun hHeld2 => ?_)
  clear hK K hHeld
  have hHeld := hHeld2
  clear hHeld2
  try simp only [List.getElem_toArray, List.getElem_cons_zero, List.getElem_cons_succ, Act.put, List.setIfInBounds_toArray, List.set_cons_zero, List.set_cons_succ]
  refine wpAnyH_take (i := 7) (v := ?_) rfl (by kernel_rfl) (by kernel_rfl) (by kernel_rfl) (fun _ _ _ h => h) (Or.inl ⟨by rfl, ?_⟩) (by assumption) ?_
  rotate_left
  · (intro w hSw; (try dsimp only at hSw); go_simp; try with_reducible rfl)
  try simp only [List.getElem_toArray, List.getElem_cons_zero, List.getElem_cons_succ, Act.put, List.setIfInBounds_toArray, List.set_cons_zero, List.set_cons_succ]
  refine wpAnyH_take (i := 8) (v := ?_) rfl (by kernel_rfl) (by kernel_rfl) (by kernel_rfl) (fun _ _ _ h => h) (Or.inl ⟨by rfl, ?_⟩) (by assumption) ?_
  rotate_left
  · (intro w hSw; (try dsimp only at hSw); go_simp; try with_reducible rfl)
  try simp only [List.getElem_toArray, List.getElem_cons_zero, List.getElem_cons_succ, Act.put, List.setIfInBounds_toArray, List.set_cons_zero, List.set_cons_succ]
  refine wpAnyH_done (by kernel_rfl) ?_ _
  clear hHeld
  go_wp2_with (first
    | refine wpList_load_row rfl 24 _ rfl w.heap.size rfl 24 #[.slice x1 y1 z1, .slice x2 y2 z2, .slice x3 y3 z3, .slice x4 y4 z4] (0, 0) _ HX3.out Try.underlying24 rfl size4k ?_
    | fail)
  have HXA : Hid (XAt (W3.alloc (.cells #[.slice x1 y1 z1, .slice x2 y2 z2, .slice x3 y3 z3, .slice x4 y4 z4] 24)) W3.heap.size a b c d) := ⟨x1, y1, z1, x2, y2, z2, x3, y3, z3, x4, y4, z4, heap_alloc_new _ _, KV.below K1.out (BW3.out.trans ((below1 _ _).mono BW3.out.size)), KV.below K2.out (BW3.out.trans ((below1 _ _).mono BW3.out.size)), KV.below K3.out (BW3.out.trans ((below1 _ _).mono BW3.out.size)), KV.below K4.out (BW3.out.trans ((below1 _ _).mono BW3.out.size))⟩
  have HBL : Hid (Below w.heap.size w (W3.alloc (.cells #[.slice x1 y1 z1, .slice x2 y2 z2, .slice x3 y3 z3, .slice x4 y4 z4] 24))) := BW3.out.trans ((below1 _ _).mono BW3.out.size)
  have HXB : Hid (w.heap.size ≤ W3.heap.size) := BW3.out.size
  go_loopw [6] (fun i wr => ∃ (k : Nat) (A B C D : List Ky), k ≤ n ∧ i = .int .i64 k ∧ Hid (XAt wr W3.heap.size A B C D) ∧ Hid (Few A B C D) ∧ Hid (Below w.heap.size w wr)) (fun i _ => n - (intOf i).toNat)
  case atStart => exact ⟨0, a, b, c, d, by omega, rfl, HXA, HFW, HBL⟩
  case round =>
    obtain ⟨k, A, B, C, D, hk, rfl, HX, HF, HB⟩ := hrel
    by_cases hlt : k < n
    · have hkI : (k : Int) < n := by omega
      have hk0 : (0 : Int) ≤ k := by omega
      obtain ⟨e1, f1, g1, e2, f2, g2, e3, f3, g3, e4, f4, g4, hxb, k1, k2, k3, k4⟩ := HX.out
      obtain ⟨rk, hrk⟩ := getK (os := ls) (k := k) (by omega)
      obtain ⟨lb, off, ra, rm, rc, rfl, cl0, hmc, hRS⟩ := HL.out.at_ k rk hrk
      have hlb := cell_lt cl0
      have cl := (HB.out.cell (p := ⟨lb, off + k, none⟩) hlb).trans cl0
      have HXK : Hid _ := hxb
      have HRS : Hid (RS wr ra rm rk) := hRS.below HB.out
      have UPp : Hid (∀ W pa pc, Below wr.heap.size wr W → RS W pa rm rk → Calls Try.prog 10 #[.agg #[.slice e1 f1 g1, .slice e2 f2 g2, .slice e3 f3 g3, .slice e4 f4 g4], .slice pa rm pc] W fun e w' => UpdPost W (updS A B C D rk) e w') := fun W pa pc hW hr => update_any _ _ _ _ A B C D _ _ _ rk W (k1.below hW) (k2.below hW) (k3.below hW) (k4.below hW) hr
      have UPr : Hid (∀ W, Below wr.heap.size wr W → Calls Try.prog 11 #[.agg #[.slice e1 f1 g1, .slice e2 f2 g2, .slice e3 f3 g3, .slice e4 f4 g4], .slice ra rm rc] W fun e w' => UpdPost W (updS A B C D rk) e w') := fun W hW => rupdate_any _ _ _ _ A B C D _ _ _ rk W (k1.below hW) (k2.below hW) (k3.below hW) (k4.below hW) (HRS.out.below hW) HF.out.1 HF.out.2
      have hlbw : lb < wr.heap.size := Nat.lt_of_lt_of_le hlb HB.out.size
      have hxw : W3.heap.size < wr.heap.size := lt_of_heap hxb
      have HSV : Hid (∀ V, Below wr.heap.size wr V → V.heap[W3.heap.size]? = some (.cells #[.slice e1 f1 g1, .slice e2 f2 g2, .slice e3 f3 g3, .slice e4 f4 g4] 24 (0, 0)) ∧ V.cell? ⟨lb, off + k, none⟩ = some (.slice ra rm rc)) := fun V hV => ⟨(hV.block _ hxw).trans HXK.out, (hV.cell (p := ⟨lb, off + k, none⟩) hlbw).trans cl⟩
      clear hrk cl0 hRS hlb k1 k2 k3 k4 hxb
      rename_i Q3 K3 hK3
      go_wp2_with fail
      have HB0 : Hid (Below wr.heap.size wr wr.drew) := (Below.refl _ _).drew
      refine wp_region_held_drew (S := (fun V => V.heap[W3.heap.size]? = some (.cells #[.slice e1 f1 g1, .slice e2 f2 g2, .slice e3 f3 g3, .slice e4 f4 g4] 24 (0, 0)) ∧ V.cell? ⟨lb, off + k, none⟩ = some (.slice ra rm rc))) (by kernel_rfl) ?_ (fun hHeld => ?_)
      · exact HSV.out _ HB0.out
      refine wpAnyH_take (i := 0) (v := .agg #[.slice e1 f1 g1, .slice e2 f2 g2, .slice e3 f3 g3, .slice e4 f4 g4]) rfl (by kernel_rfl) (by kernel_rfl) (by kernel_rfl) (fun _ _ _ h => h) (yields_loadR (by rfl) 24 _ rfl W3.heap.size rfl 24 _ _ (fun _ h => h.1) Try.underlying24 rfl size4k) (by assumption) ?_
      try simp only [List.getElem_toArray, List.getElem_cons_zero, List.getElem_cons_succ, Act.put, List.setIfInBounds_toArray, List.set_cons_zero, List.set_cons_succ]
      refine wpAnyH_take (i := 2) (v := ?_) rfl (by kernel_rfl) (by kernel_rfl) (by kernel_rfl) (fun _ _ _ h => h) (Or.inl ⟨by rfl, ?_⟩) (by assumption) ?_
      rotate_left
      · (intro w hSw; (try dsimp only at hSw); go_simp; try with_reducible rfl)
      try simp only [List.getElem_toArray, List.getElem_cons_zero, List.getElem_cons_succ, Act.put, List.setIfInBounds_toArray, List.set_cons_zero, List.set_cons_succ]
      refine wpAnyH_take (i := 3) (v := ?_) rfl (by kernel_rfl) (by kernel_rfl) (by kernel_rfl) (fun _ _ _ h => h) (Or.inl ⟨by rfl, ?_⟩) (by assumption) ?_
      rotate_left
      · (intro w hSw; (try dsimp only at hSw); go_simp; try with_reducible rfl)
      try simp only [List.getElem_toArray, List.getElem_cons_zero, List.getElem_cons_succ, Act.put, List.setIfInBounds_toArray, List.set_cons_zero, List.set_cons_succ]
      refine wpAnyH_take (i := 4) (v := ?_) rfl (by kernel_rfl) (by kernel_rfl) (by kernel_rfl) (fun _ _ _ h => h) (Or.inl ⟨by rfl, ?_⟩) (by assumption) ?_
      rotate_left
      · (intro w hSw; (try dsimp only at hSw); go_simp; try with_reducible rfl)
      try simp only [List.getElem_toArray, List.getElem_cons_zero, List.getElem_cons_succ, Act.put, List.setIfInBounds_toArray, List.set_cons_zero, List.set_cons_succ]
      refine wpAnyH_take (i := 5) (v := ?_) rfl (by kernel_rfl) (by kernel_rfl) (by kernel_rfl) (fun _ _ _ h => h) (Or.inl ⟨by rfl, ?_⟩) (by assumption) ?_
      rotate_left
      · (intro w hSw; (try dsimp only at hSw); go_simp; try with_reducible rfl)
      try simp only [List.getElem_toArray, List.getElem_cons_zero, List.getElem_cons_succ, Act.put, List.setIfInBounds_toArray, List.set_cons_zero, List.set_cons_succ]
      refine wpAnyH_ready (rs := [1, 11]) (by kernel_rfl) (by simp) ?_
      refine AllReadyH.cons (o := _) rfl (fun K hK => ?_) (AllReadyH.cons (o := _) rfl (fun K hK => ?_) AllReadyH.nil)
      · skip
        go_simp
        have HBx01 : Hid (Below wr.heap.size wr (wr.drew.alloc (.cells #[] 47))) := HB0.out.alloc HB0.out.size _
        have hsz01 : wr.drew.heap.size = wr.heap.size := by first | rfl | simp
        have HEM : Hid ((wr.drew.alloc (.cells #[] 47)).ownsRow (wr.heap.size) 47 13 (.slice (some ⟨wr.heap.size, 0, none⟩) 0 0) 0 []) := by
          have h9 := empty_r wr.drew wr.drew.heap.size (Nat.le_refl _)
          rw [hsz01] at h9
          exact h9
        refine hK.out _ _ (HSV.out _ HBx01.out) (fun hHeld2 => ?_)
        clear hK K hHeld
        have hHeld := hHeld2
        clear hHeld2
        try simp only [List.getElem_toArray, List.getElem_cons_zero, List.getElem_cons_succ, Act.put, List.setIfInBounds_toArray, List.set_cons_zero, List.set_cons_succ]
        refine wpAnyH_ready (rs := [6, 11]) (by kernel_rfl) (by simp) ?_
        refine AllReadyH.cons (o := _) rfl (fun K hK => ?_) (AllReadyH.cons (o := _) rfl (fun K hK => ?_) AllReadyH.nil)
        · skip
          have hem9 : wr.heap.size ≤ (wr.drew.alloc (.cells #[] 47)).heap.size := by have := HBx01.out.size; first | omega | (simp; omega) | simp
          have hwe9 : wr.heap.size ≤ wr.heap.size := by omega
          obtain ⟨pa9, pc9, V1, rr9, hrs9, hbe9, hfr9⟩ := copy_rows _ (wr.heap.size) HEM.out _ rm rc rk (HRS.out.below HBx01.out) hem9
          have HBc : Hid (Below wr.heap.size wr V1) := HBx01.out.trans (hbe9.mono hwe9)
          have HRC : Hid (RS V1 pa9 rm rk) := hrs9
          refine wp_append_run _ _ 31 rfl _ _ rfl rfl _ rr9 ?_
          clear rr9 hrs9 hbe9 hfr9 hem9 hwe9
          refine hK.out _ _ (HSV.out _ HBc.out) (fun hHeld2 => ?_)
          clear hK K hHeld
          have hHeld := hHeld2
          clear hHeld2
          try simp only [List.getElem_toArray, List.getElem_cons_zero, List.getElem_cons_succ, Act.put, List.setIfInBounds_toArray, List.set_cons_zero, List.set_cons_succ]
          refine wpAnyH_ready (rs := [7, 11]) (by kernel_rfl) (by simp) ?_
          refine AllReadyH.cons (o := _) rfl (fun K hK => ?_) (AllReadyH.cons (o := _) rfl (fun K hK => ?_) AllReadyH.nil)
          · skip
            go_simp
            refine (UPp.out _ _ _ HBc.out HRC.out).mono ?_
            rintro e V2 hpost
            obtain ⟨r1, s1, t1, r2, s2, t2, r3, s3, t3, r4, s4, t4, er, rfl, hb9, hq9⟩ := agg_tuple hpost
            have HBd : Hid (Below wr.heap.size wr V2) := HBc.out.trans (hb9.mono HBc.out.size)
            have HQ : Hid (Posts V2 r1 s1 t1 r2 s2 t2 r3 s3 t3 r4 s4 t4 er (updS A B C D rk)) := hq9
            clear hpost hb9 hq9
            go_wp2_with fail
            refine hK.out _ _ (HSV.out _ HBd.out) (fun hHeld2 => ?_)
            clear hK K hHeld
            have hHeld := hHeld2
            clear hHeld2
            try simp only [List.getElem_toArray, List.getElem_cons_zero, List.getElem_cons_succ, Act.put, List.setIfInBounds_toArray, List.set_cons_zero, List.set_cons_succ]
            refine wpAnyH_take (i := 8) (v := ?_) rfl (by kernel_rfl) (by kernel_rfl) (by kernel_rfl) (fun _ _ _ h => h) (Or.inl ⟨by rfl, ?_⟩) (by assumption) ?_
            rotate_left
            · (intro w hSw; (try dsimp only at hSw); go_simp; try with_reducible rfl)
            try simp only [List.getElem_toArray, List.getElem_cons_zero, List.getElem_cons_succ, Act.put, List.setIfInBounds_toArray, List.set_cons_zero, List.set_cons_succ]
            refine wpAnyH_take (i := 9) (v := ?_) rfl (by kernel_rfl) (by kernel_rfl) (by kernel_rfl) (fun _ _ _ h => h) (Or.inl ⟨by rfl, ?_⟩) (by assumption) ?_
            rotate_left
            · (intro w hSw; (try dsimp only at hSw); go_simp; try with_reducible rfl)
            try simp only [List.getElem_toArray, List.getElem_cons_zero, List.getElem_cons_succ, Act.put, List.setIfInBounds_toArray, List.set_cons_zero, List.set_cons_succ]
            refine wpAnyH_take (i := 10) (v := ?_) rfl (by kernel_rfl) (by kernel_rfl) (by kernel_rfl) (fun _ _ _ h => h) (Or.inl ⟨by rfl, ?_⟩) (by assumption) ?_
            rotate_left
            · (intro w hSw; (try dsimp only at hSw); go_simp; try with_reducible rfl)
            try simp only [List.getElem_toArray, List.getElem_cons_zero, List.getElem_cons_succ, Act.put, List.setIfInBounds_toArray, List.set_cons_zero, List.set_cons_succ]
            refine wpAnyH_ready (rs := [11]) (by kernel_rfl) (by simp) ?_
            refine AllReadyH.cons (o := _) rfl (fun K hK => ?_) AllReadyH.nil
            go_simp
            have HBx311 : Hid (Below wr.heap.size wr (V2.alloc (.cells #[.slice none 0 0, .slice none 0 0, .slice none 0 0, .slice none 0 0] 24))) := HBd.out.alloc HBd.out.size _
            have hsz311 : V2.heap.size = V2.heap.size := by first | rfl | simp
            have HAL : Hid ((V2.alloc (.cells #[.slice none 0 0, .slice none 0 0, .slice none 0 0, .slice none 0 0] 24)).heap[V2.heap.size]? = some (.cells nilK 24 (0, 0))) := by
              have h9 := heap_alloc_new V2 (.cells #[.slice none 0 0, .slice none 0 0, .slice none 0 0, .slice none 0 0] 24)
              rw [hsz311] at h9
              exact h9
            have HQ2 : Hid (Posts (V2.alloc (.cells #[.slice none 0 0, .slice none 0 0, .slice none 0 0, .slice none 0 0] 24)) r1 s1 t1 r2 s2 t2 r3 s3 t3 r4 s4 t4 er (updS A B C D rk)) := Posts.below HQ.out (below1 _ _)
            refine hK.out _ _ (HSV.out _ HBx311.out) (fun hHeld2 => ?_)
            clear hK K hHeld
            have hHeld := hHeld2
            clear hHeld2
            try simp only [List.getElem_toArray, List.getElem_cons_zero, List.getElem_cons_succ, Act.put, List.setIfInBounds_toArray, List.set_cons_zero, List.set_cons_succ]
            refine wpAnyH_ready (rs := [12]) (by kernel_rfl) (by simp) ?_
            refine AllReadyH.cons (o := _) rfl (fun K hK => ?_) AllReadyH.nil
            refine wp_store_row 24 _ _ rfl (V2.heap.size) nilK #[.slice r1 s1 t1, .slice r2 s2 t2, .slice r3 s3 t3, .slice r4 s4 t4] 24 rfl rfl HAL.out size4k rfl (by kernel_rfl) ?_
            intro Wz z1 z2 z3 z4
            have HPZ : Hid (Wz.heap[V2.heap.size]? = some (.cells #[.slice r1 s1 t1, .slice r2 s2 t2, .slice r3 s3 t3, .slice r4 s4 t4] 24 (0, 0))) := z1
            have HAW : Hid (wr.heap.size ≤ V2.heap.size) := (by have := HB0.out.size; first | omega | (have := HBc.out.size; omega) | (have := HBd.out.size; omega) : wr.heap.size ≤ V2.heap.size)
            have HBZ : Hid (Below wr.heap.size wr Wz) := HBx311.out.trans (z4.mono HAW.out)
            have HQZ : Hid (Posts Wz r1 s1 t1 r2 s2 t2 r3 s3 t3 r4 s4 t4 er (updS A B C D rk)) := Posts.store HQ2.out HAL.out z2
            refine hK.out _ _ (HSV.out _ HBZ.out) (fun hHeld2 => ?_)
            clear hK K hHeld z1 z2 z3 z4
            have hHeld := hHeld2
            clear hHeld2
            try simp only [List.getElem_toArray, List.getElem_cons_zero, List.getElem_cons_succ, Act.put, List.setIfInBounds_toArray, List.set_cons_zero, List.set_cons_succ]
            refine wpAnyH_take (i := 13) (v := ?_) rfl (by kernel_rfl) (by kernel_rfl) (by kernel_rfl) (fun _ _ _ h => h) (Or.inl ⟨by rfl, ?_⟩) (by assumption) ?_
            rotate_left
            · (intro w hSw; (try dsimp only at hSw); go_simp; try with_reducible rfl)
            try simp only [List.getElem_toArray, List.getElem_cons_zero, List.getElem_cons_succ, Act.put, List.setIfInBounds_toArray, List.set_cons_zero, List.set_cons_succ]
            refine wpAnyH_done (by kernel_rfl) ?_ _
            clear hHeld
            have HSZ : Hid (∀ V, Below Wz.heap.size Wz V → V.heap[W3.heap.size]? = some (.cells #[.slice e1 f1 g1, .slice e2 f2 g2, .slice e3 f3 g3, .slice e4 f4 g4] 24 (0, 0)) ∧ V.cell? ⟨lb, off + k, none⟩ = some (.slice ra rm rc)) := fun V hV => HSV.out V (HBZ.out.trans (hV.mono HBZ.out.size))
            have HBZ0 : Hid (Below Wz.heap.size Wz Wz.drew) := (Below.refl _ _).drew
            go_wp2_with fail
            refine wp_region_held_drew (S := (fun V => V.heap[W3.heap.size]? = some (.cells #[.slice e1 f1 g1, .slice e2 f2 g2, .slice e3 f3 g3, .slice e4 f4 g4] 24 (0, 0)) ∧ V.cell? ⟨lb, off + k, none⟩ = some (.slice ra rm rc))) (by kernel_rfl) ?_ (fun hHeld => ?_)
            · exact HSZ.out _ HBZ0.out
            refine wpAnyH_take (i := 0) (v := .agg #[.slice e1 f1 g1, .slice e2 f2 g2, .slice e3 f3 g3, .slice e4 f4 g4]) rfl (by kernel_rfl) (by kernel_rfl) (by kernel_rfl) (fun _ _ _ h => h) (yields_loadR (by rfl) 24 _ rfl W3.heap.size rfl 24 _ _ (fun _ h => h.1) Try.underlying24 rfl size4k) (by assumption) ?_
            try simp only [List.getElem_toArray, List.getElem_cons_zero, List.getElem_cons_succ, Act.put, List.setIfInBounds_toArray, List.set_cons_zero, List.set_cons_succ]
            refine wpAnyH_take (i := 1) (v := ?_) rfl (by kernel_rfl) (by kernel_rfl) (by kernel_rfl) (fun _ _ _ h => h) (Or.inl ⟨by rfl, ?_⟩) (by assumption) ?_
            rotate_left
            · (intro w hSw; (try dsimp only at hSw); go_simp; try with_reducible rfl)
            try simp only [List.getElem_toArray, List.getElem_cons_zero, List.getElem_cons_succ, Act.put, List.setIfInBounds_toArray, List.set_cons_zero, List.set_cons_succ]
            refine wpAnyH_take (i := 2) (v := ?_) rfl (by kernel_rfl) (by kernel_rfl) (by kernel_rfl) (fun _ _ _ h => h) (Or.inl ⟨by rfl, ?_⟩) (by assumption) ?_
            rotate_left
            · (intro w hSw; (try dsimp only at hSw); go_simp; try with_reducible rfl)
            try simp only [List.getElem_toArray, List.getElem_cons_zero, List.getElem_cons_succ, Act.put, List.setIfInBounds_toArray, List.set_cons_zero, List.set_cons_succ]
            refine wpAnyH_take (i := 3) (v := ?_) rfl (by kernel_rfl) (by kernel_rfl) (by kernel_rfl) (fun _ _ _ h => h) (Or.inl ⟨by rfl, ?_⟩) (by assumption) ?_
            rotate_left
            · (intro w hSw; (try dsimp only at hSw); go_simp; try with_reducible rfl)
            try simp only [List.getElem_toArray, List.getElem_cons_zero, List.getElem_cons_succ, Act.put, List.setIfInBounds_toArray, List.set_cons_zero, List.set_cons_succ]
            refine wpAnyH_take (i := 4) (v := ?_) rfl (by kernel_rfl) (by kernel_rfl) (by kernel_rfl) (fun _ _ _ h => h) (Or.inl ⟨by rfl, ?_⟩) (by assumption) ?_
            rotate_left
            · (intro w hSw; (try dsimp only at hSw); go_simp; try with_reducible rfl)
            try simp only [List.getElem_toArray, List.getElem_cons_zero, List.getElem_cons_succ, Act.put, List.setIfInBounds_toArray, List.set_cons_zero, List.set_cons_succ]
            refine wpAnyH_ready (rs := [5, 9]) (by kernel_rfl) (by simp) ?_
            refine AllReadyH.cons (o := _) rfl (fun K hK => ?_) (AllReadyH.cons (o := _) rfl (fun K hK => ?_) AllReadyH.nil)
            · skip
              go_simp
              refine (UPr.out _ (HBZ.out.trans (HBZ0.out.mono HBZ.out.size))).mono ?_
              rintro e V6 hpost
              obtain ⟨i1, j1, l1, i2, j2, l2, i3, j3, l3, i4, j4, l4, er2, rfl, hb9, hq9⟩ := agg_tuple hpost
              have HB6 : Hid (Below Wz.heap.size Wz V6) := HBZ0.out.trans (hb9.mono HBZ0.out.size)
              have HQ6 : Hid (Posts V6 i1 j1 l1 i2 j2 l2 i3 j3 l3 i4 j4 l4 er2 (updS A B C D rk)) := hq9
              clear hpost hb9 hq9
              go_wp2_with fail
              refine hK.out _ _ (HSZ.out _ HB6.out) (fun hHeld2 => ?_)
              clear hK K hHeld
              have hHeld := hHeld2
              clear hHeld2
              try simp only [List.getElem_toArray, List.getElem_cons_zero, List.getElem_cons_succ, Act.put, List.setIfInBounds_toArray, List.set_cons_zero, List.set_cons_succ]
              refine wpAnyH_take (i := 6) (v := ?_) rfl (by kernel_rfl) (by kernel_rfl) (by kernel_rfl) (fun _ _ _ h => h) (Or.inl ⟨by rfl, ?_⟩) (by assumption) ?_
              rotate_left
              · (intro w hSw; (try dsimp only at hSw); go_simp; try with_reducible rfl)
              try simp only [List.getElem_toArray, List.getElem_cons_zero, List.getElem_cons_succ, Act.put, List.setIfInBounds_toArray, List.set_cons_zero, List.set_cons_succ]
              refine wpAnyH_take (i := 7) (v := ?_) rfl (by kernel_rfl) (by kernel_rfl) (by kernel_rfl) (fun _ _ _ h => h) (Or.inl ⟨by rfl, ?_⟩) (by assumption) ?_
              rotate_left
              · (intro w hSw; (try dsimp only at hSw); go_simp; try with_reducible rfl)
              try simp only [List.getElem_toArray, List.getElem_cons_zero, List.getElem_cons_succ, Act.put, List.setIfInBounds_toArray, List.set_cons_zero, List.set_cons_succ]
              refine wpAnyH_take (i := 8) (v := ?_) rfl (by kernel_rfl) (by kernel_rfl) (by kernel_rfl) (fun _ _ _ h => h) (Or.inl ⟨by rfl, ?_⟩) (by assumption) ?_
              rotate_left
              · (intro w hSw; (try dsimp only at hSw); go_simp; try with_reducible rfl)
              try simp only [List.getElem_toArray, List.getElem_cons_zero, List.getElem_cons_succ, Act.put, List.setIfInBounds_toArray, List.set_cons_zero, List.set_cons_succ]
              refine wpAnyH_ready (rs := [9]) (by kernel_rfl) (by simp) ?_
              refine AllReadyH.cons (o := _) rfl (fun K hK => ?_) AllReadyH.nil
              go_simp
              have HB7 : Hid (Below Wz.heap.size Wz (V6.alloc (.cells #[.slice none 0 0, .slice none 0 0, .slice none 0 0, .slice none 0 0] 24))) := HB6.out.alloc HB6.out.size _
              have HA5 : Hid ((V6.alloc (.cells #[.slice none 0 0, .slice none 0 0, .slice none 0 0, .slice none 0 0] 24)).heap[V6.heap.size]? = some (.cells nilK 24 (0, 0))) := heap_alloc_new _ _
              have HQ7 : Hid (Posts (V6.alloc (.cells #[.slice none 0 0, .slice none 0 0, .slice none 0 0, .slice none 0 0] 24)) i1 j1 l1 i2 j2 l2 i3 j3 l3 i4 j4 l4 er2 (updS A B C D rk)) := Posts.below HQ6.out (below1 _ _)
              refine hK.out _ _ (HSZ.out _ HB7.out) (fun hHeld2 => ?_)
              clear hK K hHeld
              have hHeld := hHeld2
              clear hHeld2
              try simp only [List.getElem_toArray, List.getElem_cons_zero, List.getElem_cons_succ, Act.put, List.setIfInBounds_toArray, List.set_cons_zero, List.set_cons_succ]
              refine wpAnyH_ready (rs := [10]) (by kernel_rfl) (by simp) ?_
              refine AllReadyH.cons (o := _) rfl (fun K hK => ?_) AllReadyH.nil
              refine wp_store_row 24 _ _ rfl (V6.heap.size) nilK #[.slice i1 j1 l1, .slice i2 j2 l2, .slice i3 j3 l3, .slice i4 j4 l4] 24 rfl rfl HA5.out size4k rfl (by kernel_rfl) ?_
              intro Wy z1 z2 z3 z4
              have HPB : Hid (Wy.heap[V6.heap.size]? = some (.cells #[.slice i1 j1 l1, .slice i2 j2 l2, .slice i3 j3 l3, .slice i4 j4 l4] 24 (0, 0))) := z1
              have HPBW : Hid (Wz.heap.size ≤ V6.heap.size) := (by first | exact Nat.le_refl _ | exact HB6.out.size : Wz.heap.size ≤ V6.heap.size)
              have HBY : Hid (Below Wz.heap.size Wz Wy) := HB7.out.trans (z4.mono HPBW.out)
              have HQY : Hid (Posts Wy i1 j1 l1 i2 j2 l2 i3 j3 l3 i4 j4 l4 er2 (updS A B C D rk)) := Posts.store HQ7.out HA5.out z2
              have HPA : Hid (Wy.heap[V2.heap.size]? = some (.cells #[.slice r1 s1 t1, .slice r2 s2 t2, .slice r3 s3 t3, .slice r4 s4 t4] 24 (0, 0))) := (HBY.out.block _ (lt_of_heap HPZ.out)).trans HPZ.out
              have HQA : Hid (Posts Wy r1 s1 t1 r2 s2 t2 r3 s3 t3 r4 s4 t4 er (updS A B C D rk)) := Posts.below HQZ.out HBY.out
              refine hK.out _ _ (HSZ.out _ HBY.out) (fun hHeld2 => ?_)
              clear hK K hHeld z1 z2 z3 z4
              have hHeld := hHeld2
              clear hHeld2
              try simp only [List.getElem_toArray, List.getElem_cons_zero, List.getElem_cons_succ, Act.put, List.setIfInBounds_toArray, List.set_cons_zero, List.set_cons_succ]
              refine wpAnyH_take (i := 11) (v := ?_) rfl (by kernel_rfl) (by kernel_rfl) (by kernel_rfl) (fun _ _ _ h => h) (Or.inl ⟨by rfl, ?_⟩) (by assumption) ?_
              rotate_left
              · (intro w hSw; (try dsimp only at hSw); go_simp; try with_reducible rfl)
              try simp only [List.getElem_toArray, List.getElem_cons_zero, List.getElem_cons_succ, Act.put, List.setIfInBounds_toArray, List.set_cons_zero, List.set_cons_succ]
              refine wpAnyH_done (by kernel_rfl) ?_ _
              clear hHeld
              have HRY : Hid (Below wr.heap.size wr Wy) := HBZ.out.trans (HBY.out.mono HBZ.out.size)
              have HXY : Hid (XAt Wy W3.heap.size A B C D) := XAt.below HX.out HRY.out
              have HWY : Hid (Below w.heap.size w Wy) := HB.out.trans (HRY.out.mono HB.out.size)
              go_wp2_with (first
                | refine wpList_load_row rfl 24 _ rfl (V2.heap.size) rfl 24 #[.slice r1 s1 t1, .slice r2 s2 t2, .slice r3 s3 t3, .slice r4 s4 t4] (0, 0) _ HPA.out Try.underlying24 rfl size4k ?_
                | refine wpList_load_row rfl 24 _ rfl (V6.heap.size) rfl 24 #[.slice i1 j1 l1, .slice i2 j2 l2, .slice i3 j3 l3, .slice i4 j4 l4] (0, 0) _ HPB.out Try.underlying24 rfl size4k ?_
                | fail)
              rcases HQA.out with ⟨hn, rfl, k1, k2, k3, k4⟩ | ⟨x, hn, rfl, k1, k2, k3, k4⟩
              · rcases HQY.out with ⟨hn2, rfl, m1, m2, m3, m4⟩ | ⟨x2, hn2, _⟩
                · refine (same_eq _ _ _ _ _ _ _ _ [] [] [] [] _ k1 k2 k3 k4 m1 m2 m3 m4).mono ?_
                  rintro e W9 ⟨rfl, hb9⟩
                  have HX9 : Hid (XAt W9 W3.heap.size A B C D) := XAt.below HXY.out hb9
                  have HW9 : Hid (Below w.heap.size w W9) := HWY.out.trans (hb9.mono HWY.out.size)
                  clear hb9 k1 k2 k3 k4 m1 m2 m3 m4 hn hn2
                  go_wp2_with fail
                  go_roundw
                  case rel => exact ⟨k + 1, A, B, C, D, by omega, by go_num, HX9, HF, HW9⟩
                  case measure => simp [intOf]; omega
                · rw [hn] at hn2; cases hn2
              · rcases HQY.out with ⟨hn2, _⟩ | ⟨x2, hn2, rfl, m1, m2, m3, m4⟩
                · rw [hn] at hn2; cases hn2
                · obtain rfl : x = x2 := by rw [hn] at hn2; cases hn2; rfl
                  refine (same_eq _ _ _ _ _ _ _ _ _ _ _ _ _ k1 k2 k3 k4 m1 m2 m3 m4).mono ?_
                  rintro e W9 ⟨rfl, hb9⟩
                  have HW9 : Hid (Below w.heap.size w W9) := HWY.out.trans (hb9.mono HWY.out.size)
                  have HB9 : Hid (W9.heap[V6.heap.size]? = some (.cells #[.slice i1 j1 l1, .slice i2 j2 l2, .slice i3 j3 l3, .slice i4 j4 l4] 24 (0, 0))) := (hb9.block _ (lt_of_heap HPB.out)).trans HPB.out
                  have HE9 : Hid (W9.heap[W3.heap.size]? = some (.cells #[.slice e1 f1 g1, .slice e2 f2 g2, .slice e3 f3 g3, .slice e4 f4 g4] 24 (0, 0))) := ((HRY.out.trans (hb9.mono HRY.out.size)).block _ hxw).trans HXK.out
                  have M1 : Hid _ := m1.below hb9
                  have M2 : Hid _ := m2.below hb9
                  have M3 : Hid _ := m3.below hb9
                  have M4 : Hid _ := m4.below hb9
                  have HF9 : Hid (Few x.1 x.2.1 x.2.2.1 x.2.2.2) := few_upd hn HRS.out
                  clear hb9 k1 k2 k3 k4 m1 m2 m3 m4 hn hn2
                  go_wp2_with (first
                    | refine wpList_load_row rfl 24 _ rfl (V6.heap.size) rfl 24 #[.slice i1 j1 l1, .slice i2 j2 l2, .slice i3 j3 l3, .slice i4 j4 l4] (0, 0) _ HB9.out Try.underlying24 rfl size4k ?_
                    | (refine wpList_store_row rfl 24 _ _ rfl W3.heap.size #[.slice e1 f1 g1, .slice e2 f2 g2, .slice e3 f3 g3, .slice e4 f4 g4] #[.slice i1 j1 l1, .slice i2 j2 l2, .slice i3 j3 l3, .slice i4 j4 l4] 24 rfl rfl HE9.out size4k rfl (by kernel_rfl) ?_; intro W10 z1 z2 z3 z4)
                    | fail)
                  have HX10 : Hid (XAt W10 W3.heap.size x.1 x.2.1 x.2.2.1 x.2.2.2) := ⟨i1, j1, l1, i2, j2, l2, i3, j3, l3, i4, j4, l4, z1, KV.store2 M1.out HE9.out z2, KV.store2 M2.out HE9.out z2, KV.store2 M3.out HE9.out z2, KV.store2 M4.out HE9.out z2⟩
                  have HW10 : Hid (Below w.heap.size w W10) := HW9.out.trans (z4.mono HXB.out)
                  clear z1 z2 z3 z4
                  go_wp2_with fail
                  go_roundw
                  case rel => exact ⟨k + 1, x.1, x.2.1, x.2.2.1, x.2.2.2, by omega, by go_num, HX10, HF9, HW10⟩
                  case measure => simp [intOf]; omega
            · skip
              go_simp
              have HB7 : Hid (Below Wz.heap.size Wz (Wz.drew.alloc (.cells #[.slice none 0 0, .slice none 0 0, .slice none 0 0, .slice none 0 0] 24))) := HBZ0.out.alloc HBZ0.out.size _
              have HA5 : Hid ((Wz.drew.alloc (.cells #[.slice none 0 0, .slice none 0 0, .slice none 0 0, .slice none 0 0] 24)).heap[Wz.heap.size]? = some (.cells nilK 24 (0, 0))) := heap_alloc_new _ _
              refine hK.out _ _ (HSZ.out _ HB7.out) (fun hHeld2 => ?_)
              clear hK K hHeld
              have hHeld := hHeld2
              clear hHeld2
              try simp only [List.getElem_toArray, List.getElem_cons_zero, List.getElem_cons_succ, Act.put, List.setIfInBounds_toArray, List.set_cons_zero, List.set_cons_succ]
              refine wpAnyH_ready (rs := [5]) (by kernel_rfl) (by simp) ?_
              refine AllReadyH.cons (o := _) rfl (fun K hK => ?_) AllReadyH.nil
              go_simp
              refine (UPr.out _ (HBZ.out.trans (HB7.out.mono HBZ.out.size))).mono ?_
              rintro e V6 hpost
              obtain ⟨i1, j1, l1, i2, j2, l2, i3, j3, l3, i4, j4, l4, er2, rfl, hb9, hq9⟩ := agg_tuple hpost
              have HB6 : Hid (Below Wz.heap.size Wz V6) := HB7.out.trans (hb9.mono HB7.out.size)
              have HQ6 : Hid (Posts V6 i1 j1 l1 i2 j2 l2 i3 j3 l3 i4 j4 l4 er2 (updS A B C D rk)) := hq9
              have HA6 : Hid (V6.heap[Wz.heap.size]? = some (.cells nilK 24 (0, 0))) := (hb9.block _ (lt_of_heap HA5.out)).trans HA5.out
              clear hpost hb9 hq9
              go_wp2_with fail
              refine hK.out _ _ (HSZ.out _ HB6.out) (fun hHeld2 => ?_)
              clear hK K hHeld
              have hHeld := hHeld2
              clear hHeld2
              try simp only [List.getElem_toArray, List.getElem_cons_zero, List.getElem_cons_succ, Act.put, List.setIfInBounds_toArray, List.set_cons_zero, List.set_cons_succ]
              refine wpAnyH_take (i := 6) (v := ?_) rfl (by kernel_rfl) (by kernel_rfl) (by kernel_rfl) (fun _ _ _ h => h) (Or.inl ⟨by rfl, ?_⟩) (by assumption) ?_
              rotate_left
              · (intro w hSw; (try dsimp only at hSw); go_simp; try with_reducible rfl)
              try simp only [List.getElem_toArray, List.getElem_cons_zero, List.getElem_cons_succ, Act.put, List.setIfInBounds_toArray, List.set_cons_zero, List.set_cons_succ]
              refine wpAnyH_take (i := 7) (v := ?_) rfl (by kernel_rfl) (by kernel_rfl) (by kernel_rfl) (fun _ _ _ h => h) (Or.inl ⟨by rfl, ?_⟩) (by assumption) ?_
              rotate_left
              · (intro w hSw; (try dsimp only at hSw); go_simp; try with_reducible rfl)
              try simp only [List.getElem_toArray, List.getElem_cons_zero, List.getElem_cons_succ, Act.put, List.setIfInBounds_toArray, List.set_cons_zero, List.set_cons_succ]
              refine wpAnyH_take (i := 8) (v := ?_) rfl (by kernel_rfl) (by kernel_rfl) (by kernel_rfl) (fun _ _ _ h => h) (Or.inl ⟨by rfl, ?_⟩) (by assumption) ?_
              rotate_left
              · (intro w hSw; (try dsimp only at hSw); go_simp; try with_reducible rfl)
              try simp only [List.getElem_toArray, List.getElem_cons_zero, List.getElem_cons_succ, Act.put, List.setIfInBounds_toArray, List.set_cons_zero, List.set_cons_succ]
              refine wpAnyH_ready (rs := [10]) (by kernel_rfl) (by simp) ?_
              refine AllReadyH.cons (o := _) rfl (fun K hK => ?_) AllReadyH.nil
              refine wp_store_row 24 _ _ rfl (Wz.heap.size) nilK #[.slice i1 j1 l1, .slice i2 j2 l2, .slice i3 j3 l3, .slice i4 j4 l4] 24 rfl rfl HA6.out size4k rfl (by kernel_rfl) ?_
              intro Wy z1 z2 z3 z4
              have HPB : Hid (Wy.heap[Wz.heap.size]? = some (.cells #[.slice i1 j1 l1, .slice i2 j2 l2, .slice i3 j3 l3, .slice i4 j4 l4] 24 (0, 0))) := z1
              have HPBW : Hid (Wz.heap.size ≤ Wz.heap.size) := (by first | exact Nat.le_refl _ | exact HB6.out.size : Wz.heap.size ≤ Wz.heap.size)
              have HBY : Hid (Below Wz.heap.size Wz Wy) := HB6.out.trans (z4.mono HPBW.out)
              have HQY : Hid (Posts Wy i1 j1 l1 i2 j2 l2 i3 j3 l3 i4 j4 l4 er2 (updS A B C D rk)) := Posts.store HQ6.out HA6.out z2
              have HPA : Hid (Wy.heap[V2.heap.size]? = some (.cells #[.slice r1 s1 t1, .slice r2 s2 t2, .slice r3 s3 t3, .slice r4 s4 t4] 24 (0, 0))) := (HBY.out.block _ (lt_of_heap HPZ.out)).trans HPZ.out
              have HQA : Hid (Posts Wy r1 s1 t1 r2 s2 t2 r3 s3 t3 r4 s4 t4 er (updS A B C D rk)) := Posts.below HQZ.out HBY.out
              refine hK.out _ _ (HSZ.out _ HBY.out) (fun hHeld2 => ?_)
              clear hK K hHeld z1 z2 z3 z4
              have hHeld := hHeld2
              clear hHeld2
              try simp only [List.getElem_toArray, List.getElem_cons_zero, List.getElem_cons_succ, Act.put, List.setIfInBounds_toArray, List.set_cons_zero, List.set_cons_succ]
              refine wpAnyH_take (i := 11) (v := ?_) rfl (by kernel_rfl) (by kernel_rfl) (by kernel_rfl) (fun _ _ _ h => h) (Or.inl ⟨by rfl, ?_⟩) (by assumption) ?_
              rotate_left
              · (intro w hSw; (try dsimp only at hSw); go_simp; try with_reducible rfl)
              try simp only [List.getElem_toArray, List.getElem_cons_zero, List.getElem_cons_succ, Act.put, List.setIfInBounds_toArray, List.set_cons_zero, List.set_cons_succ]
              refine wpAnyH_done (by kernel_rfl) ?_ _
              clear hHeld
              have HRY : Hid (Below wr.heap.size wr Wy) := HBZ.out.trans (HBY.out.mono HBZ.out.size)
              have HXY : Hid (XAt Wy W3.heap.size A B C D) := XAt.below HX.out HRY.out
              have HWY : Hid (Below w.heap.size w Wy) := HB.out.trans (HRY.out.mono HB.out.size)
              go_wp2_with (first
                | refine wpList_load_row rfl 24 _ rfl (V2.heap.size) rfl 24 #[.slice r1 s1 t1, .slice r2 s2 t2, .slice r3 s3 t3, .slice r4 s4 t4] (0, 0) _ HPA.out Try.underlying24 rfl size4k ?_
                | refine wpList_load_row rfl 24 _ rfl (Wz.heap.size) rfl 24 #[.slice i1 j1 l1, .slice i2 j2 l2, .slice i3 j3 l3, .slice i4 j4 l4] (0, 0) _ HPB.out Try.underlying24 rfl size4k ?_
                | fail)
              rcases HQA.out with ⟨hn, rfl, k1, k2, k3, k4⟩ | ⟨x, hn, rfl, k1, k2, k3, k4⟩
              · rcases HQY.out with ⟨hn2, rfl, m1, m2, m3, m4⟩ | ⟨x2, hn2, _⟩
                · refine (same_eq _ _ _ _ _ _ _ _ [] [] [] [] _ k1 k2 k3 k4 m1 m2 m3 m4).mono ?_
                  rintro e W9 ⟨rfl, hb9⟩
                  have HX9 : Hid (XAt W9 W3.heap.size A B C D) := XAt.below HXY.out hb9
                  have HW9 : Hid (Below w.heap.size w W9) := HWY.out.trans (hb9.mono HWY.out.size)
                  clear hb9 k1 k2 k3 k4 m1 m2 m3 m4 hn hn2
                  go_wp2_with fail
                  go_roundw
                  case rel => exact ⟨k + 1, A, B, C, D, by omega, by go_num, HX9, HF, HW9⟩
                  case measure => simp [intOf]; omega
                · rw [hn] at hn2; cases hn2
              · rcases HQY.out with ⟨hn2, _⟩ | ⟨x2, hn2, rfl, m1, m2, m3, m4⟩
                · rw [hn] at hn2; cases hn2
                · obtain rfl : x = x2 := by rw [hn] at hn2; cases hn2; rfl
                  refine (same_eq _ _ _ _ _ _ _ _ _ _ _ _ _ k1 k2 k3 k4 m1 m2 m3 m4).mono ?_
                  rintro e W9 ⟨rfl, hb9⟩
                  have HW9 : Hid (Below w.heap.size w W9) := HWY.out.trans (hb9.mono HWY.out.size)
                  have HB9 : Hid (W9.heap[Wz.heap.size]? = some (.cells #[.slice i1 j1 l1, .slice i2 j2 l2, .slice i3 j3 l3, .slice i4 j4 l4] 24 (0, 0))) := (hb9.block _ (lt_of_heap HPB.out)).trans HPB.out
                  have HE9 : Hid (W9.heap[W3.heap.size]? = some (.cells #[.slice e1 f1 g1, .slice e2 f2 g2, .slice e3 f3 g3, .slice e4 f4 g4] 24 (0, 0))) := ((HRY.out.trans (hb9.mono HRY.out.size)).block _ hxw).trans HXK.out
                  have M1 : Hid _ := m1.below hb9
                  have M2 : Hid _ := m2.below hb9
                  have M3 : Hid _ := m3.below hb9
                  have M4 : Hid _ := m4.below hb9
                  have HF9 : Hid (Few x.1 x.2.1 x.2.2.1 x.2.2.2) := few_upd hn HRS.out
                  clear hb9 k1 k2 k3 k4 m1 m2 m3 m4 hn hn2
                  go_wp2_with (first
                    | refine wpList_load_row rfl 24 _ rfl (Wz.heap.size) rfl 24 #[.slice i1 j1 l1, .slice i2 j2 l2, .slice i3 j3 l3, .slice i4 j4 l4] (0, 0) _ HB9.out Try.underlying24 rfl size4k ?_
                    | (refine wpList_store_row rfl 24 _ _ rfl W3.heap.size #[.slice e1 f1 g1, .slice e2 f2 g2, .slice e3 f3 g3, .slice e4 f4 g4] #[.slice i1 j1 l1, .slice i2 j2 l2, .slice i3 j3 l3, .slice i4 j4 l4] 24 rfl rfl HE9.out size4k rfl (by kernel_rfl) ?_; intro W10 z1 z2 z3 z4)
                    | fail)
                  have HX10 : Hid (XAt W10 W3.heap.size x.1 x.2.1 x.2.2.1 x.2.2.2) := ⟨i1, j1, l1, i2, j2, l2, i3, j3, l3, i4, j4, l4, z1, KV.store2 M1.out HE9.out z2, KV.store2 M2.out HE9.out z2, KV.store2 M3.out HE9.out z2, KV.store2 M4.out HE9.out z2⟩
                  have HW10 : Hid (Below w.heap.size w W10) := HW9.out.trans (z4.mono HXB.out)
                  clear z1 z2 z3 z4
                  go_wp2_with fail
                  go_roundw
                  case rel => exact ⟨k + 1, x.1, x.2.1, x.2.2.1, x.2.2.2, by omega, by go_num, HX10, HF9, HW10⟩
                  case measure => simp [intOf]; omega
          · skip
            go_simp
            have HBx211 : Hid (Below wr.heap.size wr (V1.alloc (.cells #[.slice none 0 0, .slice none 0 0, .slice none 0 0, .slice none 0 0] 24))) := HBc.out.alloc HBc.out.size _
            have hsz211 : V1.heap.size = V1.heap.size := by first | rfl | simp
            have HAL : Hid ((V1.alloc (.cells #[.slice none 0 0, .slice none 0 0, .slice none 0 0, .slice none 0 0] 24)).heap[V1.heap.size]? = some (.cells nilK 24 (0, 0))) := by
              have h9 := heap_alloc_new V1 (.cells #[.slice none 0 0, .slice none 0 0, .slice none 0 0, .slice none 0 0] 24)
              rw [hsz211] at h9
              exact h9
            have HRC' : Hid (RS (V1.alloc (.cells #[.slice none 0 0, .slice none 0 0, .slice none 0 0, .slice none 0 0] 24)) pa9 rm rk) := RS.below HRC.out (below1 _ _)
            refine hK.out _ _ (HSV.out _ HBx211.out) (fun hHeld2 => ?_)
            clear hK K hHeld
            have hHeld := hHeld2
            clear hHeld2
            try simp only [List.getElem_toArray, List.getElem_cons_zero, List.getElem_cons_succ, Act.put, List.setIfInBounds_toArray, List.set_cons_zero, List.set_cons_succ]
            refine wpAnyH_ready (rs := [7]) (by kernel_rfl) (by simp) ?_
            refine AllReadyH.cons (o := _) rfl (fun K hK => ?_) AllReadyH.nil
            go_simp
            refine (UPp.out _ _ _ HBx211.out HRC'.out).mono ?_
            rintro e V2 hpost
            obtain ⟨r1, s1, t1, r2, s2, t2, r3, s3, t3, r4, s4, t4, er, rfl, hb9, hq9⟩ := agg_tuple hpost
            have HBd : Hid (Below wr.heap.size wr V2) := HBx211.out.trans (hb9.mono HBx211.out.size)
            have HQ : Hid (Posts V2 r1 s1 t1 r2 s2 t2 r3 s3 t3 r4 s4 t4 er (updS A B C D rk)) := hq9
            have HAL3 : Hid (V2.heap[V1.heap.size]? = some (.cells nilK 24 (0, 0))) := (hb9.block _ (lt_of_heap HAL.out)).trans HAL.out
            clear hpost hb9 hq9
            go_wp2_with fail
            refine hK.out _ _ (HSV.out _ HBd.out) (fun hHeld2 => ?_)
            clear hK K hHeld
            have hHeld := hHeld2
            clear hHeld2
            try simp only [List.getElem_toArray, List.getElem_cons_zero, List.getElem_cons_succ, Act.put, List.setIfInBounds_toArray, List.set_cons_zero, List.set_cons_succ]
            refine wpAnyH_take (i := 8) (v := ?_) rfl (by kernel_rfl) (by kernel_rfl) (by kernel_rfl) (fun _ _ _ h => h) (Or.inl ⟨by rfl, ?_⟩) (by assumption) ?_
            rotate_left
            · (intro w hSw; (try dsimp only at hSw); go_simp; try with_reducible rfl)
            try simp only [List.getElem_toArray, List.getElem_cons_zero, List.getElem_cons_succ, Act.put, List.setIfInBounds_toArray, List.set_cons_zero, List.set_cons_succ]
            refine wpAnyH_take (i := 9) (v := ?_) rfl (by kernel_rfl) (by kernel_rfl) (by kernel_rfl) (fun _ _ _ h => h) (Or.inl ⟨by rfl, ?_⟩) (by assumption) ?_
            rotate_left
            · (intro w hSw; (try dsimp only at hSw); go_simp; try with_reducible rfl)
            try simp only [List.getElem_toArray, List.getElem_cons_zero, List.getElem_cons_succ, Act.put, List.setIfInBounds_toArray, List.set_cons_zero, List.set_cons_succ]
            refine wpAnyH_take (i := 10) (v := ?_) rfl (by kernel_rfl) (by kernel_rfl) (by kernel_rfl) (fun _ _ _ h => h) (Or.inl ⟨by rfl, ?_⟩) (by assumption) ?_
            rotate_left
            · (intro w hSw; (try dsimp only at hSw); go_simp; try with_reducible rfl)
            try simp only [List.getElem_toArray, List.getElem_cons_zero, List.getElem_cons_succ, Act.put, List.setIfInBounds_toArray, List.set_cons_zero, List.set_cons_succ]
            refine wpAnyH_ready (rs := [12]) (by kernel_rfl) (by simp) ?_
            refine AllReadyH.cons (o := _) rfl (fun K hK => ?_) AllReadyH.nil
            refine wp_store_row 24 _ _ rfl (V1.heap.size) nilK #[.slice r1 s1 t1, .slice r2 s2 t2, .slice r3 s3 t3, .slice r4 s4 t4] 24 rfl rfl HAL3.out size4k rfl (by kernel_rfl) ?_
            intro Wz z1 z2 z3 z4
            have HPZ : Hid (Wz.heap[V1.heap.size]? = some (.cells #[.slice r1 s1 t1, .slice r2 s2 t2, .slice r3 s3 t3, .slice r4 s4 t4] 24 (0, 0))) := z1
            have HAW : Hid (wr.heap.size ≤ V1.heap.size) := (by have := HB0.out.size; first | omega | (have := HBc.out.size; omega) | (have := HBd.out.size; omega) : wr.heap.size ≤ V1.heap.size)
            have HBZ : Hid (Below wr.heap.size wr Wz) := HBd.out.trans (z4.mono HAW.out)
            have HQZ : Hid (Posts Wz r1 s1 t1 r2 s2 t2 r3 s3 t3 r4 s4 t4 er (updS A B C D rk)) := Posts.store HQ.out HAL3.out z2
            refine hK.out _ _ (HSV.out _ HBZ.out) (fun hHeld2 => ?_)
            clear hK K hHeld z1 z2 z3 z4
            have hHeld := hHeld2
            clear hHeld2
            try simp only [List.getElem_toArray, List.getElem_cons_zero, List.getElem_cons_succ, Act.put, List.setIfInBounds_toArray, List.set_cons_zero, List.set_cons_succ]
            refine wpAnyH_take (i := 13) (v := ?_) rfl (by kernel_rfl) (by kernel_rfl) (by kernel_rfl) (fun _ _ _ h => h) (Or.inl ⟨by rfl, ?_⟩) (by assumption) ?_
            rotate_left
            · (intro w hSw; (try dsimp only at hSw); go_simp; try with_reducible rfl)
            try simp only [List.getElem_toArray, List.getElem_cons_zero, List.getElem_cons_succ, Act.put, List.setIfInBounds_toArray, List.set_cons_zero, List.set_cons_succ]
            refine wpAnyH_done (by kernel_rfl) ?_ _
            clear hHeld
            have HSZ : Hid (∀ V, Below Wz.heap.size Wz V → V.heap[W3.heap.size]? = some (.cells #[.slice e1 f1 g1, .slice e2 f2 g2, .slice e3 f3 g3, .slice e4 f4 g4] 24 (0, 0)) ∧ V.cell? ⟨lb, off + k, none⟩ = some (.slice ra rm rc)) := fun V hV => HSV.out V (HBZ.out.trans (hV.mono HBZ.out.size))
            have HBZ0 : Hid (Below Wz.heap.size Wz Wz.drew) := (Below.refl _ _).drew
            go_wp2_with fail
            refine wp_region_held_drew (S := (fun V => V.heap[W3.heap.size]? = some (.cells #[.slice e1 f1 g1, .slice e2 f2 g2, .slice e3 f3 g3, .slice e4 f4 g4] 24 (0, 0)) ∧ V.cell? ⟨lb, off + k, none⟩ = some (.slice ra rm rc))) (by kernel_rfl) ?_ (fun hHeld => ?_)
            · exact HSZ.out _ HBZ0.out
            refine wpAnyH_take (i := 0) (v := .agg #[.slice e1 f1 g1, .slice e2 f2 g2, .slice e3 f3 g3, .slice e4 f4 g4]) rfl (by kernel_rfl) (by kernel_rfl) (by kernel_rfl) (fun _ _ _ h => h) (yields_loadR (by rfl) 24 _ rfl W3.heap.size rfl 24 _ _ (fun _ h => h.1) Try.underlying24 rfl size4k) (by assumption) ?_
            try simp only [List.getElem_toArray, List.getElem_cons_zero, List.getElem_cons_succ, Act.put, List.setIfInBounds_toArray, List.set_cons_zero, List.set_cons_succ]
            refine wpAnyH_take (i := 1) (v := ?_) rfl (by kernel_rfl) (by kernel_rfl) (by kernel_rfl) (fun _ _ _ h => h) (Or.inl ⟨by rfl, ?_⟩) (by assumption) ?_
            rotate_left
            · (intro w hSw; (try dsimp only at hSw); go_simp; try with_reducible rfl)
            try simp only [List.getElem_toArray, List.getElem_cons_zero, List.getElem_cons_succ, Act.put, List.setIfInBounds_toArray, List.set_cons_zero, List.set_cons_succ]
            refine wpAnyH_take (i := 2) (v := ?_) rfl (by kernel_rfl) (by kernel_rfl) (by kernel_rfl) (fun _ _ _ h => h) (Or.inl ⟨by rfl, ?_⟩) (by assumption) ?_
            rotate_left
            · (intro w hSw; (try dsimp only at hSw); go_simp; try with_reducible rfl)
            try simp only [List.getElem_toArray, List.getElem_cons_zero, List.getElem_cons_succ, Act.put, List.setIfInBounds_toArray, List.set_cons_zero, List.set_cons_succ]
            refine wpAnyH_take (i := 3) (v := ?_) rfl (by kernel_rfl) (by kernel_rfl) (by kernel_rfl) (fun _ _ _ h => h) (Or.inl ⟨by rfl, ?_⟩) (by assumption) ?_
            rotate_left
            · (intro w hSw; (try dsimp only at hSw); go_simp; try with_reducible rfl)
            try simp only [List.getElem_toArray, List.getElem_cons_zero, List.getElem_cons_succ, Act.put, List.setIfInBounds_toArray, List.set_cons_zero, List.set_cons_succ]
            refine wpAnyH_take (i := 4) (v := ?_) rfl (by kernel_rfl) (by kernel_rfl) (by kernel_rfl) (fun _ _ _ h => h) (Or.inl ⟨by rfl, ?_⟩) (by assumption) ?_
            rotate_left
            · (intro w hSw; (try dsimp only at hSw); go_simp; try with_reducible rfl)
            try simp only [List.getElem_toArray, List.getElem_cons_zero, List.getElem_cons_succ, Act.put, List.setIfInBounds_toArray, List.set_cons_zero, List.set_cons_succ]
            refine wpAnyH_ready (rs := [5, 9]) (by kernel_rfl) (by simp) ?_
            refine AllReadyH.cons (o := _) rfl (fun K hK => ?_) (AllReadyH.cons (o := _) rfl (fun K hK => ?_) AllReadyH.nil)
            · skip
              go_simp
              refine (UPr.out _ (HBZ.out.trans (HBZ0.out.mono HBZ.out.size))).mono ?_
              rintro e V6 hpost
              obtain ⟨i1, j1, l1, i2, j2, l2, i3, j3, l3, i4, j4, l4, er2, rfl, hb9, hq9⟩ := agg_tuple hpost
              have HB6 : Hid (Below Wz.heap.size Wz V6) := HBZ0.out.trans (hb9.mono HBZ0.out.size)
              have HQ6 : Hid (Posts V6 i1 j1 l1 i2 j2 l2 i3 j3 l3 i4 j4 l4 er2 (updS A B C D rk)) := hq9
              clear hpost hb9 hq9
              go_wp2_with fail
              refine hK.out _ _ (HSZ.out _ HB6.out) (fun hHeld2 => ?_)
              clear hK K hHeld
              have hHeld := hHeld2
              clear hHeld2
              try simp only [List.getElem_toArray, List.getElem_cons_zero, List.getElem_cons_succ, Act.put, List.setIfInBounds_toArray, List.set_cons_zero, List.set_cons_succ]
              refine wpAnyH_take (i := 6) (v := ?_) rfl (by kernel_rfl) (by kernel_rfl) (by kernel_rfl) (fun _ _ _ h => h) (Or.inl ⟨by rfl, ?_⟩) (by assumption) ?_
              rotate_left
              · (intro w hSw; (try dsimp only at hSw); go_simp; try with_reducible rfl)
              try simp only [List.getElem_toArray, List.getElem_cons_zero, List.getElem_cons_succ, Act.put, List.setIfInBounds_toArray, List.set_cons_zero, List.set_cons_succ]
              refine wpAnyH_take (i := 7) (v := ?_) rfl (by kernel_rfl) (by kernel_rfl) (by kernel_rfl) (fun _ _ _ h => h) (Or.inl ⟨by rfl, ?_⟩) (by assumption) ?_
              rotate_left
              · (intro w hSw; (try dsimp only at hSw); go_simp; try with_reducible rfl)
              try simp only [List.getElem_toArray, List.getElem_cons_zero, List.getElem_cons_succ, Act.put, List.setIfInBounds_toArray, List.set_cons_zero, List.set_cons_succ]
              refine wpAnyH_take (i := 8) (v := ?_) rfl (by kernel_rfl) (by kernel_rfl) (by kernel_rfl) (fun _ _ _ h => h) (Or.inl ⟨by rfl, ?_⟩) (by assumption) ?_
              rotate_left
              · (intro w hSw; (try dsimp only at hSw); go_simp; try with_reducible rfl)
              try simp only [List.getElem_toArray, List.getElem_cons_zero, List.getElem_cons_succ, Act.put, List.setIfInBounds_toArray, List.set_cons_zero, List.set_cons_succ]
              refine wpAnyH_ready (rs := [9]) (by kernel_rfl) (by simp) ?_
              refine AllReadyH.cons (o := _) rfl (fun K hK => ?_) AllReadyH.nil
              go_simp
              have HB7 : Hid (Below Wz.heap.size Wz (V6.alloc (.cells #[.slice none 0 0, .slice none 0 0, .slice none 0 0, .slice none 0 0] 24))) := HB6.out.alloc HB6.out.size _
              have HA5 : Hid ((V6.alloc (.cells #[.slice none 0 0, .slice none 0 0, .slice none 0 0, .slice none 0 0] 24)).heap[V6.heap.size]? = some (.cells nilK 24 (0, 0))) := heap_alloc_new _ _
              have HQ7 : Hid (Posts (V6.alloc (.cells #[.slice none 0 0, .slice none 0 0, .slice none 0 0, .slice none 0 0] 24)) i1 j1 l1 i2 j2 l2 i3 j3 l3 i4 j4 l4 er2 (updS A B C D rk)) := Posts.below HQ6.out (below1 _ _)
              refine hK.out _ _ (HSZ.out _ HB7.out) (fun hHeld2 => ?_)
              clear hK K hHeld
              have hHeld := hHeld2
              clear hHeld2
              try simp only [List.getElem_toArray, List.getElem_cons_zero, List.getElem_cons_succ, Act.put, List.setIfInBounds_toArray, List.set_cons_zero, List.set_cons_succ]
              refine wpAnyH_ready (rs := [10]) (by kernel_rfl) (by simp) ?_
              refine AllReadyH.cons (o := _) rfl (fun K hK => ?_) AllReadyH.nil
              refine wp_store_row 24 _ _ rfl (V6.heap.size) nilK #[.slice i1 j1 l1, .slice i2 j2 l2, .slice i3 j3 l3, .slice i4 j4 l4] 24 rfl rfl HA5.out size4k rfl (by kernel_rfl) ?_
              intro Wy z1 z2 z3 z4
              have HPB : Hid (Wy.heap[V6.heap.size]? = some (.cells #[.slice i1 j1 l1, .slice i2 j2 l2, .slice i3 j3 l3, .slice i4 j4 l4] 24 (0, 0))) := z1
              have HPBW : Hid (Wz.heap.size ≤ V6.heap.size) := (by first | exact Nat.le_refl _ | exact HB6.out.size : Wz.heap.size ≤ V6.heap.size)
              have HBY : Hid (Below Wz.heap.size Wz Wy) := HB7.out.trans (z4.mono HPBW.out)
              have HQY : Hid (Posts Wy i1 j1 l1 i2 j2 l2 i3 j3 l3 i4 j4 l4 er2 (updS A B C D rk)) := Posts.store HQ7.out HA5.out z2
              have HPA : Hid (Wy.heap[V1.heap.size]? = some (.cells #[.slice r1 s1 t1, .slice r2 s2 t2, .slice r3 s3 t3, .slice r4 s4 t4] 24 (0, 0))) := (HBY.out.block _ (lt_of_heap HPZ.out)).trans HPZ.out
              have HQA : Hid (Posts Wy r1 s1 t1 r2 s2 t2 r3 s3 t3 r4 s4 t4 er (updS A B C D rk)) := Posts.below HQZ.out HBY.out
              refine hK.out _ _ (HSZ.out _ HBY.out) (fun hHeld2 => ?_)
              clear hK K hHeld z1 z2 z3 z4
              have hHeld := hHeld2
              clear hHeld2
              try simp only [List.getElem_toArray, List.getElem_cons_zero, List.getElem_cons_succ, Act.put, List.setIfInBounds_toArray, List.set_cons_zero, List.set_cons_succ]
              refine wpAnyH_take (i := 11) (v := ?_) rfl (by kernel_rfl) (by kernel_rfl) (by kernel_rfl) (fun _ _ _ h => h) (Or.inl ⟨by rfl, ?_⟩) (by assumption) ?_
              rotate_left
              · (intro w hSw; (try dsimp only at hSw); go_simp; try with_reducible rfl)
              try simp only [List.getElem_toArray, List.getElem_cons_zero, List.getElem_cons_succ, Act.put, List.setIfInBounds_toArray, List.set_cons_zero, List.set_cons_succ]
              refine wpAnyH_done (by kernel_rfl) ?_ _
              clear hHeld
              have HRY : Hid (Below wr.heap.size wr Wy) := HBZ.out.trans (HBY.out.mono HBZ.out.size)
              have HXY : Hid (XAt Wy W3.heap.size A B C D) := XAt.below HX.out HRY.out
              have HWY : Hid (Below w.heap.size w Wy) := HB.out.trans (HRY.out.mono HB.out.size)
              go_wp2_with (first
                | refine wpList_load_row rfl 24 _ rfl (V1.heap.size) rfl 24 #[.slice r1 s1 t1, .slice r2 s2 t2, .slice r3 s3 t3, .slice r4 s4 t4] (0, 0) _ HPA.out Try.underlying24 rfl size4k ?_
                | refine wpList_load_row rfl 24 _ rfl (V6.heap.size) rfl 24 #[.slice i1 j1 l1, .slice i2 j2 l2, .slice i3 j3 l3, .slice i4 j4 l4] (0, 0) _ HPB.out Try.underlying24 rfl size4k ?_
                | fail)
              rcases HQA.out with ⟨hn, rfl, k1, k2, k3, k4⟩ | ⟨x, hn, rfl, k1, k2, k3, k4⟩
              · rcases HQY.out with ⟨hn2, rfl, m1, m2, m3, m4⟩ | ⟨x2, hn2, _⟩
                · refine (same_eq _ _ _ _ _ _ _ _ [] [] [] [] _ k1 k2 k3 k4 m1 m2 m3 m4).mono ?_
                  rintro e W9 ⟨rfl, hb9⟩
                  have HX9 : Hid (XAt W9 W3.heap.size A B C D) := XAt.below HXY.out hb9
                  have HW9 : Hid (Below w.heap.size w W9) := HWY.out.trans (hb9.mono HWY.out.size)
                  clear hb9 k1 k2 k3 k4 m1 m2 m3 m4 hn hn2
                  go_wp2_with fail
                  go_roundw
                  case rel => exact ⟨k + 1, A, B, C, D, by omega, by go_num, HX9, HF, HW9⟩
                  case measure => simp [intOf]; omega
                · rw [hn] at hn2; cases hn2
              · rcases HQY.out with ⟨hn2, _⟩ | ⟨x2, hn2, rfl, m1, m2, m3, m4⟩
                · rw [hn] at hn2; cases hn2
                · obtain rfl : x = x2 := by rw [hn] at hn2; cases hn2; rfl
                  refine (same_eq _ _ _ _ _ _ _ _ _ _ _ _ _ k1 k2 k3 k4 m1 m2 m3 m4).mono ?_
                  rintro e W9 ⟨rfl, hb9⟩
                  have HW9 : Hid (Below w.heap.size w W9) := HWY.out.trans (hb9.mono HWY.out.size)
                  have HB9 : Hid (W9.heap[V6.heap.size]? = some (.cells #[.slice i1 j1 l1, .slice i2 j2 l2, .slice i3 j3 l3, .slice i4 j4 l4] 24 (0, 0))) := (hb9.block _ (lt_of_heap HPB.out)).trans HPB.out
                  have HE9 : Hid (W9.heap[W3.heap.size]? = some (.cells #[.slice e1 f1 g1, .slice e2 f2 g2, .slice e3 f3 g3, .slice e4 f4 g4] 24 (0, 0))) := ((HRY.out.trans (hb9.mono HRY.out.size)).block _ hxw).trans HXK.out
                  have M1 : Hid _ := m1.below hb9
                  have M2 : Hid _ := m2.below hb9
                  have M3 : Hid _ := m3.below hb9
                  have M4 : Hid _ := m4.below hb9
                  have HF9 : Hid (Few x.1 x.2.1 x.2.2.1 x.2.2.2) := few_upd hn HRS.out
                  clear hb9 k1 k2 k3 k4 m1 m2 m3 m4 hn hn2
                  go_wp2_with (first
                    | refine wpList_load_row rfl 24 _ rfl (V6.heap.size) rfl 24 #[.slice i1 j1 l1, .slice i2 j2 l2, .slice i3 j3 l3, .slice i4 j4 l4] (0, 0) _ HB9.out Try.underlying24 rfl size4k ?_
                    | (refine wpList_store_row rfl 24 _ _ rfl W3.heap.size #[.slice e1 f1 g1, .slice e2 f2 g2, .slice e3 f3 g3, .slice e4 f4 g4] #[.slice i1 j1 l1, .slice i2 j2 l2, .slice i3 j3 l3, .slice i4 j4 l4] 24 rfl rfl HE9.out size4k rfl (by kernel_rfl) ?_; intro W10 z1 z2 z3 z4)
                    | fail)
                  have HX10 : Hid (XAt W10 W3.heap.size x.1 x.2.1 x.2.2.1 x.2.2.2) := ⟨i1, j1, l1, i2, j2, l2, i3, j3, l3, i4, j4, l4, z1, KV.store2 M1.out HE9.out z2, KV.store2 M2.out HE9.out z2, KV.store2 M3.out HE9.out z2, KV.store2 M4.out HE9.out z2⟩
                  have HW10 : Hid (Below w.heap.size w W10) := HW9.out.trans (z4.mono HXB.out)
                  clear z1 z2 z3 z4
                  go_wp2_with fail
                  go_roundw
                  case rel => exact ⟨k + 1, x.1, x.2.1, x.2.2.1, x.2.2.2, by omega, by go_num, HX10, HF9, HW10⟩
                  case measure => simp [intOf]; omega
            · skip
              go_simp
              have HB7 : Hid (Below Wz.heap.size Wz (Wz.drew.alloc (.cells #[.slice none 0 0, .slice none 0 0, .slice none 0 0, .slice none 0 0] 24))) := HBZ0.out.alloc HBZ0.out.size _
              have HA5 : Hid ((Wz.drew.alloc (.cells #[.slice none 0 0, .slice none 0 0, .slice none 0 0, .slice none 0 0] 24)).heap[Wz.heap.size]? = some (.cells nilK 24 (0, 0))) := heap_alloc_new _ _
              refine hK.out _ _ (HSZ.out _ HB7.out) (fun hHeld2 => ?_)
              clear hK K hHeld
              have hHeld := hHeld2
              clear hHeld2
              try simp only [List.getElem_toArray, List.getElem_cons_zero, List.getElem_cons_succ, Act.put, List.setIfInBounds_toArray, List.set_cons_zero, List.set_cons_succ]
              refine wpAnyH_ready (rs := [5]) (by kernel_rfl) (by simp) ?_
              refine AllReadyH.cons (o := _) rfl (fun K hK => ?_) AllReadyH.nil
              go_simp
              refine (UPr.out _ (HBZ.out.trans (HB7.out.mono HBZ.out.size))).mono ?_
              rintro e V6 hpost
              obtain ⟨i1, j1, l1, i2, j2, l2, i3, j3, l3, i4, j4, l4, er2, rfl, hb9, hq9⟩ := agg_tuple hpost
              have HB6 : Hid (Below Wz.heap.size Wz V6) := HB7.out.trans (hb9.mono HB7.out.size)
              have HQ6 : Hid (Posts V6 i1 j1 l1 i2 j2 l2 i3 j3 l3 i4 j4 l4 er2 (updS A B C D rk)) := hq9
              have HA6 : Hid (V6.heap[Wz.heap.size]? = some (.cells nilK 24 (0, 0))) := (hb9.block _ (lt_of_heap HA5.out)).trans HA5.out
              clear hpost hb9 hq9
              go_wp2_with fail
              refine hK.out _ _ (HSZ.out _ HB6.out) (fun hHeld2 => ?_)
              clear hK K hHeld
              have hHeld := hHeld2
              clear hHeld2
              try simp only [List.getElem_toArray, List.getElem_cons_zero, List.getElem_cons_succ, Act.put, List.setIfInBounds_toArray, List.set_cons_zero, List.set_cons_succ]
              refine wpAnyH_take (i := 6) (v := ?_) rfl (by kernel_rfl) (by kernel_rfl) (by kernel_rfl) (fun _ _ _ h => h) (Or.inl ⟨by rfl, ?_⟩) (by assumption) ?_
              rotate_left
              · (intro w hSw; (try dsimp only at hSw); go_simp; try with_reducible rfl)
              try simp only [List.getElem_toArray, List.getElem_cons_zero, List.getElem_cons_succ, Act.put, List.setIfInBounds_toArray, List.set_cons_zero, List.set_cons_succ]
              refine wpAnyH_take (i := 7) (v := ?_) rfl (by kernel_rfl) (by kernel_rfl) (by kernel_rfl) (fun _ _ _ h => h) (Or.inl ⟨by rfl, ?_⟩) (by assumption) ?_
              rotate_left
              · (intro w hSw; (try dsimp only at hSw); go_simp; try with_reducible rfl)
              try simp only [List.getElem_toArray, List.getElem_cons_zero, List.getElem_cons_succ, Act.put, List.setIfInBounds_toArray, List.set_cons_zero, List.set_cons_succ]
              refine wpAnyH_take (i := 8) (v := ?_) rfl (by kernel_rfl) (by kernel_rfl) (by kernel_rfl) (fun _ _ _ h => h) (Or.inl ⟨by rfl, ?_⟩) (by assumption) ?_
              rotate_left
              · (intro w hSw; (try dsimp only at hSw); go_simp; try with_reducible rfl)
              try simp only [List.getElem_toArray, List.getElem_cons_zero, List.getElem_cons_succ, Act.put, List.setIfInBounds_toArray, List.set_cons_zero, List.set_cons_succ]
              refine wpAnyH_ready (rs := [10]) (by kernel_rfl) (by simp) ?_
              refine AllReadyH.cons (o := _) rfl (fun K hK => ?_) AllReadyH.nil
              refine wp_store_row 24 _ _ rfl (Wz.heap.size) nilK #[.slice i1 j1 l1, .slice i2 j2 l2, .slice i3 j3 l3, .slice i4 j4 l4] 24 rfl rfl HA6.out size4k rfl (by kernel_rfl) ?_
              intro Wy z1 z2 z3 z4
              have HPB : Hid (Wy.heap[Wz.heap.size]? = some (.cells #[.slice i1 j1 l1, .slice i2 j2 l2, .slice i3 j3 l3, .slice i4 j4 l4] 24 (0, 0))) := z1
              have HPBW : Hid (Wz.heap.size ≤ Wz.heap.size) := (by first | exact Nat.le_refl _ | exact HB6.out.size : Wz.heap.size ≤ Wz.heap.size)
              have HBY : Hid (Below Wz.heap.size Wz Wy) := HB6.out.trans (z4.mono HPBW.out)
              have HQY : Hid (Posts Wy i1 j1 l1 i2 j2 l2 i3 j3 l3 i4 j4 l4 er2 (updS A B C D rk)) := Posts.store HQ6.out HA6.out z2
              have HPA : Hid (Wy.heap[V1.heap.size]? = some (.cells #[.slice r1 s1 t1, .slice r2 s2 t2, .slice r3 s3 t3, .slice r4 s4 t4] 24 (0, 0))) := (HBY.out.block _ (lt_of_heap HPZ.out)).trans HPZ.out
              have HQA : Hid (Posts Wy r1 s1 t1 r2 s2 t2 r3 s3 t3 r4 s4 t4 er (updS A B C D rk)) := Posts.below HQZ.out HBY.out
              refine hK.out _ _ (HSZ.out _ HBY.out) (fun hHeld2 => ?_)
              clear hK K hHeld z1 z2 z3 z4
              have hHeld := hHeld2
              clear hHeld2
              try simp only [List.getElem_toArray, List.getElem_cons_zero, List.getElem_cons_succ, Act.put, List.setIfInBounds_toArray, List.set_cons_zero, List.set_cons_succ]
              refine wpAnyH_take (i := 11) (v := ?_) rfl (by kernel_rfl) (by kernel_rfl) (by kernel_rfl) (fun _ _ _ h => h) (Or.inl ⟨by rfl, ?_⟩) (by assumption) ?_
              rotate_left
              · (intro w hSw; (try dsimp only at hSw); go_simp; try with_reducible rfl)
              try simp only [List.getElem_toArray, List.getElem_cons_zero, List.getElem_cons_succ, Act.put, List.setIfInBounds_toArray, List.set_cons_zero, List.set_cons_succ]
              refine wpAnyH_done (by kernel_rfl) ?_ _
              clear hHeld
              have HRY : Hid (Below wr.heap.size wr Wy) := HBZ.out.trans (HBY.out.mono HBZ.out.size)
              have HXY : Hid (XAt Wy W3.heap.size A B C D) := XAt.below HX.out HRY.out
              have HWY : Hid (Below w.heap.size w Wy) := HB.out.trans (HRY.out.mono HB.out.size)
              go_wp2_with (first
                | refine wpList_load_row rfl 24 _ rfl (V1.heap.size) rfl 24 #[.slice r1 s1 t1, .slice r2 s2 t2, .slice r3 s3 t3, .slice r4 s4 t4] (0, 0) _ HPA.out Try.underlying24 rfl size4k ?_
                | refine wpList_load_row rfl 24 _ rfl (Wz.heap.size) rfl 24 #[.slice i1 j1 l1, .slice i2 j2 l2, .slice i3 j3 l3, .slice i4 j4 l4] (0, 0) _ HPB.out Try.underlying24 rfl size4k ?_
                | fail)
              rcases HQA.out with ⟨hn, rfl, k1, k2, k3, k4⟩ | ⟨x, hn, rfl, k1, k2, k3, k4⟩
              · rcases HQY.out with ⟨hn2, rfl, m1, m2, m3, m4⟩ | ⟨x2, hn2, _⟩
                · refine (same_eq _ _ _ _ _ _ _ _ [] [] [] [] _ k1 k2 k3 k4 m1 m2 m3 m4).mono ?_
                  rintro e W9 ⟨rfl, hb9⟩
                  have HX9 : Hid (XAt W9 W3.heap.size A B C D) := XAt.below HXY.out hb9
                  have HW9 : Hid (Below w.heap.size w W9) := HWY.out.trans (hb9.mono HWY.out.size)
                  clear hb9 k1 k2 k3 k4 m1 m2 m3 m4 hn hn2
                  go_wp2_with fail
                  go_roundw
                  case rel => exact ⟨k + 1, A, B, C, D, by omega, by go_num, HX9, HF, HW9⟩
                  case measure => simp [intOf]; omega
                · rw [hn] at hn2; cases hn2
              · rcases HQY.out with ⟨hn2, _⟩ | ⟨x2, hn2, rfl, m1, m2, m3, m4⟩
                · rw [hn] at hn2; cases hn2
                · obtain rfl : x = x2 := by rw [hn] at hn2; cases hn2; rfl
                  refine (same_eq _ _ _ _ _ _ _ _ _ _ _ _ _ k1 k2 k3 k4 m1 m2 m3 m4).mono ?_
                  rintro e W9 ⟨rfl, hb9⟩
                  have HW9 : Hid (Below w.heap.size w W9) := HWY.out.trans (hb9.mono HWY.out.size)
                  have HB9 : Hid (W9.heap[Wz.heap.size]? = some (.cells #[.slice i1 j1 l1, .slice i2 j2 l2, .slice i3 j3 l3, .slice i4 j4 l4] 24 (0, 0))) := (hb9.block _ (lt_of_heap HPB.out)).trans HPB.out
                  have HE9 : Hid (W9.heap[W3.heap.size]? = some (.cells #[.slice e1 f1 g1, .slice e2 f2 g2, .slice e3 f3 g3, .slice e4 f4 g4] 24 (0, 0))) := ((HRY.out.trans (hb9.mono HRY.out.size)).block _ hxw).trans HXK.out
                  have M1 : Hid _ := m1.below hb9
                  have M2 : Hid _ := m2.below hb9
                  have M3 : Hid _ := m3.below hb9
                  have M4 : Hid _ := m4.below hb9
                  have HF9 : Hid (Few x.1 x.2.1 x.2.2.1 x.2.2.2) := few_upd hn HRS.out
                  clear hb9 k1 k2 k3 k4 m1 m2 m3 m4 hn hn2
                  go_wp2_with (first
                    | refine wpList_load_row rfl 24 _ rfl (Wz.heap.size) rfl 24 #[.slice i1 j1 l1, .slice i2 j2 l2, .slice i3 j3 l3, .slice i4 j4 l4] (0, 0) _ HB9.out Try.underlying24 rfl size4k ?_
                    | (refine wpList_store_row rfl 24 _ _ rfl W3.heap.size #[.slice e1 f1 g1, .slice e2 f2 g2, .slice e3 f3 g3, .slice e4 f4 g4] #[.slice i1 j1 l1, .slice i2 j2 l2, .slice i3 j3 l3, .slice i4 j4 l4] 24 rfl rfl HE9.out size4k rfl (by kernel_rfl) ?_; intro W10 z1 z2 z3 z4)
                    | fail)
                  have HX10 : Hid (XAt W10 W3.heap.size x.1 x.2.1 x.2.2.1 x.2.2.2) := ⟨i1, j1, l1, i2, j2, l2, i3, j3, l3, i4, j4, l4, z1, KV.store2 M1.out HE9.out z2, KV.store2 M2.out HE9.out z2, KV.store2 M3.out HE9.out z2, KV.store2 M4.out HE9.out z2⟩
                  have HW10 : Hid (Below w.heap.size w W10) := HW9.out.trans (z4.mono HXB.out)
                  clear z1 z2 z3 z4
                  go_wp2_with fail
                  go_roundw
                  case rel => exact ⟨k + 1, x.1, x.2.1, x.2.2.1, x.2.2.2, by omega, by go_num, HX10, HF9, HW10⟩
                  case measure => simp [intOf]; omega
        · skip
          go_simp
          have HBx111 : Hid (Below wr.heap.size wr ((wr.drew.alloc (.cells #[] 47)).alloc (.cells #[.slice none 0 0, .slice none 0 0, .slice none 0 0, .slice none 0 0] 24))) := HBx01.out.alloc HBx01.out.size _
          have hsz111 : (wr.drew.alloc (.cells #[] 47)).heap.size = wr.heap.size + 1 := by first | rfl | simp
          have HAL : Hid (((wr.drew.alloc (.cells #[] 47)).alloc (.cells #[.slice none 0 0, .slice none 0 0, .slice none 0 0, .slice none 0 0] 24)).heap[wr.heap.size + 1]? = some (.cells nilK 24 (0, 0))) := by
            have h9 := heap_alloc_new (wr.drew.alloc (.cells #[] 47)) (.cells #[.slice none 0 0, .slice none 0 0, .slice none 0 0, .slice none 0 0] 24)
            rw [hsz111] at h9
            exact h9
          have HEM' : Hid (((wr.drew.alloc (.cells #[] 47)).alloc (.cells #[.slice none 0 0, .slice none 0 0, .slice none 0 0, .slice none 0 0] 24)).ownsRow (wr.heap.size) 47 13 (.slice (some ⟨wr.heap.size, 0, none⟩) 0 0) 0 []) := own_below HEM.out (below1 _ _)
          refine hK.out _ _ (HSV.out _ HBx111.out) (fun hHeld2 => ?_)
          clear hK K hHeld
          have hHeld := hHeld2
          clear hHeld2
          try simp only [List.getElem_toArray, List.getElem_cons_zero, List.getElem_cons_succ, Act.put, List.setIfInBounds_toArray, List.set_cons_zero, List.set_cons_succ]
          refine wpAnyH_ready (rs := [6]) (by kernel_rfl) (by simp) ?_
          refine AllReadyH.cons (o := _) rfl (fun K hK => ?_) AllReadyH.nil
          have hem9 : wr.heap.size ≤ ((wr.drew.alloc (.cells #[] 47)).alloc (.cells #[.slice none 0 0, .slice none 0 0, .slice none 0 0, .slice none 0 0] 24)).heap.size := by have := HBx111.out.size; first | omega | (simp; omega) | simp
          have hwe9 : wr.heap.size ≤ wr.heap.size := by omega
          obtain ⟨pa9, pc9, V1, rr9, hrs9, hbe9, hfr9⟩ := copy_rows _ (wr.heap.size) HEM'.out _ rm rc rk (HRS.out.below HBx111.out) hem9
          have HBc : Hid (Below wr.heap.size wr V1) := HBx111.out.trans (hbe9.mono hwe9)
          have HRC : Hid (RS V1 pa9 rm rk) := hrs9
          have HAL2 : Hid (V1.heap[wr.heap.size + 1]? = some (.cells nilK 24 (0, 0))) := (hfr9 _ (lt_of_heap HAL.out) (by omega)).trans HAL.out
          refine wp_append_run _ _ 31 rfl _ _ rfl rfl _ rr9 ?_
          clear rr9 hrs9 hbe9 hfr9 hem9 hwe9
          refine hK.out _ _ (HSV.out _ HBc.out) (fun hHeld2 => ?_)
          clear hK K hHeld
          have hHeld := hHeld2
          clear hHeld2
          try simp only [List.getElem_toArray, List.getElem_cons_zero, List.getElem_cons_succ, Act.put, List.setIfInBounds_toArray, List.set_cons_zero, List.set_cons_succ]
          refine wpAnyH_ready (rs := [7]) (by kernel_rfl) (by simp) ?_
          refine AllReadyH.cons (o := _) rfl (fun K hK => ?_) AllReadyH.nil
          go_simp
          refine (UPp.out _ _ _ HBc.out HRC.out).mono ?_
          rintro e V2 hpost
          obtain ⟨r1, s1, t1, r2, s2, t2, r3, s3, t3, r4, s4, t4, er, rfl, hb9, hq9⟩ := agg_tuple hpost
          have HBd : Hid (Below wr.heap.size wr V2) := HBc.out.trans (hb9.mono HBc.out.size)
          have HQ : Hid (Posts V2 r1 s1 t1 r2 s2 t2 r3 s3 t3 r4 s4 t4 er (updS A B C D rk)) := hq9
          have HAL3 : Hid (V2.heap[wr.heap.size + 1]? = some (.cells nilK 24 (0, 0))) := (hb9.block _ (lt_of_heap HAL2.out)).trans HAL2.out
          clear hpost hb9 hq9
          go_wp2_with fail
          refine hK.out _ _ (HSV.out _ HBd.out) (fun hHeld2 => ?_)
          clear hK K hHeld
          have hHeld := hHeld2
          clear hHeld2
          try simp only [List.getElem_toArray, List.getElem_cons_zero, List.getElem_cons_succ, Act.put, List.setIfInBounds_toArray, List.set_cons_zero, List.set_cons_succ]
          refine wpAnyH_take (i := 8) (v := ?_) rfl (by kernel_rfl) (by kernel_rfl) (by kernel_rfl) (fun _ _ _ h => h) (Or.inl ⟨by rfl, ?_⟩) (by assumption) ?_
          rotate_left
          · (intro w hSw; (try dsimp only at hSw); go_simp; try with_reducible rfl)
          try simp only [List.getElem_toArray, List.getElem_cons_zero, List.getElem_cons_succ, Act.put, List.setIfInBounds_toArray, List.set_cons_zero, List.set_cons_succ]
          refine wpAnyH_take (i := 9) (v := ?_) rfl (by kernel_rfl) (by kernel_rfl) (by kernel_rfl) (fun _ _ _ h => h) (Or.inl ⟨by rfl, ?_⟩) (by assumption) ?_
          rotate_left
          · (intro w hSw; (try dsimp only at hSw); go_simp; try with_reducible rfl)
          try simp only [List.getElem_toArray, List.getElem_cons_zero, List.getElem_cons_succ, Act.put, List.setIfInBounds_toArray, List.set_cons_zero, List.set_cons_succ]
          refine wpAnyH_take (i := 10) (v := ?_) rfl (by kernel_rfl) (by kernel_rfl) (by kernel_rfl) (fun _ _ _ h => h) (Or.inl ⟨by rfl, ?_⟩) (by assumption) ?_
          rotate_left
          · (intro w hSw; (try dsimp only at hSw); go_simp; try with_reducible rfl)
          try simp only [List.getElem_toArray, List.getElem_cons_zero, List.getElem_cons_succ, Act.put, List.setIfInBounds_toArray, List.set_cons_zero, List.set_cons_succ]
          refine wpAnyH_ready (rs := [12]) (by kernel_rfl) (by simp) ?_
          refine AllReadyH.cons (o := _) rfl (fun K hK => ?_) AllReadyH.nil
          refine wp_store_row 24 _ _ rfl (wr.heap.size + 1) nilK #[.slice r1 s1 t1, .slice r2 s2 t2, .slice r3 s3 t3, .slice r4 s4 t4] 24 rfl rfl HAL3.out size4k rfl (by kernel_rfl) ?_
          intro Wz z1 z2 z3 z4
          have HPZ : Hid (Wz.heap[wr.heap.size + 1]? = some (.cells #[.slice r1 s1 t1, .slice r2 s2 t2, .slice r3 s3 t3, .slice r4 s4 t4] 24 (0, 0))) := z1
          have HAW : Hid (wr.heap.size ≤ wr.heap.size + 1) := (by have := HB0.out.size; first | omega | (have := HBc.out.size; omega) | (have := HBd.out.size; omega) : wr.heap.size ≤ wr.heap.size + 1)
          have HBZ : Hid (Below wr.heap.size wr Wz) := HBd.out.trans (z4.mono HAW.out)
          have HQZ : Hid (Posts Wz r1 s1 t1 r2 s2 t2 r3 s3 t3 r4 s4 t4 er (updS A B C D rk)) := Posts.store HQ.out HAL3.out z2
          refine hK.out _ _ (HSV.out _ HBZ.out) (fun hHeld2 => ?_)
          clear hK K hHeld z1 z2 z3 z4
          have hHeld := hHeld2
          clear hHeld2
          try simp only [List.getElem_toArray, List.getElem_cons_zero, List.getElem_cons_succ, Act.put, List.setIfInBounds_toArray, List.set_cons_zero, List.set_cons_succ]
          refine wpAnyH_take (i := 13) (v := ?_) rfl (by kernel_rfl) (by kernel_rfl) (by kernel_rfl) (fun _ _ _ h => h) (Or.inl ⟨by rfl, ?_⟩) (by assumption) ?_
          rotate_left
          · (intro w hSw; (try dsimp only at hSw); go_simp; try with_reducible rfl)
          try simp only [List.getElem_toArray, List.getElem_cons_zero, List.getElem_cons_succ, Act.put, List.setIfInBounds_toArray, List.set_cons_zero, List.set_cons_succ]
          refine wpAnyH_done (by kernel_rfl) ?_ _
          clear hHeld
          have HSZ : Hid (∀ V, Below Wz.heap.size Wz V → V.heap[W3.heap.size]? = some (.cells #[.slice e1 f1 g1, .slice e2 f2 g2, .slice e3 f3 g3, .slice e4 f4 g4] 24 (0, 0)) ∧ V.cell? ⟨lb, off + k, none⟩ = some (.slice ra rm rc)) := fun V hV => HSV.out V (HBZ.out.trans (hV.mono HBZ.out.size))
          have HBZ0 : Hid (Below Wz.heap.size Wz Wz.drew) := (Below.refl _ _).drew
          go_wp2_with fail
          refine wp_region_held_drew (S := (fun V => V.heap[W3.heap.size]? = some (.cells #[.slice e1 f1 g1, .slice e2 f2 g2, .slice e3 f3 g3, .slice e4 f4 g4] 24 (0, 0)) ∧ V.cell? ⟨lb, off + k, none⟩ = some (.slice ra rm rc))) (by kernel_rfl) ?_ (fun hHeld => ?_)
          · exact HSZ.out _ HBZ0.out
          refine wpAnyH_take (i := 0) (v := .agg #[.slice e1 f1 g1, .slice e2 f2 g2, .slice e3 f3 g3, .slice e4 f4 g4]) rfl (by kernel_rfl) (by kernel_rfl) (by kernel_rfl) (fun _ _ _ h => h) (yields_loadR (by rfl) 24 _ rfl W3.heap.size rfl 24 _ _ (fun _ h => h.1) Try.underlying24 rfl size4k) (by assumption) ?_
          try simp only [List.getElem_toArray, List.getElem_cons_zero, List.getElem_cons_succ, Act.put, List.setIfInBounds_toArray, List.set_cons_zero, List.set_cons_succ]
          refine wpAnyH_take (i := 1) (v := ?_) rfl (by kernel_rfl) (by kernel_rfl) (by kernel_rfl) (fun _ _ _ h => h) (Or.inl ⟨by rfl, ?_⟩) (by assumption) ?_
          rotate_left
          · (intro w hSw; (try dsimp only at hSw); go_simp; try with_reducible rfl)
          try simp only [List.getElem_toArray, List.getElem_cons_zero, List.getElem_cons_succ, Act.put, List.setIfInBounds_toArray, List.set_cons_zero, List.set_cons_succ]
          refine wpAnyH_take (i := 2) (v := ?_) rfl (by kernel_rfl) (by kernel_rfl) (by kernel_rfl) (fun _ _ _ h => h) (Or.inl ⟨by rfl, ?_⟩) (by assumption) ?_
          rotate_left
          · (intro w hSw; (try dsimp only at hSw); go_simp; try with_reducible rfl)
          try simp only [List.getElem_toArray, List.getElem_cons_zero, List.getElem_cons_succ, Act.put, List.setIfInBounds_toArray, List.set_cons_zero, List.set_cons_succ]
          refine wpAnyH_take (i := 3) (v := ?_) rfl (by kernel_rfl) (by kernel_rfl) (by kernel_rfl) (fun _ _ _ h => h) (Or.inl ⟨by rfl, ?_⟩) (by assumption) ?_
          rotate_left
          · (intro w hSw; (try dsimp only at hSw); go_simp; try with_reducible rfl)
          try simp only [List.getElem_toArray, List.getElem_cons_zero, List.getElem_cons_succ, Act.put, List.setIfInBounds_toArray, List.set_cons_zero, List.set_cons_succ]
          refine wpAnyH_take (i := 4) (v := ?_) rfl (by kernel_rfl) (by kernel_rfl) (by kernel_rfl) (fun _ _ _ h => h) (Or.inl ⟨by rfl, ?_⟩) (by assumption) ?_
          rotate_left
          · (intro w hSw; (try dsimp only at hSw); go_simp; try with_reducible rfl)
          try simp only [List.getElem_toArray, List.getElem_cons_zero, List.getElem_cons_succ, Act.put, List.setIfInBounds_toArray, List.set_cons_zero, List.set_cons_succ]
          refine wpAnyH_ready (rs := [5, 9]) (by kernel_rfl) (by simp) ?_
          refine AllReadyH.cons (o := _) rfl (fun K hK => ?_) (AllReadyH.cons (o := _) rfl (fun K hK => ?_) AllReadyH.nil)
          · skip
            go_simp
            refine (UPr.out _ (HBZ.out.trans (HBZ0.out.mono HBZ.out.size))).mono ?_
            rintro e V6 hpost
            obtain ⟨i1, j1, l1, i2, j2, l2, i3, j3, l3, i4, j4, l4, er2, rfl, hb9, hq9⟩ := agg_tuple hpost
            have HB6 : Hid (Below Wz.heap.size Wz V6) := HBZ0.out.trans (hb9.mono HBZ0.out.size)
            have HQ6 : Hid (Posts V6 i1 j1 l1 i2 j2 l2 i3 j3 l3 i4 j4 l4 er2 (updS A B C D rk)) := hq9
            clear hpost hb9 hq9
            go_wp2_with fail
            refine hK.out _ _ (HSZ.out _ HB6.out) (fun hHeld2 => ?_)
            clear hK K hHeld
            have hHeld := hHeld2
            clear hHeld2
            try simp only [List.getElem_toArray, List.getElem_cons_zero, List.getElem_cons_succ, Act.put, List.setIfInBounds_toArray, List.set_cons_zero, List.set_cons_succ]
            refine wpAnyH_take (i := 6) (v := ?_) rfl (by kernel_rfl) (by kernel_rfl) (by kernel_rfl) (fun _ _ _ h => h) (Or.inl ⟨by rfl, ?_⟩) (by assumption) ?_
            rotate_left
            · (intro w hSw; (try dsimp only at hSw); go_simp; try with_reducible rfl)
            try simp only [List.getElem_toArray, List.getElem_cons_zero, List.getElem_cons_succ, Act.put, List.setIfInBounds_toArray, List.set_cons_zero, List.set_cons_succ]
            refine wpAnyH_take (i := 7) (v := ?_) rfl (by kernel_rfl) (by kernel_rfl) (by kernel_rfl) (fun _ _ _ h => h) (Or.inl ⟨by rfl, ?_⟩) (by assumption) ?_
            rotate_left
            · (intro w hSw; (try dsimp only at hSw); go_simp; try with_reducible rfl)
            try simp only [List.getElem_toArray, List.getElem_cons_zero, List.getElem_cons_succ, Act.put, List.setIfInBounds_toArray, List.set_cons_zero, List.set_cons_succ]
            refine wpAnyH_take (i := 8) (v := ?_) rfl (by kernel_rfl) (by kernel_rfl) (by kernel_rfl) (fun _ _ _ h => h) (Or.inl ⟨by rfl, ?_⟩) (by assumption) ?_
            rotate_left
            · (intro w hSw; (try dsimp only at hSw); go_simp; try with_reducible rfl)
            try simp only [List.getElem_toArray, List.getElem_cons_zero, List.getElem_cons_succ, Act.put, List.setIfInBounds_toArray, List.set_cons_zero, List.set_cons_succ]
            refine wpAnyH_ready (rs := [9]) (by kernel_rfl) (by simp) ?_
            refine AllReadyH.cons (o := _) rfl (fun K hK => ?_) AllReadyH.nil
            go_simp
            have HB7 : Hid (Below Wz.heap.size Wz (V6.alloc (.cells #[.slice none 0 0, .slice none 0 0, .slice none 0 0, .slice none 0 0] 24))) := HB6.out.alloc HB6.out.size _
            have HA5 : Hid ((V6.alloc (.cells #[.slice none 0 0, .slice none 0 0, .slice none 0 0, .slice none 0 0] 24)).heap[V6.heap.size]? = some (.cells nilK 24 (0, 0))) := heap_alloc_new _ _
            have HQ7 : Hid (Posts (V6.alloc (.cells #[.slice none 0 0, .slice none 0 0, .slice none 0 0, .slice none 0 0] 24)) i1 j1 l1 i2 j2 l2 i3 j3 l3 i4 j4 l4 er2 (updS A B C D rk)) := Posts.below HQ6.out (below1 _ _)
            refine hK.out _ _ (HSZ.out _ HB7.out) (fun hHeld2 => ?_)
            clear hK K hHeld
            have hHeld := hHeld2
            clear hHeld2
            try simp only [List.getElem_toArray, List.getElem_cons_zero, List.getElem_cons_succ, Act.put, List.setIfInBounds_toArray, List.set_cons_zero, List.set_cons_succ]
            refine wpAnyH_ready (rs := [10]) (by kernel_rfl) (by simp) ?_
            refine AllReadyH.cons (o := _) rfl (fun K hK => ?_) AllReadyH.nil
            refine wp_store_row 24 _ _ rfl (V6.heap.size) nilK #[.slice i1 j1 l1, .slice i2 j2 l2, .slice i3 j3 l3, .slice i4 j4 l4] 24 rfl rfl HA5.out size4k rfl (by kernel_rfl) ?_
            intro Wy z1 z2 z3 z4
            have HPB : Hid (Wy.heap[V6.heap.size]? = some (.cells #[.slice i1 j1 l1, .slice i2 j2 l2, .slice i3 j3 l3, .slice i4 j4 l4] 24 (0, 0))) := z1
            have HPBW : Hid (Wz.heap.size ≤ V6.heap.size) := (by first | exact Nat.le_refl _ | exact HB6.out.size : Wz.heap.size ≤ V6.heap.size)
            have HBY : Hid (Below Wz.heap.size Wz Wy) := HB7.out.trans (z4.mono HPBW.out)
            have HQY : Hid (Posts Wy i1 j1 l1 i2 j2 l2 i3 j3 l3 i4 j4 l4 er2 (updS A B C D rk)) := Posts.store HQ7.out HA5.out z2
            have HPA : Hid (Wy.heap[wr.heap.size + 1]? = some (.cells #[.slice r1 s1 t1, .slice r2 s2 t2, .slice r3 s3 t3, .slice r4 s4 t4] 24 (0, 0))) := (HBY.out.block _ (lt_of_heap HPZ.out)).trans HPZ.out
            have HQA : Hid (Posts Wy r1 s1 t1 r2 s2 t2 r3 s3 t3 r4 s4 t4 er (updS A B C D rk)) := Posts.below HQZ.out HBY.out
            refine hK.out _ _ (HSZ.out _ HBY.out) (fun hHeld2 => ?_)
            clear hK K hHeld z1 z2 z3 z4
            have hHeld := hHeld2
            clear hHeld2
            try simp only [List.getElem_toArray, List.getElem_cons_zero, List.getElem_cons_succ, Act.put, List.setIfInBounds_toArray, List.set_cons_zero, List.set_cons_succ]
            refine wpAnyH_take (i := 11) (v := ?_) rfl (by kernel_rfl) (by kernel_rfl) (by kernel_rfl) (fun _ _ _ h => h) (Or.inl ⟨by rfl, ?_⟩) (by assumption) ?_
            rotate_left
            · (intro w hSw; (try dsimp only at hSw); go_simp; try with_reducible rfl)
            try simp only [List.getElem_toArray, List.getElem_cons_zero, List.getElem_cons_succ, Act.put, List.setIfInBounds_toArray, List.set_cons_zero, List.set_cons_succ]
            refine wpAnyH_done (by kernel_rfl) ?_ _
            clear hHeld
            have HRY : Hid (Below wr.heap.size wr Wy) := HBZ.out.trans (HBY.out.mono HBZ.out.size)
            have HXY : Hid (XAt Wy W3.heap.size A B C D) := XAt.below HX.out HRY.out
            have HWY : Hid (Below w.heap.size w Wy) := HB.out.trans (HRY.out.mono HB.out.size)
            go_wp2_with (first
              | refine wpList_load_row rfl 24 _ rfl (wr.heap.size + 1) rfl 24 #[.slice r1 s1 t1, .slice r2 s2 t2, .slice r3 s3 t3, .slice r4 s4 t4] (0, 0) _ HPA.out Try.underlying24 rfl size4k ?_
              | refine wpList_load_row rfl 24 _ rfl (V6.heap.size) rfl 24 #[.slice i1 j1 l1, .slice i2 j2 l2, .slice i3 j3 l3, .slice i4 j4 l4] (0, 0) _ HPB.out Try.underlying24 rfl size4k ?_
              | fail)
            rcases HQA.out with ⟨hn, rfl, k1, k2, k3, k4⟩ | ⟨x, hn, rfl, k1, k2, k3, k4⟩
            · rcases HQY.out with ⟨hn2, rfl, m1, m2, m3, m4⟩ | ⟨x2, hn2, _⟩
              · refine (same_eq _ _ _ _ _ _ _ _ [] [] [] [] _ k1 k2 k3 k4 m1 m2 m3 m4).mono ?_
                rintro e W9 ⟨rfl, hb9⟩
                have HX9 : Hid (XAt W9 W3.heap.size A B C D) := XAt.below HXY.out hb9
                have HW9 : Hid (Below w.heap.size w W9) := HWY.out.trans (hb9.mono HWY.out.size)
                clear hb9 k1 k2 k3 k4 m1 m2 m3 m4 hn hn2
                go_wp2_with fail
                go_roundw
                case rel => exact ⟨k + 1, A, B, C, D, by omega, by go_num, HX9, HF, HW9⟩
                case measure => simp [intOf]; omega
              · rw [hn] at hn2; cases hn2
            · rcases HQY.out with ⟨hn2, _⟩ | ⟨x2, hn2, rfl, m1, m2, m3, m4⟩
              · rw [hn] at hn2; cases hn2
              · obtain rfl : x = x2 := by rw [hn] at hn2; cases hn2; rfl
                refine (same_eq _ _ _ _ _ _ _ _ _ _ _ _ _ k1 k2 k3 k4 m1 m2 m3 m4).mono ?_
                rintro e W9 ⟨rfl, hb9⟩
                have HW9 : Hid (Below w.heap.size w W9) := HWY.out.trans (hb9.mono HWY.out.size)
                have HB9 : Hid (W9.heap[V6.heap.size]? = some (.cells #[.slice i1 j1 l1, .slice i2 j2 l2, .slice i3 j3 l3, .slice i4 j4 l4] 24 (0, 0))) := (hb9.block _ (lt_of_heap HPB.out)).trans HPB.out
                have HE9 : Hid (W9.heap[W3.heap.size]? = some (.cells #[.slice e1 f1 g1, .slice e2 f2 g2, .slice e3 f3 g3, .slice e4 f4 g4] 24 (0, 0))) := ((HRY.out.trans (hb9.mono HRY.out.size)).block _ hxw).trans HXK.out
                have M1 : Hid _ := m1.below hb9
                have M2 : Hid _ := m2.below hb9
                have M3 : Hid _ := m3.below hb9
                have M4 : Hid _ := m4.below hb9
                have HF9 : Hid (Few x.1 x.2.1 x.2.2.1 x.2.2.2) := few_upd hn HRS.out
                clear hb9 k1 k2 k3 k4 m1 m2 m3 m4 hn hn2
                go_wp2_with (first
                  | refine wpList_load_row rfl 24 _ rfl (V6.heap.size) rfl 24 #[.slice i1 j1 l1, .slice i2 j2 l2, .slice i3 j3 l3, .slice i4 j4 l4] (0, 0) _ HB9.out Try.underlying24 rfl size4k ?_
                  | (refine wpList_store_row rfl 24 _ _ rfl W3.heap.size #[.slice e1 f1 g1, .slice e2 f2 g2, .slice e3 f3 g3, .slice e4 f4 g4] #[.slice i1 j1 l1, .slice i2 j2 l2, .slice i3 j3 l3, .slice i4 j4 l4] 24 rfl rfl HE9.out size4k rfl (by kernel_rfl) ?_; intro W10 z1 z2 z3 z4)
                  | fail)
                have HX10 : Hid (XAt W10 W3.heap.size x.1 x.2.1 x.2.2.1 x.2.2.2) := ⟨i1, j1, l1, i2, j2, l2, i3, j3, l3, i4, j4, l4, z1, KV.store2 M1.out HE9.out z2, KV.store2 M2.out HE9.out z2, KV.store2 M3.out HE9.out z2, KV.store2 M4.out HE9.out z2⟩
                have HW10 : Hid (Below w.heap.size w W10) := HW9.out.trans (z4.mono HXB.out)
                clear z1 z2 z3 z4
                go_wp2_with fail
                go_roundw
                case rel => exact ⟨k + 1, x.1, x.2.1, x.2.2.1, x.2.2.2, by omega, by go_num, HX10, HF9, HW10⟩
                case measure => simp [intOf]; omega
          · skip
            go_simp
            have HB7 : Hid (Below Wz.heap.size Wz (Wz.drew.alloc (.cells #[.slice none 0 0, .slice none 0 0, .slice none 0 0, .slice none 0 0] 24))) := HBZ0.out.alloc HBZ0.out.size _
            have HA5 : Hid ((Wz.drew.alloc (.cells #[.slice none 0 0, .slice none 0 0, .slice none 0 0, .slice none 0 0] 24)).heap[Wz.heap.size]? = some (.cells nilK 24 (0, 0))) := heap_alloc_new _ _
            refine hK.out _ _ (HSZ.out _ HB7.out) (fun hHeld2 => ?_)
            clear hK K hHeld
            have hHeld := hHeld2
            clear hHeld2
            try simp only [List.getElem_toArray, List.getElem_cons_zero, List.getElem_cons_succ, Act.put, List.setIfInBounds_toArray, List.set_cons_zero, List.set_cons_succ]
            refine wpAnyH_ready (rs := [5]) (by kernel_rfl) (by simp) ?_
            refine AllReadyH.cons (o := _) rfl (fun K hK => ?_) AllReadyH.nil
            go_simp
            refine (UPr.out _ (HBZ.out.trans (HB7.out.mono HBZ.out.size))).mono ?_
            rintro e V6 hpost
            obtain ⟨i1, j1, l1, i2, j2, l2, i3, j3, l3, i4, j4, l4, er2, rfl, hb9, hq9⟩ := agg_tuple hpost
            have HB6 : Hid (Below Wz.heap.size Wz V6) := HB7.out.trans (hb9.mono HB7.out.size)
            have HQ6 : Hid (Posts V6 i1 j1 l1 i2 j2 l2 i3 j3 l3 i4 j4 l4 er2 (updS A B C D rk)) := hq9
            have HA6 : Hid (V6.heap[Wz.heap.size]? = some (.cells nilK 24 (0, 0))) := (hb9.block _ (lt_of_heap HA5.out)).trans HA5.out
            clear hpost hb9 hq9
            go_wp2_with fail
            refine hK.out _ _ (HSZ.out _ HB6.out) (fun hHeld2 => ?_)
            clear hK K hHeld
            have hHeld := hHeld2
            clear hHeld2
            try simp only [List.getElem_toArray, List.getElem_cons_zero, List.getElem_cons_succ, Act.put, List.setIfInBounds_toArray, List.set_cons_zero, List.set_cons_succ]
            refine wpAnyH_take (i := 6) (v := ?_) rfl (by kernel_rfl) (by kernel_rfl) (by kernel_rfl) (fun _ _ _ h => h) (Or.inl ⟨by rfl, ?_⟩) (by assumption) ?_
            rotate_left
            · (intro w hSw; (try dsimp only at hSw); go_simp; try with_reducible rfl)
            try simp only [List.getElem_toArray, List.getElem_cons_zero, List.getElem_cons_succ, Act.put, List.setIfInBounds_toArray, List.set_cons_zero, List.set_cons_succ]
            refine wpAnyH_take (i := 7) (v := ?_) rfl (by kernel_rfl) (by kernel_rfl) (by kernel_rfl) (fun _ _ _ h => h) (Or.inl ⟨by rfl, ?_⟩) (by assumption) ?_
            rotate_left
            · (intro w hSw; (try dsimp only at hSw); go_simp; try with_reducible rfl)
            try simp only [List.getElem_toArray, List.getElem_cons_zero, List.getElem_cons_succ, Act.put, List.setIfInBounds_toArray, List.set_cons_zero, List.set_cons_succ]
            refine wpAnyH_take (i := 8) (v := ?_) rfl (by kernel_rfl) (by kernel_rfl) (by kernel_rfl) (fun _ _ _ h => h) (Or.inl ⟨by rfl, ?_⟩) (by assumption) ?_
            rotate_left
            · (intro w hSw; (try dsimp only at hSw); go_simp; try with_reducible rfl)
            try simp only [List.getElem_toArray, List.getElem_cons_zero, List.getElem_cons_succ, Act.put, List.setIfInBounds_toArray, List.set_cons_zero, List.set_cons_succ]
            refine wpAnyH_ready (rs := [10]) (by kernel_rfl) (by simp) ?_
            refine AllReadyH.cons (o := _) rfl (fun K hK => ?_) AllReadyH.nil
            refine wp_store_row 24 _ _ rfl (Wz.heap.size) nilK #[.slice i1 j1 l1, .slice i2 j2 l2, .slice i3 j3 l3, .slice i4 j4 l4] 24 rfl rfl HA6.out size4k rfl (by kernel_rfl) ?_
            intro Wy z1 z2 z3 z4
            have HPB : Hid (Wy.heap[Wz.heap.size]? = some (.cells #[.slice i1 j1 l1, .slice i2 j2 l2, .slice i3 j3 l3, .slice i4 j4 l4] 24 (0, 0))) := z1
            have HPBW : Hid (Wz.heap.size ≤ Wz.heap.size) := (by first | exact Nat.le_refl _ | exact HB6.out.size : Wz.heap.size ≤ Wz.heap.size)
            have HBY : Hid (Below Wz.heap.size Wz Wy) := HB6.out.trans (z4.mono HPBW.out)
            have HQY : Hid (Posts Wy i1 j1 l1 i2 j2 l2 i3 j3 l3 i4 j4 l4 er2 (updS A B C D rk)) := Posts.store HQ6.out HA6.out z2
            have HPA : Hid (Wy.heap[wr.heap.size + 1]? = some (.cells #[.slice r1 s1 t1, .slice r2 s2 t2, .slice r3 s3 t3, .slice r4 s4 t4] 24 (0, 0))) := (HBY.out.block _ (lt_of_heap HPZ.out)).trans HPZ.out
            have HQA : Hid (Posts Wy r1 s1 t1 r2 s2 t2 r3 s3 t3 r4 s4 t4 er (updS A B C D rk)) := Posts.below HQZ.out HBY.out
            refine hK.out _ _ (HSZ.out _ HBY.out) (fun hHeld2 => ?_)
            clear hK K hHeld z1 z2 z3 z4
            have hHeld := hHeld2
            clear hHeld2
            try simp only [List.getElem_toArray, List.getElem_cons_zero, List.getElem_cons_succ, Act.put, List.setIfInBounds_toArray, List.set_cons_zero, List.set_cons_succ]
            refine wpAnyH_take (i := 11) (v := ?_) rfl (by kernel_rfl) (by kernel_rfl) (by kernel_rfl) (fun _ _ _ h => h) (Or.inl ⟨by rfl, ?_⟩) (by assumption) ?_
            rotate_left
            · (intro w hSw; (try dsimp only at hSw); go_simp; try with_reducible rfl)
            try simp only [List.getElem_toArray, List.getElem_cons_zero, List.getElem_cons_succ, Act.put, List.setIfInBounds_toArray, List.set_cons_zero, List.set_cons_succ]
            refine wpAnyH_done (by kernel_rfl) ?_ _
            clear hHeld
            have HRY : Hid (Below wr.heap.size wr Wy) := HBZ.out.trans (HBY.out.mono HBZ.out.size)
            have HXY : Hid (XAt Wy W3.heap.size A B C D) := XAt.below HX.out HRY.out
            have HWY : Hid (Below w.heap.size w Wy) := HB.out.trans (HRY.out.mono HB.out.size)
            go_wp2_with (first
              | refine wpList_load_row rfl 24 _ rfl (wr.heap.size + 1) rfl 24 #[.slice r1 s1 t1, .slice r2 s2 t2, .slice r3 s3 t3, .slice r4 s4 t4] (0, 0) _ HPA.out Try.underlying24 rfl size4k ?_
              | refine wpList_load_row rfl 24 _ rfl (Wz.heap.size) rfl 24 #[.slice i1 j1 l1, .slice i2 j2 l2, .slice i3 j3 l3, .slice i4 j4 l4] (0, 0) _ HPB.out Try.underlying24 rfl size4k ?_
              | fail)
            rcases HQA.out with ⟨hn, rfl, k1, k2, k3, k4⟩ | ⟨x, hn, rfl, k1, k2, k3, k4⟩
            · rcases HQY.out with ⟨hn2, rfl, m1, m2, m3, m4⟩ | ⟨x2, hn2, _⟩
              · refine (same_eq _ _ _ _ _ _ _ _ [] [] [] [] _ k1 k2 k3 k4 m1 m2 m3 m4).mono ?_
                rintro e W9 ⟨rfl, hb9⟩
                have HX9 : Hid (XAt W9 W3.heap.size A B C D) := XAt.below HXY.out hb9
                have HW9 : Hid (Below w.heap.size w W9) := HWY.out.trans (hb9.mono HWY.out.size)
                clear hb9 k1 k2 k3 k4 m1 m2 m3 m4 hn hn2
                go_wp2_with fail
                go_roundw
                case rel => exact ⟨k + 1, A, B, C, D, by omega, by go_num, HX9, HF, HW9⟩
                case measure => simp [intOf]; omega
              · rw [hn] at hn2; cases hn2
            · rcases HQY.out with ⟨hn2, _⟩ | ⟨x2, hn2, rfl, m1, m2, m3, m4⟩
              · rw [hn] at hn2; cases hn2
              · obtain rfl : x = x2 := by rw [hn] at hn2; cases hn2; rfl
                refine (same_eq _ _ _ _ _ _ _ _ _ _ _ _ _ k1 k2 k3 k4 m1 m2 m3 m4).mono ?_
                rintro e W9 ⟨rfl, hb9⟩
                have HW9 : Hid (Below w.heap.size w W9) := HWY.out.trans (hb9.mono HWY.out.size)
                have HB9 : Hid (W9.heap[Wz.heap.size]? = some (.cells #[.slice i1 j1 l1, .slice i2 j2 l2, .slice i3 j3 l3, .slice i4 j4 l4] 24 (0, 0))) := (hb9.block _ (lt_of_heap HPB.out)).trans HPB.out
                have HE9 : Hid (W9.heap[W3.heap.size]? = some (.cells #[.slice e1 f1 g1, .slice e2 f2 g2, .slice e3 f3 g3, .slice e4 f4 g4] 24 (0, 0))) := ((HRY.out.trans (hb9.mono HRY.out.size)).block _ hxw).trans HXK.out
                have M1 : Hid _ := m1.below hb9
                have M2 : Hid _ := m2.below hb9
                have M3 : Hid _ := m3.below hb9
                have M4 : Hid _ := m4.below hb9
                have HF9 : Hid (Few x.1 x.2.1 x.2.2.1 x.2.2.2) := few_upd hn HRS.out
                clear hb9 k1 k2 k3 k4 m1 m2 m3 m4 hn hn2
                go_wp2_with (first
                  | refine wpList_load_row rfl 24 _ rfl (Wz.heap.size) rfl 24 #[.slice i1 j1 l1, .slice i2 j2 l2, .slice i3 j3 l3, .slice i4 j4 l4] (0, 0) _ HB9.out Try.underlying24 rfl size4k ?_
                  | (refine wpList_store_row rfl 24 _ _ rfl W3.heap.size #[.slice e1 f1 g1, .slice e2 f2 g2, .slice e3 f3 g3, .slice e4 f4 g4] #[.slice i1 j1 l1, .slice i2 j2 l2, .slice i3 j3 l3, .slice i4 j4 l4] 24 rfl rfl HE9.out size4k rfl (by kernel_rfl) ?_; intro W10 z1 z2 z3 z4)
                  | fail)
                have HX10 : Hid (XAt W10 W3.heap.size x.1 x.2.1 x.2.2.1 x.2.2.2) := ⟨i1, j1, l1, i2, j2, l2, i3, j3, l3, i4, j4, l4, z1, KV.store2 M1.out HE9.out z2, KV.store2 M2.out HE9.out z2, KV.store2 M3.out HE9.out z2, KV.store2 M4.out HE9.out z2⟩
                have HW10 : Hid (Below w.heap.size w W10) := HW9.out.trans (z4.mono HXB.out)
                clear z1 z2 z3 z4
                go_wp2_with fail
                go_roundw
                case rel => exact ⟨k + 1, x.1, x.2.1, x.2.2.1, x.2.2.2, by omega, by go_num, HX10, HF9, HW10⟩
                case measure => simp [intOf]; omega
      · skip
        go_simp
        have HBx011 : Hid (Below wr.heap.size wr (wr.drew.alloc (.cells #[.slice none 0 0, .slice none 0 0, .slice none 0 0, .slice none 0 0] 24))) := HB0.out.alloc HB0.out.size _
        have hsz011 : wr.drew.heap.size = wr.heap.size := by first | rfl | simp
        have HAL : Hid ((wr.drew.alloc (.cells #[.slice none 0 0, .slice none 0 0, .slice none 0 0, .slice none 0 0] 24)).heap[wr.heap.size]? = some (.cells nilK 24 (0, 0))) := by
          have h9 := heap_alloc_new wr.drew (.cells #[.slice none 0 0, .slice none 0 0, .slice none 0 0, .slice none 0 0] 24)
          rw [hsz011] at h9
          exact h9
        refine hK.out _ _ (HSV.out _ HBx011.out) (fun hHeld2 => ?_)
        clear hK K hHeld
        have hHeld := hHeld2
        clear hHeld2
        try simp only [List.getElem_toArray, List.getElem_cons_zero, List.getElem_cons_succ, Act.put, List.setIfInBounds_toArray, List.set_cons_zero, List.set_cons_succ]
        refine wpAnyH_ready (rs := [1]) (by kernel_rfl) (by simp) ?_
        refine AllReadyH.cons (o := _) rfl (fun K hK => ?_) AllReadyH.nil
        go_simp
        have HBx01 : Hid (Below wr.heap.size wr ((wr.drew.alloc (.cells #[.slice none 0 0, .slice none 0 0, .slice none 0 0, .slice none 0 0] 24)).alloc (.cells #[] 47))) := HBx011.out.alloc HBx011.out.size _
        have hsz01 : (wr.drew.alloc (.cells #[.slice none 0 0, .slice none 0 0, .slice none 0 0, .slice none 0 0] 24)).heap.size = wr.heap.size + 1 := by first | rfl | simp
        have HEM : Hid (((wr.drew.alloc (.cells #[.slice none 0 0, .slice none 0 0, .slice none 0 0, .slice none 0 0] 24)).alloc (.cells #[] 47)).ownsRow (wr.heap.size + 1) 47 13 (.slice (some ⟨wr.heap.size + 1, 0, none⟩) 0 0) 0 []) := by
          have h9 := empty_r (wr.drew.alloc (.cells #[.slice none 0 0, .slice none 0 0, .slice none 0 0, .slice none 0 0] 24)) (wr.drew.alloc (.cells #[.slice none 0 0, .slice none 0 0, .slice none 0 0, .slice none 0 0] 24)).heap.size (Nat.le_refl _)
          rw [hsz01] at h9
          exact h9
        have HAL' : Hid (((wr.drew.alloc (.cells #[.slice none 0 0, .slice none 0 0, .slice none 0 0, .slice none 0 0] 24)).alloc (.cells #[] 47)).heap[wr.heap.size]? = some (.cells nilK 24 (0, 0))) := (heap_alloc_old _ _ (lt_of_heap HAL.out)).trans HAL.out
        refine hK.out _ _ (HSV.out _ HBx01.out) (fun hHeld2 => ?_)
        clear hK K hHeld
        have hHeld := hHeld2
        clear hHeld2
        try simp only [List.getElem_toArray, List.getElem_cons_zero, List.getElem_cons_succ, Act.put, List.setIfInBounds_toArray, List.set_cons_zero, List.set_cons_succ]
        refine wpAnyH_ready (rs := [6]) (by kernel_rfl) (by simp) ?_
        refine AllReadyH.cons (o := _) rfl (fun K hK => ?_) AllReadyH.nil
        have hem9 : wr.heap.size + 1 ≤ ((wr.drew.alloc (.cells #[.slice none 0 0, .slice none 0 0, .slice none 0 0, .slice none 0 0] 24)).alloc (.cells #[] 47)).heap.size := by have := HBx01.out.size; first | omega | (simp; omega) | simp
        have hwe9 : wr.heap.size ≤ wr.heap.size + 1 := by omega
        obtain ⟨pa9, pc9, V1, rr9, hrs9, hbe9, hfr9⟩ := copy_rows _ (wr.heap.size + 1) HEM.out _ rm rc rk (HRS.out.below HBx01.out) hem9
        have HBc : Hid (Below wr.heap.size wr V1) := HBx01.out.trans (hbe9.mono hwe9)
        have HRC : Hid (RS V1 pa9 rm rk) := hrs9
        have HAL2 : Hid (V1.heap[wr.heap.size]? = some (.cells nilK 24 (0, 0))) := (hfr9 _ (lt_of_heap HAL'.out) (by omega)).trans HAL'.out
        refine wp_append_run _ _ 31 rfl _ _ rfl rfl _ rr9 ?_
        clear rr9 hrs9 hbe9 hfr9 hem9 hwe9
        refine hK.out _ _ (HSV.out _ HBc.out) (fun hHeld2 => ?_)
        clear hK K hHeld
        have hHeld := hHeld2
        clear hHeld2
        try simp only [List.getElem_toArray, List.getElem_cons_zero, List.getElem_cons_succ, Act.put, List.setIfInBounds_toArray, List.set_cons_zero, List.set_cons_succ]
        refine wpAnyH_ready (rs := [7]) (by kernel_rfl) (by simp) ?_
        refine AllReadyH.cons (o := _) rfl (fun K hK => ?_) AllReadyH.nil
        go_simp
        refine (UPp.out _ _ _ HBc.out HRC.out).mono ?_
        rintro e V2 hpost
        obtain ⟨r1, s1, t1, r2, s2, t2, r3, s3, t3, r4, s4, t4, er, rfl, hb9, hq9⟩ := agg_tuple hpost
        have HBd : Hid (Below wr.heap.size wr V2) := HBc.out.trans (hb9.mono HBc.out.size)
        have HQ : Hid (Posts V2 r1 s1 t1 r2 s2 t2 r3 s3 t3 r4 s4 t4 er (updS A B C D rk)) := hq9
        have HAL3 : Hid (V2.heap[wr.heap.size]? = some (.cells nilK 24 (0, 0))) := (hb9.block _ (lt_of_heap HAL2.out)).trans HAL2.out
        clear hpost hb9 hq9
        go_wp2_with fail
        refine hK.out _ _ (HSV.out _ HBd.out) (fun hHeld2 => ?_)
        clear hK K hHeld
        have hHeld := hHeld2
        clear hHeld2
        try simp only [List.getElem_toArray, List.getElem_cons_zero, List.getElem_cons_succ, Act.put, List.setIfInBounds_toArray, List.set_cons_zero, List.set_cons_succ]
        refine wpAnyH_take (i := 8) (v := ?_) rfl (by kernel_rfl) (by kernel_rfl) (by kernel_rfl) (fun _ _ _ h => h) (Or.inl ⟨by rfl, ?_⟩) (by assumption) ?_
        rotate_left
        · (intro w hSw; (try dsimp only at hSw); go_simp; try with_reducible rfl)
        try simp only [List.getElem_toArray, List.getElem_cons_zero, List.getElem_cons_succ, Act.put, List.setIfInBounds_toArray, List.set_cons_zero, List.set_cons_succ]
        refine wpAnyH_take (i := 9) (v := ?_) rfl (by kernel_rfl) (by kernel_rfl) (by kernel_rfl) (fun _ _ _ h => h) (Or.inl ⟨by rfl, ?_⟩) (by assumption) ?_
        rotate_left
        · (intro w hSw; (try dsimp only at hSw); go_simp; try with_reducible rfl)
        try simp only [List.getElem_toArray, List.getElem_cons_zero, List.getElem_cons_succ, Act.put, List.setIfInBounds_toArray, List.set_cons_zero, List.set_cons_succ]
        refine wpAnyH_take (i := 10) (v := ?_) rfl (by kernel_rfl) (by kernel_rfl) (by kernel_rfl) (fun _ _ _ h => h) (Or.inl ⟨by rfl, ?_⟩) (by assumption) ?_
        rotate_left
        · (intro w hSw; (try dsimp only at hSw); go_simp; try with_reducible rfl)
        try simp only [List.getElem_toArray, List.getElem_cons_zero, List.getElem_cons_succ, Act.put, List.setIfInBounds_toArray, List.set_cons_zero, List.set_cons_succ]
        refine wpAnyH_ready (rs := [12]) (by kernel_rfl) (by simp) ?_
        refine AllReadyH.cons (o := _) rfl (fun K hK => ?_) AllReadyH.nil
        refine wp_store_row 24 _ _ rfl (wr.heap.size) nilK #[.slice r1 s1 t1, .slice r2 s2 t2, .slice r3 s3 t3, .slice r4 s4 t4] 24 rfl rfl HAL3.out size4k rfl (by kernel_rfl) ?_
        intro Wz z1 z2 z3 z4
        have HPZ : Hid (Wz.heap[wr.heap.size]? = some (.cells #[.slice r1 s1 t1, .slice r2 s2 t2, .slice r3 s3 t3, .slice r4 s4 t4] 24 (0, 0))) := z1
        have HAW : Hid (wr.heap.size ≤ wr.heap.size) := (by have := HB0.out.size; first | omega | (have := HBc.out.size; omega) | (have := HBd.out.size; omega) : wr.heap.size ≤ wr.heap.size)
        have HBZ : Hid (Below wr.heap.size wr Wz) := HBd.out.trans (z4.mono HAW.out)
        have HQZ : Hid (Posts Wz r1 s1 t1 r2 s2 t2 r3 s3 t3 r4 s4 t4 er (updS A B C D rk)) := Posts.store HQ.out HAL3.out z2
        refine hK.out _ _ (HSV.out _ HBZ.out) (fun hHeld2 => ?_)
        clear hK K hHeld z1 z2 z3 z4
        have hHeld := hHeld2
        clear hHeld2
        try simp only [List.getElem_toArray, List.getElem_cons_zero, List.getElem_cons_succ, Act.put, List.setIfInBounds_toArray, List.set_cons_zero, List.set_cons_succ]
        refine wpAnyH_take (i := 13) (v := ?_) rfl (by kernel_rfl) (by kernel_rfl) (by kernel_rfl) (fun _ _ _ h => h) (Or.inl ⟨by rfl, ?_⟩) (by assumption) ?_
        rotate_left
        · (intro w hSw; (try dsimp only at hSw); go_simp; try with_reducible rfl)
        try simp only [List.getElem_toArray, List.getElem_cons_zero, List.getElem_cons_succ, Act.put, List.setIfInBounds_toArray, List.set_cons_zero, List.set_cons_succ]
        refine wpAnyH_done (by kernel_rfl) ?_ _
        clear hHeld
        have HSZ : Hid (∀ V, Below Wz.heap.size Wz V → V.heap[W3.heap.size]? = some (.cells #[.slice e1 f1 g1, .slice e2 f2 g2, .slice e3 f3 g3, .slice e4 f4 g4] 24 (0, 0)) ∧ V.cell? ⟨lb, off + k, none⟩ = some (.slice ra rm rc)) := fun V hV => HSV.out V (HBZ.out.trans (hV.mono HBZ.out.size))
        have HBZ0 : Hid (Below Wz.heap.size Wz Wz.drew) := (Below.refl _ _).drew
        go_wp2_with fail
        refine wp_region_held_drew (S := (fun V => V.heap[W3.heap.size]? = some (.cells #[.slice e1 f1 g1, .slice e2 f2 g2, .slice e3 f3 g3, .slice e4 f4 g4] 24 (0, 0)) ∧ V.cell? ⟨lb, off + k, none⟩ = some (.slice ra rm rc))) (by kernel_rfl) ?_ (fun hHeld => ?_)
        · exact HSZ.out _ HBZ0.out
        refine wpAnyH_take (i := 0) (v := .agg #[.slice e1 f1 g1, .slice e2 f2 g2, .slice e3 f3 g3, .slice e4 f4 g4]) rfl (by kernel_rfl) (by kernel_rfl) (by kernel_rfl) (fun _ _ _ h => h) (yields_loadR (by rfl) 24 _ rfl W3.heap.size rfl 24 _ _ (fun _ h => h.1) Try.underlying24 rfl size4k) (by assumption) ?_
        try simp only [List.getElem_toArray, List.getElem_cons_zero, List.getElem_cons_succ, Act.put, List.setIfInBounds_toArray, List.set_cons_zero, List.set_cons_succ]
        refine wpAnyH_take (i := 1) (v := ?_) rfl (by kernel_rfl) (by kernel_rfl) (by kernel_rfl) (fun _ _ _ h => h) (Or.inl ⟨by rfl, ?_⟩) (by assumption) ?_
        rotate_left
        · (intro w hSw; (try dsimp only at hSw); go_simp; try with_reducible rfl)
        try simp only [List.getElem_toArray, List.getElem_cons_zero, List.getElem_cons_succ, Act.put, List.setIfInBounds_toArray, List.set_cons_zero, List.set_cons_succ]
        refine wpAnyH_take (i := 2) (v := ?_) rfl (by kernel_rfl) (by kernel_rfl) (by kernel_rfl) (fun _ _ _ h => h) (Or.inl ⟨by rfl, ?_⟩) (by assumption) ?_
        rotate_left
        · (intro w hSw; (try dsimp only at hSw); go_simp; try with_reducible rfl)
        try simp only [List.getElem_toArray, List.getElem_cons_zero, List.getElem_cons_succ, Act.put, List.setIfInBounds_toArray, List.set_cons_zero, List.set_cons_succ]
        refine wpAnyH_take (i := 3) (v := ?_) rfl (by kernel_rfl) (by kernel_rfl) (by kernel_rfl) (fun _ _ _ h => h) (Or.inl ⟨by rfl, ?_⟩) (by assumption) ?_
        rotate_left
        · (intro w hSw; (try dsimp only at hSw); go_simp; try with_reducible rfl)
        try simp only [List.getElem_toArray, List.getElem_cons_zero, List.getElem_cons_succ, Act.put, List.setIfInBounds_toArray, List.set_cons_zero, List.set_cons_succ]
        refine wpAnyH_take (i := 4) (v := ?_) rfl (by kernel_rfl) (by kernel_rfl) (by kernel_rfl) (fun _ _ _ h => h) (Or.inl ⟨by rfl, ?_⟩) (by assumption) ?_
        rotate_left
        · (intro w hSw; (try dsimp only at hSw); go_simp; try with_reducible rfl)
        try simp only [List.getElem_toArray, List.getElem_cons_zero, List.getElem_cons_succ, Act.put, List.setIfInBounds_toArray, List.set_cons_zero, List.set_cons_succ]
        refine wpAnyH_ready (rs := [5, 9]) (by kernel_rfl) (by simp) ?_
        refine AllReadyH.cons (o := _) rfl (fun K hK => ?_) (AllReadyH.cons (o := _) rfl (fun K hK => ?_) AllReadyH.nil)
        · skip
          go_simp
          refine (UPr.out _ (HBZ.out.trans (HBZ0.out.mono HBZ.out.size))).mono ?_
          rintro e V6 hpost
          obtain ⟨i1, j1, l1, i2, j2, l2, i3, j3, l3, i4, j4, l4, er2, rfl, hb9, hq9⟩ := agg_tuple hpost
          have HB6 : Hid (Below Wz.heap.size Wz V6) := HBZ0.out.trans (hb9.mono HBZ0.out.size)
          have HQ6 : Hid (Posts V6 i1 j1 l1 i2 j2 l2 i3 j3 l3 i4 j4 l4 er2 (updS A B C D rk)) := hq9
          clear hpost hb9 hq9
          go_wp2_with fail
          refine hK.out _ _ (HSZ.out _ HB6.out) (fun hHeld2 => ?_)
          clear hK K hHeld
          have hHeld := hHeld2
          clear hHeld2
          try simp only [List.getElem_toArray, List.getElem_cons_zero, List.getElem_cons_succ, Act.put, List.setIfInBounds_toArray, List.set_cons_zero, List.set_cons_succ]
          refine wpAnyH_take (i := 6) (v := ?_) rfl (by kernel_rfl) (by kernel_rfl) (by kernel_rfl) (fun _ _ _ h => h) (Or.inl ⟨by rfl, ?_⟩) (by assumption) ?_
          rotate_left
          · (intro w hSw; (try dsimp only at hSw); go_simp; try with_reducible rfl)
          try simp only [List.getElem_toArray, List.getElem_cons_zero, List.getElem_cons_succ, Act.put, List.setIfInBounds_toArray, List.set_cons_zero, List.set_cons_succ]
          refine wpAnyH_take (i := 7) (v := ?_) rfl (by kernel_rfl) (by kernel_rfl) (by kernel_rfl) (fun _ _ _ h => h) (Or.inl ⟨by rfl, ?_⟩) (by assumption) ?_
          rotate_left
          · (intro w hSw; (try dsimp only at hSw); go_simp; try with_reducible rfl)
          try simp only [List.getElem_toArray, List.getElem_cons_zero, List.getElem_cons_succ, Act.put, List.setIfInBounds_toArray, List.set_cons_zero, List.set_cons_succ]
          refine wpAnyH_take (i := 8) (v := ?_) rfl (by kernel_rfl) (by kernel_rfl) (by kernel_rfl) (fun _ _ _ h => h) (Or.inl ⟨by rfl, ?_⟩) (by assumption) ?_
          rotate_left
          · (intro w hSw; (try dsimp only at hSw); go_simp; try with_reducible rfl)
          try simp only [List.getElem_toArray, List.getElem_cons_zero, List.getElem_cons_succ, Act.put, List.setIfInBounds_toArray, List.set_cons_zero, List.set_cons_succ]
          refine wpAnyH_ready (rs := [9]) (by kernel_rfl) (by simp) ?_
          refine AllReadyH.cons (o := _) rfl (fun K hK => ?_) AllReadyH.nil
          go_simp
          have HB7 : Hid (Below Wz.heap.size Wz (V6.alloc (.cells #[.slice none 0 0, .slice none 0 0, .slice none 0 0, .slice none 0 0] 24))) := HB6.out.alloc HB6.out.size _
          have HA5 : Hid ((V6.alloc (.cells #[.slice none 0 0, .slice none 0 0, .slice none 0 0, .slice none 0 0] 24)).heap[V6.heap.size]? = some (.cells nilK 24 (0, 0))) := heap_alloc_new _ _
          have HQ7 : Hid (Posts (V6.alloc (.cells #[.slice none 0 0, .slice none 0 0, .slice none 0 0, .slice none 0 0] 24)) i1 j1 l1 i2 j2 l2 i3 j3 l3 i4 j4 l4 er2 (updS A B C D rk)) := Posts.below HQ6.out (below1 _ _)
          refine hK.out _ _ (HSZ.out _ HB7.out) (fun hHeld2 => ?_)
          clear hK K hHeld
          have hHeld := hHeld2
          clear hHeld2
          try simp only [List.getElem_toArray, List.getElem_cons_zero, List.getElem_cons_succ, Act.put, List.setIfInBounds_toArray, List.set_cons_zero, List.set_cons_succ]
          refine wpAnyH_ready (rs := [10]) (by kernel_rfl) (by simp) ?_
          refine AllReadyH.cons (o := _) rfl (fun K hK => ?_) AllReadyH.nil
          refine wp_store_row 24 _ _ rfl (V6.heap.size) nilK #[.slice i1 j1 l1, .slice i2 j2 l2, .slice i3 j3 l3, .slice i4 j4 l4] 24 rfl rfl HA5.out size4k rfl (by kernel_rfl) ?_
          intro Wy z1 z2 z3 z4
          have HPB : Hid (Wy.heap[V6.heap.size]? = some (.cells #[.slice i1 j1 l1, .slice i2 j2 l2, .slice i3 j3 l3, .slice i4 j4 l4] 24 (0, 0))) := z1
          have HPBW : Hid (Wz.heap.size ≤ V6.heap.size) := (by first | exact Nat.le_refl _ | exact HB6.out.size : Wz.heap.size ≤ V6.heap.size)
          have HBY : Hid (Below Wz.heap.size Wz Wy) := HB7.out.trans (z4.mono HPBW.out)
          have HQY : Hid (Posts Wy i1 j1 l1 i2 j2 l2 i3 j3 l3 i4 j4 l4 er2 (updS A B C D rk)) := Posts.store HQ7.out HA5.out z2
          have HPA : Hid (Wy.heap[wr.heap.size]? = some (.cells #[.slice r1 s1 t1, .slice r2 s2 t2, .slice r3 s3 t3, .slice r4 s4 t4] 24 (0, 0))) := (HBY.out.block _ (lt_of_heap HPZ.out)).trans HPZ.out
          have HQA : Hid (Posts Wy r1 s1 t1 r2 s2 t2 r3 s3 t3 r4 s4 t4 er (updS A B C D rk)) := Posts.below HQZ.out HBY.out
          refine hK.out _ _ (HSZ.out _ HBY.out) (fun hHeld2 => ?_)
          clear hK K hHeld z1 z2 z3 z4
          have hHeld := hHeld2
          clear hHeld2
          try simp only [List.getElem_toArray, List.getElem_cons_zero, List.getElem_cons_succ, Act.put, List.setIfInBounds_toArray, List.set_cons_zero, List.set_cons_succ]
          refine wpAnyH_take (i := 11) (v := ?_) rfl (by kernel_rfl) (by kernel_rfl) (by kernel_rfl) (fun _ _ _ h => h) (Or.inl ⟨by rfl, ?_⟩) (by assumption) ?_
          rotate_left
          · (intro w hSw; (try dsimp only at hSw); go_simp; try with_reducible rfl)
          try simp only [List.getElem_toArray, List.getElem_cons_zero, List.getElem_cons_succ, Act.put, List.setIfInBounds_toArray, List.set_cons_zero, List.set_cons_succ]
          refine wpAnyH_done (by kernel_rfl) ?_ _
          clear hHeld
          have HRY : Hid (Below wr.heap.size wr Wy) := HBZ.out.trans (HBY.out.mono HBZ.out.size)
          have HXY : Hid (XAt Wy W3.heap.size A B C D) := XAt.below HX.out HRY.out
          have HWY : Hid (Below w.heap.size w Wy) := HB.out.trans (HRY.out.mono HB.out.size)
          go_wp2_with (first
            | refine wpList_load_row rfl 24 _ rfl (wr.heap.size) rfl 24 #[.slice r1 s1 t1, .slice r2 s2 t2, .slice r3 s3 t3, .slice r4 s4 t4] (0, 0) _ HPA.out Try.underlying24 rfl size4k ?_
            | refine wpList_load_row rfl 24 _ rfl (V6.heap.size) rfl 24 #[.slice i1 j1 l1, .slice i2 j2 l2, .slice i3 j3 l3, .slice i4 j4 l4] (0, 0) _ HPB.out Try.underlying24 rfl size4k ?_
            | fail)
          rcases HQA.out with ⟨hn, rfl, k1, k2, k3, k4⟩ | ⟨x, hn, rfl, k1, k2, k3, k4⟩
          · rcases HQY.out with ⟨hn2, rfl, m1, m2, m3, m4⟩ | ⟨x2, hn2, _⟩
            · refine (same_eq _ _ _ _ _ _ _ _ [] [] [] [] _ k1 k2 k3 k4 m1 m2 m3 m4).mono ?_
              rintro e W9 ⟨rfl, hb9⟩
              have HX9 : Hid (XAt W9 W3.heap.size A B C D) := XAt.below HXY.out hb9
              have HW9 : Hid (Below w.heap.size w W9) := HWY.out.trans (hb9.mono HWY.out.size)
              clear hb9 k1 k2 k3 k4 m1 m2 m3 m4 hn hn2
              go_wp2_with fail
              go_roundw
              case rel => exact ⟨k + 1, A, B, C, D, by omega, by go_num, HX9, HF, HW9⟩
              case measure => simp [intOf]; omega
            · rw [hn] at hn2; cases hn2
          · rcases HQY.out with ⟨hn2, _⟩ | ⟨x2, hn2, rfl, m1, m2, m3, m4⟩
            · rw [hn] at hn2; cases hn2
            · obtain rfl : x = x2 := by rw [hn] at hn2; cases hn2; rfl
              refine (same_eq _ _ _ _ _ _ _ _ _ _ _ _ _ k1 k2 k3 k4 m1 m2 m3 m4).mono ?_
              rintro e W9 ⟨rfl, hb9⟩
              have HW9 : Hid (Below w.heap.size w W9) := HWY.out.trans (hb9.mono HWY.out.size)
              have HB9 : Hid (W9.heap[V6.heap.size]? = some (.cells #[.slice i1 j1 l1, .slice i2 j2 l2, .slice i3 j3 l3, .slice i4 j4 l4] 24 (0, 0))) := (hb9.block _ (lt_of_heap HPB.out)).trans HPB.out
              have HE9 : Hid (W9.heap[W3.heap.size]? = some (.cells #[.slice e1 f1 g1, .slice e2 f2 g2, .slice e3 f3 g3, .slice e4 f4 g4] 24 (0, 0))) := ((HRY.out.trans (hb9.mono HRY.out.size)).block _ hxw).trans HXK.out
              have M1 : Hid _ := m1.below hb9
              have M2 : Hid _ := m2.below hb9
              have M3 : Hid _ := m3.below hb9
              have M4 : Hid _ := m4.below hb9
              have HF9 : Hid (Few x.1 x.2.1 x.2.2.1 x.2.2.2) := few_upd hn HRS.out
              clear hb9 k1 k2 k3 k4 m1 m2 m3 m4 hn hn2
              go_wp2_with (first
                | refine wpList_load_row rfl 24 _ rfl (V6.heap.size) rfl 24 #[.slice i1 j1 l1, .slice i2 j2 l2, .slice i3 j3 l3, .slice i4 j4 l4] (0, 0) _ HB9.out Try.underlying24 rfl size4k ?_
                | (refine wpList_store_row rfl 24 _ _ rfl W3.heap.size #[.slice e1 f1 g1, .slice e2 f2 g2, .slice e3 f3 g3, .slice e4 f4 g4] #[.slice i1 j1 l1, .slice i2 j2 l2, .slice i3 j3 l3, .slice i4 j4 l4] 24 rfl rfl HE9.out size4k rfl (by kernel_rfl) ?_; intro W10 z1 z2 z3 z4)
                | fail)
              have HX10 : Hid (XAt W10 W3.heap.size x.1 x.2.1 x.2.2.1 x.2.2.2) := ⟨i1, j1, l1, i2, j2, l2, i3, j3, l3, i4, j4, l4, z1, KV.store2 M1.out HE9.out z2, KV.store2 M2.out HE9.out z2, KV.store2 M3.out HE9.out z2, KV.store2 M4.out HE9.out z2⟩
              have HW10 : Hid (Below w.heap.size w W10) := HW9.out.trans (z4.mono HXB.out)
              clear z1 z2 z3 z4
              go_wp2_with fail
              go_roundw
              case rel => exact ⟨k + 1, x.1, x.2.1, x.2.2.1, x.2.2.2, by omega, by go_num, HX10, HF9, HW10⟩
              case measure => simp [intOf]; omega
        · skip
          go_simp
          have HB7 : Hid (Below Wz.heap.size Wz (Wz.drew.alloc (.cells #[.slice none 0 0, .slice none 0 0, .slice none 0 0, .slice none 0 0] 24))) := HBZ0.out.alloc HBZ0.out.size _
          have HA5 : Hid ((Wz.drew.alloc (.cells #[.slice none 0 0, .slice none 0 0, .slice none 0 0, .slice none 0 0] 24)).heap[Wz.heap.size]? = some (.cells nilK 24 (0, 0))) := heap_alloc_new _ _
          refine hK.out _ _ (HSZ.out _ HB7.out) (fun hHeld2 => ?_)
          clear hK K hHeld
          have hHeld := hHeld2
          clear hHeld2
          try simp only [List.getElem_toArray, List.getElem_cons_zero, List.getElem_cons_succ, Act.put, List.setIfInBounds_toArray, List.set_cons_zero, List.set_cons_succ]
          refine wpAnyH_ready (rs := [5]) (by kernel_rfl) (by simp) ?_
          refine AllReadyH.cons (o := _) rfl (fun K hK => ?_) AllReadyH.nil
          go_simp
          refine (UPr.out _ (HBZ.out.trans (HB7.out.mono HBZ.out.size))).mono ?_
          rintro e V6 hpost
          obtain ⟨i1, j1, l1, i2, j2, l2, i3, j3, l3, i4, j4, l4, er2, rfl, hb9, hq9⟩ := agg_tuple hpost
          have HB6 : Hid (Below Wz.heap.size Wz V6) := HB7.out.trans (hb9.mono HB7.out.size)
          have HQ6 : Hid (Posts V6 i1 j1 l1 i2 j2 l2 i3 j3 l3 i4 j4 l4 er2 (updS A B C D rk)) := hq9
          have HA6 : Hid (V6.heap[Wz.heap.size]? = some (.cells nilK 24 (0, 0))) := (hb9.block _ (lt_of_heap HA5.out)).trans HA5.out
          clear hpost hb9 hq9
          go_wp2_with fail
          refine hK.out _ _ (HSZ.out _ HB6.out) (fun hHeld2 => ?_)
          clear hK K hHeld
          have hHeld := hHeld2
          clear hHeld2
          try simp only [List.getElem_toArray, List.getElem_cons_zero, List.getElem_cons_succ, Act.put, List.setIfInBounds_toArray, List.set_cons_zero, List.set_cons_succ]
          refine wpAnyH_take (i := 6) (v := ?_) rfl (by kernel_rfl) (by kernel_rfl) (by kernel_rfl) (fun _ _ _ h => h) (Or.inl ⟨by rfl, ?_⟩) (by assumption) ?_
          rotate_left
          · (intro w hSw; (try dsimp only at hSw); go_simp; try with_reducible rfl)
          try simp only [List.getElem_toArray, List.getElem_cons_zero, List.getElem_cons_succ, Act.put, List.setIfInBounds_toArray, List.set_cons_zero, List.set_cons_succ]
          refine wpAnyH_take (i := 7) (v := ?_) rfl (by kernel_rfl) (by kernel_rfl) (by kernel_rfl) (fun _ _ _ h => h) (Or.inl ⟨by rfl, ?_⟩) (by assumption) ?_
          rotate_left
          · (intro w hSw; (try dsimp only at hSw); go_simp; try with_reducible rfl)
          try simp only [List.getElem_toArray, List.getElem_cons_zero, List.getElem_cons_succ, Act.put, List.setIfInBounds_toArray, List.set_cons_zero, List.set_cons_succ]
          refine wpAnyH_take (i := 8) (v := ?_) rfl (by kernel_rfl) (by kernel_rfl) (by kernel_rfl) (fun _ _ _ h => h) (Or.inl ⟨by rfl, ?_⟩) (by assumption) ?_
          rotate_left
          · (intro w hSw; (try dsimp only at hSw); go_simp; try with_reducible rfl)
          try simp only [List.getElem_toArray, List.getElem_cons_zero, List.getElem_cons_succ, Act.put, List.setIfInBounds_toArray, List.set_cons_zero, List.set_cons_succ]
          refine wpAnyH_ready (rs := [10]) (by kernel_rfl) (by simp) ?_
          refine AllReadyH.cons (o := _) rfl (fun K hK => ?_) AllReadyH.nil
          refine wp_store_row 24 _ _ rfl (Wz.heap.size) nilK #[.slice i1 j1 l1, .slice i2 j2 l2, .slice i3 j3 l3, .slice i4 j4 l4] 24 rfl rfl HA6.out size4k rfl (by kernel_rfl) ?_
          intro Wy z1 z2 z3 z4
          have HPB : Hid (Wy.heap[Wz.heap.size]? = some (.cells #[.slice i1 j1 l1, .slice i2 j2 l2, .slice i3 j3 l3, .slice i4 j4 l4] 24 (0, 0))) := z1
          have HPBW : Hid (Wz.heap.size ≤ Wz.heap.size) := (by first | exact Nat.le_refl _ | exact HB6.out.size : Wz.heap.size ≤ Wz.heap.size)
          have HBY : Hid (Below Wz.heap.size Wz Wy) := HB6.out.trans (z4.mono HPBW.out)
          have HQY : Hid (Posts Wy i1 j1 l1 i2 j2 l2 i3 j3 l3 i4 j4 l4 er2 (updS A B C D rk)) := Posts.store HQ6.out HA6.out z2
          have HPA : Hid (Wy.heap[wr.heap.size]? = some (.cells #[.slice r1 s1 t1, .slice r2 s2 t2, .slice r3 s3 t3, .slice r4 s4 t4] 24 (0, 0))) := (HBY.out.block _ (lt_of_heap HPZ.out)).trans HPZ.out
          have HQA : Hid (Posts Wy r1 s1 t1 r2 s2 t2 r3 s3 t3 r4 s4 t4 er (updS A B C D rk)) := Posts.below HQZ.out HBY.out
          refine hK.out _ _ (HSZ.out _ HBY.out) (fun hHeld2 => ?_)
          clear hK K hHeld z1 z2 z3 z4
          have hHeld := hHeld2
          clear hHeld2
          try simp only [List.getElem_toArray, List.getElem_cons_zero, List.getElem_cons_succ, Act.put, List.setIfInBounds_toArray, List.set_cons_zero, List.set_cons_succ]
          refine wpAnyH_take (i := 11) (v := ?_) rfl (by kernel_rfl) (by kernel_rfl) (by kernel_rfl) (fun _ _ _ h => h) (Or.inl ⟨by rfl, ?_⟩) (by assumption) ?_
          rotate_left
          · (intro w hSw; (try dsimp only at hSw); go_simp; try with_reducible rfl)
          try simp only [List.getElem_toArray, List.getElem_cons_zero, List.getElem_cons_succ, Act.put, List.setIfInBounds_toArray, List.set_cons_zero, List.set_cons_succ]
          refine wpAnyH_done (by kernel_rfl) ?_ _
          clear hHeld
          have HRY : Hid (Below wr.heap.size wr Wy) := HBZ.out.trans (HBY.out.mono HBZ.out.size)
          have HXY : Hid (XAt Wy W3.heap.size A B C D) := XAt.below HX.out HRY.out
          have HWY : Hid (Below w.heap.size w Wy) := HB.out.trans (HRY.out.mono HB.out.size)
          go_wp2_with (first
            | refine wpList_load_row rfl 24 _ rfl (wr.heap.size) rfl 24 #[.slice r1 s1 t1, .slice r2 s2 t2, .slice r3 s3 t3, .slice r4 s4 t4] (0, 0) _ HPA.out Try.underlying24 rfl size4k ?_
            | refine wpList_load_row rfl 24 _ rfl (Wz.heap.size) rfl 24 #[.slice i1 j1 l1, .slice i2 j2 l2, .slice i3 j3 l3, .slice i4 j4 l4] (0, 0) _ HPB.out Try.underlying24 rfl size4k ?_
            | fail)
          rcases HQA.out with ⟨hn, rfl, k1, k2, k3, k4⟩ | ⟨x, hn, rfl, k1, k2, k3, k4⟩
          · rcases HQY.out with ⟨hn2, rfl, m1, m2, m3, m4⟩ | ⟨x2, hn2, _⟩
            · refine (same_eq _ _ _ _ _ _ _ _ [] [] [] [] _ k1 k2 k3 k4 m1 m2 m3 m4).mono ?_
              rintro e W9 ⟨rfl, hb9⟩
              have HX9 : Hid (XAt W9 W3.heap.size A B C D) := XAt.below HXY.out hb9
              have HW9 : Hid (Below w.heap.size w W9) := HWY.out.trans (hb9.mono HWY.out.size)
              clear hb9 k1 k2 k3 k4 m1 m2 m3 m4 hn hn2
              go_wp2_with fail
              go_roundw
              case rel => exact ⟨k + 1, A, B, C, D, by omega, by go_num, HX9, HF, HW9⟩
              case measure => simp [intOf]; omega
            · rw [hn] at hn2; cases hn2
          · rcases HQY.out with ⟨hn2, _⟩ | ⟨x2, hn2, rfl, m1, m2, m3, m4⟩
            · rw [hn] at hn2; cases hn2
            · obtain rfl : x = x2 := by rw [hn] at hn2; cases hn2; rfl
              refine (same_eq _ _ _ _ _ _ _ _ _ _ _ _ _ k1 k2 k3 k4 m1 m2 m3 m4).mono ?_
              rintro e W9 ⟨rfl, hb9⟩
              have HW9 : Hid (Below w.heap.size w W9) := HWY.out.trans (hb9.mono HWY.out.size)
              have HB9 : Hid (W9.heap[Wz.heap.size]? = some (.cells #[.slice i1 j1 l1, .slice i2 j2 l2, .slice i3 j3 l3, .slice i4 j4 l4] 24 (0, 0))) := (hb9.block _ (lt_of_heap HPB.out)).trans HPB.out
              have HE9 : Hid (W9.heap[W3.heap.size]? = some (.cells #[.slice e1 f1 g1, .slice e2 f2 g2, .slice e3 f3 g3, .slice e4 f4 g4] 24 (0, 0))) := ((HRY.out.trans (hb9.mono HRY.out.size)).block _ hxw).trans HXK.out
              have M1 : Hid _ := m1.below hb9
              have M2 : Hid _ := m2.below hb9
              have M3 : Hid _ := m3.below hb9
              have M4 : Hid _ := m4.below hb9
              have HF9 : Hid (Few x.1 x.2.1 x.2.2.1 x.2.2.2) := few_upd hn HRS.out
              clear hb9 k1 k2 k3 k4 m1 m2 m3 m4 hn hn2
              go_wp2_with (first
                | refine wpList_load_row rfl 24 _ rfl (Wz.heap.size) rfl 24 #[.slice i1 j1 l1, .slice i2 j2 l2, .slice i3 j3 l3, .slice i4 j4 l4] (0, 0) _ HB9.out Try.underlying24 rfl size4k ?_
                | (refine wpList_store_row rfl 24 _ _ rfl W3.heap.size #[.slice e1 f1 g1, .slice e2 f2 g2, .slice e3 f3 g3, .slice e4 f4 g4] #[.slice i1 j1 l1, .slice i2 j2 l2, .slice i3 j3 l3, .slice i4 j4 l4] 24 rfl rfl HE9.out size4k rfl (by kernel_rfl) ?_; intro W10 z1 z2 z3 z4)
                | fail)
              have HX10 : Hid (XAt W10 W3.heap.size x.1 x.2.1 x.2.2.1 x.2.2.2) := ⟨i1, j1, l1, i2, j2, l2, i3, j3, l3, i4, j4, l4, z1, KV.store2 M1.out HE9.out z2, KV.store2 M2.out HE9.out z2, KV.store2 M3.out HE9.out z2, KV.store2 M4.out HE9.out z2⟩
              have HW10 : Hid (Below w.heap.size w W10) := HW9.out.trans (z4.mono HXB.out)
              clear z1 z2 z3 z4
              go_wp2_with fail
              go_roundw
              case rel => exact ⟨k + 1, x.1, x.2.1, x.2.2.1, x.2.2.2, by omega, by go_num, HX10, HF9, HW10⟩
              case measure => simp [intOf]; omega
    · obtain rfl : n = k := by omega
      go_wp2
      go_ret
      exact ⟨rfl, HB.out⟩
end Go.Proofs.Ythejehbhjkmeeaa
