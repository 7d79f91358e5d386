/- The law KeysStay, but for its frame. Conditions: keys and rows can be read. -/
import Derived.Test.YthejehbhjkmeeaaKX
namespace Go.Proofs.Ythejehbhjkmeeaa
open Go.RowKit
/-- The rest of a body as a letter. -/
theorem cut_code {P : Program} {c d : Code} {Q : Exit → Act → World → Prop} {a : Act} {w : World} (h : ∀ d', Hid (d = d') → Code.wp P (c.seq d') Q a w) : Code.wp P (c.seq d) Q a w := h d rfl
theorem keys_slices {w : World} {v : Value} {A : List Ky} (h : KV w v A) : ∃ a n c, v = .slice a n c := by obtain ⟨a, n, c, e, _⟩ := h; exact ⟨a, n, c, e⟩
theorem find_call {w W : World} {a : Option Addr} {n c : Nat} {A : List Ky} (h : KV w (.slice a n c) A) (s : ByteArray) (hb : Below w.heap.size w W) : Calls Try.prog 13 #[.slice a n c, .string s] W fun e w' => e = .returned (findV A s) ∧ Below W.heap.size W w' := by
  obtain ⟨a1, n1, c1, e, _, k⟩ := h
  cases e
  exact find_any _ _ _ A s W (k.below hb)
theorem kv_ks {w : World} {a : Option Addr} {n c : Nat} {A : List Ky} (h : KV w (.slice a n c) A) : KS w a n A := by
  obtain ⟨a1, n1, c1, e, _, k⟩ := h
  cases e
  exact k
set_option linter.unusedSimpArgs false in
set_option maxRecDepth 20000 in
set_option maxHeartbeats 8000000 in
theorem stay_any (v1 v2 v3 v4 : Value) (a b c d : List Ky) (a2 : Option Addr) (n2 c2 : Nat) (rs : List Rw) (a3 : Option Addr) (n3 c3 : Nat) (ms : List Rw) (w : World) (h1 : KV w v1 a) (h2 : KV w v2 b) (h3 : KV w v3 c) (h4 : KV w v4 d) (hR : RS w a2 n2 rs) (hM : RS w a3 n3 ms) :
    Calls Try.prog 4 #[.agg #[v1, v2, v3, v4], .slice a2 n2 c2, .slice a3 n3 c3] w fun e w' => e = .returned (.bool true) ∧ Below w.heap.size w w' := by
  have UPD : Hid (∀ W, Below w.heap.size w W → Calls Try.prog 10 #[.agg #[v1, v2, v3, v4], .slice a2 n2 c2] W fun e w' => UpdPost W (updS a b c d rs) e w') := fun W hW =>
    update_any _ _ _ _ a b c d _ _ _ rs W (h1.below hW) (h2.below hW) (h3.below hW) (h4.below hW) (hR.below hW)
  obtain ⟨x1, y1, z1, rfl⟩ := keys_slices h1
  obtain ⟨x2, y2, z2, rfl⟩ := keys_slices h2
  obtain ⟨x3, y3, z3, rfl⟩ := keys_slices h3
  obtain ⟨x4, y4, z4, rfl⟩ := keys_slices h4
  have HR : Hid _ := hR
  have HM : Hid _ := hM
  have HBX : Hid _ := heap_alloc_new w (.cells #[.slice x1 y1 z1, .slice x2 y2 z2, .slice x3 y3 z3, .slice x4 y4 z4] 24)
  clear h1 h2 h3 h4 hR hM
  go_enter Try.func4, Try.ntmps4
  go_wp2_with fail
  refine (lives_any _).mono ?_
  rintro e W1 ⟨rfl, hb1⟩
  have BW1 : Hid (Below w.heap.size w W1) := (below1 _ _).trans (hb1.mono (by simp))
  have HX1 : Hid (W1.heap[w.heap.size]? = some (.cells #[.slice x1 y1 z1, .slice x2 y2 z2, .slice x3 y3 z3, .slice x4 y4 z4] 24 (0, 0))) := (hb1.block _ (by simp)).trans HBX.out
  clear hb1
  go_wp2_with (first
    | refine wpList_load_row rfl 24 _ rfl w.heap.size rfl 24 #[.slice x1 y1 z1, .slice x2 y2 z2, .slice x3 y3 z3, .slice x4 y4 z4] (0, 0) _ HX1.out Try.underlying24 rfl size4k ?_
    | fail)
  refine (UPD.out _ BW1.out).mono ?_
  rintro e W2 hp
  unfold UpdPost at hp
  cases hu : updS a b c d rs with
  | none =>
    rw [hu] at hp
    obtain ⟨hb2, rfl⟩ := hp
    have BW2 : Hid (Below w.heap.size w W2) := BW1.out.trans (hb2.mono BW1.out.size)
    have HA2 : Hid _ := heap_alloc_new W2 (.cells nilK 24)
    clear hb2 hu
    unfold nilK
    go_wp2_with (first
      | refine wpList_load_row rfl 24 _ rfl W2.heap.size rfl 24 nilK (0, 0) _ HA2.out Try.underlying24 rfl size4k ?_
      | fail)
    refine (same_eq _ _ _ _ _ _ _ _ [] [] [] [] _ KV.nil KV.nil KV.nil KV.nil KV.nil KV.nil KV.nil KV.nil).mono ?_
    rintro e W3 ⟨rfl, hb3⟩
    have BW3 : Hid (Below w.heap.size w W3) := BW2.out.trans (((below1 _ _).trans (hb3.mono (by simp))).mono BW2.out.size)
    clear hb3
    go_wp2
    go_ret
    exact ⟨rfl, BW3.out⟩
  | some x =>
    rw [hu] at hp
    obtain ⟨hb2, u1, u2, u3, u4, rfl, k1, k2, k3, k4⟩ := hp
    obtain ⟨r1, s1, t1, rfl⟩ := keys_slices k1
    obtain ⟨r2, s2, t2, rfl⟩ := keys_slices k2
    obtain ⟨r3, s3, t3, rfl⟩ := keys_slices k3
    obtain ⟨r4, s4, t4, rfl⟩ := keys_slices k4
    have BW2 : Hid (Below w.heap.size w W2) := BW1.out.trans (hb2.mono BW1.out.size)
    have HA2 : Hid ((W2.alloc (.cells #[.slice r1 s1 t1, .slice r2 s2 t2, .slice r3 s3 t3, .slice r4 s4 t4] 24)).heap[W2.heap.size]? = some (.cells #[.slice r1 s1 t1, .slice r2 s2 t2, .slice r3 s3 t3, .slice r4 s4 t4] 24 (0, 0))) := heap_alloc_new W2 _
    have UP2 : Hid (∀ W, Below W2.heap.size W2 W → Calls Try.prog 10 #[.agg #[.slice r1 s1 t1, .slice r2 s2 t2, .slice r3 s3 t3, .slice r4 s4 t4], .slice a2 n2 c2] W fun e w' => UpdPost W (some x) e w') := fun W hW => by
      rw [← upd_again hu]
      exact update_any _ _ _ _ _ _ _ _ _ _ _ rs W (k1.below hW) (k2.below hW) (k3.below hW) (k4.below hW) (HR.out.below (BW2.out.trans (hW.mono BW2.out.size)))
    have UP3 : Hid (∀ W, Below W2.heap.size W2 W → Calls Try.prog 10 #[.agg #[.slice r1 s1 t1, .slice r2 s2 t2, .slice r3 s3 t3, .slice r4 s4 t4], .slice a3 n3 c3] W fun e w' => UpdPost W (updS x.1 x.2.1 x.2.2.1 x.2.2.2 ms) e w') := fun W hW =>
      update_any _ _ _ _ _ _ _ _ _ _ _ ms W (k1.below hW) (k2.below hW) (k3.below hW) (k4.below hW) (HM.out.below (BW2.out.trans (hW.mono BW2.out.size)))
    have CHK : Hid (∀ W, Below W2.heap.size W2 W → Calls Try.prog 8 #[.agg #[.slice r1 s1 t1, .slice r2 s2 t2, .slice r3 s3 t3, .slice r4 s4 t4]] W fun e w' => e = .returned (.int .i64 0) ∧ Below W.heap.size W w') := fun W hW => by
      rw [← upd_right hu]
      exact check_any _ _ _ _ _ _ _ _ W (k1.below hW) (k2.below hW) (k3.below hW) (k4.below hW)
    have SAM : Hid (∀ W, Below W2.heap.size W2 W → ∀ p1 p2 p3 p4, KV W p1 x.1 → KV W p2 x.2.1 → KV W p3 x.2.2.1 → KV W p4 x.2.2.2 → Calls Try.prog 12 #[.agg #[.slice r1 s1 t1, .slice r2 s2 t2, .slice r3 s3 t3, .slice r4 s4 t4], .agg #[p1, p2, p3, p4]] W fun e w' => e = .returned (.bool true) ∧ Below W.heap.size W w') := fun W hW p1 p2 p3 p4 q1 q2 q3 q4 =>
      same_eq _ _ _ _ _ _ _ _ _ _ _ _ W (k1.below hW) (k2.below hW) (k3.below hW) (k4.below hW) q1 q2 q3 q4
    have FN3 : Hid (∀ W s, Below W2.heap.size W2 W → Calls Try.prog 13 #[.slice r3 s3 t3, .string s] W fun e w' => e = .returned (findV x.2.2.1 s) ∧ Below W.heap.size W w') := fun W s hW => find_call k3 s hW
    have FN2 : Hid (∀ W s, Below W2.heap.size W2 W → Calls Try.prog 13 #[.slice r2 s2 t2, .string s] W fun e w' => e = .returned (findV x.2.1 s) ∧ Below W.heap.size W w') := fun W s hW => find_call k2 s hW
    clear hb2 UPD hu k1 k2 k3 k4 HBX HX1
    go_wp2_with (first
      | refine wpList_load_row rfl 24 _ rfl W2.heap.size rfl 24 #[.slice r1 s1 t1, .slice r2 s2 t2, .slice r3 s3 t3, .slice r4 s4 t4] (0, 0) _ HA2.out Try.underlying24 rfl size4k ?_
      | fail)
    refine (UP2.out _ (below1 _ _)).mono ?_
    rintro e W3 hp
    unfold UpdPost at hp
    obtain ⟨hb3, g1, g2, g3, g4, rfl, m1, m2, m3, m4⟩ := hp
    obtain ⟨i1, j1, l1, rfl⟩ := keys_slices m1
    obtain ⟨i2, j2, l2, rfl⟩ := keys_slices m2
    obtain ⟨i3, j3, l3, rfl⟩ := keys_slices m3
    obtain ⟨i4, j4, l4, rfl⟩ := keys_slices m4
    have BA3 : Hid (Below W2.heap.size W2 W3) := (below1 _ _).trans (hb3.mono (by simp))
    have HA3 : Hid ((W3.alloc (.cells #[.slice i1 j1 l1, .slice i2 j2 l2, .slice i3 j3 l3, .slice i4 j4 l4] 24)).heap[W2.heap.size]? = some (.cells #[.slice r1 s1 t1, .slice r2 s2 t2, .slice r3 s3 t3, .slice r4 s4 t4] 24 (0, 0))) := (heap_alloc_old _ _ (by have := hb3.size; simp at this; omega)).trans ((hb3.block _ (by simp)).trans HA2.out)
    have M1 : Hid (KV W3 (.slice i1 j1 l1) x.1) := m1
    have M2 : Hid (KV W3 (.slice i2 j2 l2) x.2.1) := m2
    have M3 : Hid (KV W3 (.slice i3 j3 l3) x.2.2.1) := m3
    have M4 : Hid (KV W3 (.slice i4 j4 l4) x.2.2.2) := m4
    have HL3 : Hid (W2.heap.size < W3.heap.size) := by show _ < _; have := hb3.size; simp at this; omega
    clear hb3 m1 m2 m3 m4 UP2
    go_wp2_with (first
      | refine wpList_load_row rfl 24 _ rfl W2.heap.size rfl 24 #[.slice r1 s1 t1, .slice r2 s2 t2, .slice r3 s3 t3, .slice r4 s4 t4] (0, 0) _ HA3.out Try.underlying24 rfl size4k ?_
      | fail)
    refine (UP3.out _ (BA3.out.trans ((below1 _ _).mono BA3.out.size))).mono ?_
    rintro e W4 hp
    unfold UpdPost at hp
    cases hv : updS x.1 x.2.1 x.2.2.1 x.2.2.2 ms with
    | none =>
      rw [hv] at hp
      obtain ⟨hb4, rfl⟩ := hp
      unfold nilK
      clear hv
      have BA4 : Hid (Below W2.heap.size W2 W4) := BA3.out.trans (((below1 _ _).trans (hb4.mono (by simp))).mono BA3.out.size)
      have hs3 : W3.heap.size < W4.heap.size := by have := hb4.size; simp at this; omega
      have hs2 : W2.heap.size < W3.heap.size := by have := lt_of_heap HA3.out; have := BA3.out.size; have h9 := HL3.out; omega
      have HA4 : Hid ((W4.alloc (.cells #[.slice none 0 0, .slice none 0 0, .slice none 0 0, .slice none 0 0] 24)).heap[W2.heap.size]? = some (.cells #[.slice r1 s1 t1, .slice r2 s2 t2, .slice r3 s3 t3, .slice r4 s4 t4] 24 (0, 0))) := (heap_alloc_old _ _ (by omega)).trans ((hb4.block _ (by simp; omega)).trans HA3.out)
      have HB4 : Hid ((W4.alloc (.cells #[.slice none 0 0, .slice none 0 0, .slice none 0 0, .slice none 0 0] 24)).heap[W3.heap.size]? = some (.cells #[.slice i1 j1 l1, .slice i2 j2 l2, .slice i3 j3 l3, .slice i4 j4 l4] 24 (0, 0))) := (heap_alloc_old _ _ (by omega)).trans ((hb4.block _ (by simp)).trans (heap_alloc_new _ _))
      have HC4 : Hid ((W4.alloc (.cells #[.slice none 0 0, .slice none 0 0, .slice none 0 0, .slice none 0 0] 24)).heap[W4.heap.size]? = some (.cells #[.slice none 0 0, .slice none 0 0, .slice none 0 0, .slice none 0 0] 24 (0, 0))) := heap_alloc_new _ _
      have B34 : Hid (Below W3.heap.size W3 W4) := (below1 _ _).trans (hb4.mono (by simp))
      go_wp2_with (first
        | refine wpList_load_row rfl 24 _ rfl W2.heap.size rfl 24 #[.slice r1 s1 t1, .slice r2 s2 t2, .slice r3 s3 t3, .slice r4 s4 t4] (0, 0) _ HA4.out Try.underlying24 rfl size4k ?_
        | fail)
      refine (CHK.out _ (BA4.out.trans ((below1 _ _).mono BA4.out.size))).mono ?_
      rintro e W5 ⟨rfl, hb5⟩
      have hsz5 : (W4.alloc (.cells #[.slice none 0 0, .slice none 0 0, .slice none 0 0, .slice none 0 0] 24)).heap.size = W4.heap.size + 1 := by simp
      have BA5 : Hid (Below W2.heap.size W2 W5) := (BA4.out.trans ((below1 _ _).mono BA4.out.size)).trans (hb5.mono (by have := BA4.out.size; omega))
      have HA5 : Hid (W5.heap[W2.heap.size]? = some (.cells #[.slice r1 s1 t1, .slice r2 s2 t2, .slice r3 s3 t3, .slice r4 s4 t4] 24 (0, 0))) := (hb5.block _ (by omega)).trans HA4.out
      have HB5 : Hid (W5.heap[W3.heap.size]? = some (.cells #[.slice i1 j1 l1, .slice i2 j2 l2, .slice i3 j3 l3, .slice i4 j4 l4] 24 (0, 0))) := (hb5.block _ (by omega)).trans HB4.out
      have HC5 : Hid (W5.heap[W4.heap.size]? = some (.cells #[.slice none 0 0, .slice none 0 0, .slice none 0 0, .slice none 0 0] 24 (0, 0))) := (hb5.block _ (by omega)).trans HC4.out
      have B35 : Below W3.heap.size W3 W5 := B34.out.trans (((below1 _ _).trans (hb5.mono (by omega))).mono B34.out.size)
      have B45 : Hid (Below W4.heap.size W4 W5) := (below1 _ _).trans (hb5.mono (by omega))
      have SM5 : Hid _ := SAM.out W5 BA5.out _ _ _ _ (KV.below M1.out B35) (KV.below M2.out B35) (KV.below M3.out B35) (KV.below M4.out B35)
      clear hb4 hb5 hsz5 B35 hs2 hs3 HA4 HB4 HC4 HA3
      go_wp2_with (first
        | refine wpList_load_row rfl 24 _ rfl W2.heap.size rfl 24 #[.slice r1 s1 t1, .slice r2 s2 t2, .slice r3 s3 t3, .slice r4 s4 t4] (0, 0) _ HA5.out Try.underlying24 rfl size4k ?_
        | refine wpList_load_row rfl 24 _ rfl W3.heap.size rfl 24 #[.slice i1 j1 l1, .slice i2 j2 l2, .slice i3 j3 l3, .slice i4 j4 l4] (0, 0) _ HB5.out Try.underlying24 rfl size4k ?_
        | refine wpList_load_want (by rfl) 24 _ rfl W2.heap.size rfl 24 #[.slice r1 s1 t1, .slice r2 s2 t2, .slice r3 s3 t3, .slice r4 s4 t4] (0, 0) _ HA5.out Try.underlying24 rfl size4k ?_
        | refine wpList_load_want (by rfl) 24 _ rfl W3.heap.size rfl 24 #[.slice i1 j1 l1, .slice i2 j2 l2, .slice i3 j3 l3, .slice i4 j4 l4] (0, 0) _ HB5.out Try.underlying24 rfl size4k ?_
        | fail)
      refine Calls.mono SM5.out ?_
      rintro e W6 ⟨rfl, hb6⟩
      have BA6 : Hid (Below W2.heap.size W2 W6) := BA5.out.trans (hb6.mono BA5.out.size)
      have BW6 : Hid (Below w.heap.size w W6) := BW2.out.trans (BA6.out.mono BW2.out.size)
      have HA6 : Hid (W6.heap[W2.heap.size]? = some (.cells #[.slice r1 s1 t1, .slice r2 s2 t2, .slice r3 s3 t3, .slice r4 s4 t4] 24 (0, 0))) := (hb6.block _ (lt_of_heap HA5.out)).trans HA5.out
      have HC6 : Hid (W6.heap[W4.heap.size]? = some (.cells #[.slice none 0 0, .slice none 0 0, .slice none 0 0, .slice none 0 0] 24 (0, 0))) := (hb6.block _ (lt_of_heap HC5.out)).trans HC5.out
      have B46 : Hid (Below W4.heap.size W4 W6) := B45.out.trans (hb6.mono B45.out.size)
      clear hb6 HA5 HB5 HC5
      go_wp2
      go_ret
      exact ⟨rfl, BW6.out⟩
    | some y =>
      rw [hv] at hp
      obtain ⟨hb4, g1, g2, g3, g4, rfl, k1, k2, k3, k4⟩ := hp
      obtain ⟨o1, q1, z1, rfl⟩ := keys_slices k1
      obtain ⟨o2, q2, z2, rfl⟩ := keys_slices k2
      obtain ⟨o3, q3, z3, rfl⟩ := keys_slices k3
      obtain ⟨o4, q4, z4, rfl⟩ := keys_slices k4
      have ST : Hid _ := upd_stays hv
      have KC2 : Hid _ := kv_ks k2
      have KC3 : Hid _ := kv_ks k3
      have CH2 : Hid (∀ W, Below W4.heap.size W4 W → Calls Try.prog 8 #[.agg #[.slice o1 q1 z1, .slice o2 q2 z2, .slice o3 q3 z3, .slice o4 q4 z4]] W fun e w' => e = .returned (.int .i64 0) ∧ Below W.heap.size W w') := fun W hW => by
        rw [← upd_right hv]
        exact check_any _ _ _ _ _ _ _ _ W (k1.below hW) (k2.below hW) (k3.below hW) (k4.below hW)
      clear hv k1 k2 k3 k4
      have BA4 : Hid (Below W2.heap.size W2 W4) := BA3.out.trans (((below1 _ _).trans (hb4.mono (by simp))).mono BA3.out.size)
      have hs3 : W3.heap.size < W4.heap.size := by have := hb4.size; simp at this; omega
      have hs2 : W2.heap.size < W3.heap.size := by have := lt_of_heap HA3.out; have := BA3.out.size; have h9 := HL3.out; omega
      have HA4 : Hid ((W4.alloc (.cells #[.slice o1 q1 z1, .slice o2 q2 z2, .slice o3 q3 z3, .slice o4 q4 z4] 24)).heap[W2.heap.size]? = some (.cells #[.slice r1 s1 t1, .slice r2 s2 t2, .slice r3 s3 t3, .slice r4 s4 t4] 24 (0, 0))) := (heap_alloc_old _ _ (by omega)).trans ((hb4.block _ (by simp; omega)).trans HA3.out)
      have HB4 : Hid ((W4.alloc (.cells #[.slice o1 q1 z1, .slice o2 q2 z2, .slice o3 q3 z3, .slice o4 q4 z4] 24)).heap[W3.heap.size]? = some (.cells #[.slice i1 j1 l1, .slice i2 j2 l2, .slice i3 j3 l3, .slice i4 j4 l4] 24 (0, 0))) := (heap_alloc_old _ _ (by omega)).trans ((hb4.block _ (by simp)).trans (heap_alloc_new _ _))
      have HC4 : Hid ((W4.alloc (.cells #[.slice o1 q1 z1, .slice o2 q2 z2, .slice o3 q3 z3, .slice o4 q4 z4] 24)).heap[W4.heap.size]? = some (.cells #[.slice o1 q1 z1, .slice o2 q2 z2, .slice o3 q3 z3, .slice o4 q4 z4] 24 (0, 0))) := heap_alloc_new _ _
      have B34 : Hid (Below W3.heap.size W3 W4) := (below1 _ _).trans (hb4.mono (by simp))
      go_wp2_with (first
        | refine wpList_load_row rfl 24 _ rfl W2.heap.size rfl 24 #[.slice r1 s1 t1, .slice r2 s2 t2, .slice r3 s3 t3, .slice r4 s4 t4] (0, 0) _ HA4.out Try.underlying24 rfl size4k ?_
        | fail)
      refine (CHK.out _ (BA4.out.trans ((below1 _ _).mono BA4.out.size))).mono ?_
      rintro e W5 ⟨rfl, hb5⟩
      have hsz5 : (W4.alloc (.cells #[.slice o1 q1 z1, .slice o2 q2 z2, .slice o3 q3 z3, .slice o4 q4 z4] 24)).heap.size = W4.heap.size + 1 := by simp
      have BA5 : Hid (Below W2.heap.size W2 W5) := (BA4.out.trans ((below1 _ _).mono BA4.out.size)).trans (hb5.mono (by have := BA4.out.size; omega))
      have HA5 : Hid (W5.heap[W2.heap.size]? = some (.cells #[.slice r1 s1 t1, .slice r2 s2 t2, .slice r3 s3 t3, .slice r4 s4 t4] 24 (0, 0))) := (hb5.block _ (by omega)).trans HA4.out
      have HB5 : Hid (W5.heap[W3.heap.size]? = some (.cells #[.slice i1 j1 l1, .slice i2 j2 l2, .slice i3 j3 l3, .slice i4 j4 l4] 24 (0, 0))) := (hb5.block _ (by omega)).trans HB4.out
      have HC5 : Hid (W5.heap[W4.heap.size]? = some (.cells #[.slice o1 q1 z1, .slice o2 q2 z2, .slice o3 q3 z3, .slice o4 q4 z4] 24 (0, 0))) := (hb5.block _ (by omega)).trans HC4.out
      have B35 : Below W3.heap.size W3 W5 := B34.out.trans (((below1 _ _).trans (hb5.mono (by omega))).mono B34.out.size)
      have B45 : Hid (Below W4.heap.size W4 W5) := (below1 _ _).trans (hb5.mono (by omega))
      have SM5 : Hid _ := SAM.out W5 BA5.out _ _ _ _ (KV.below M1.out B35) (KV.below M2.out B35) (KV.below M3.out B35) (KV.below M4.out B35)
      clear hb4 hb5 hsz5 B35 hs2 hs3 HA4 HB4 HC4 HA3
      go_wp2_with (first
        | refine wpList_load_row rfl 24 _ rfl W2.heap.size rfl 24 #[.slice r1 s1 t1, .slice r2 s2 t2, .slice r3 s3 t3, .slice r4 s4 t4] (0, 0) _ HA5.out Try.underlying24 rfl size4k ?_
        | refine wpList_load_row rfl 24 _ rfl W3.heap.size rfl 24 #[.slice i1 j1 l1, .slice i2 j2 l2, .slice i3 j3 l3, .slice i4 j4 l4] (0, 0) _ HB5.out Try.underlying24 rfl size4k ?_
        | refine wpList_load_want (by rfl) 24 _ rfl W2.heap.size rfl 24 #[.slice r1 s1 t1, .slice r2 s2 t2, .slice r3 s3 t3, .slice r4 s4 t4] (0, 0) _ HA5.out Try.underlying24 rfl size4k ?_
        | refine wpList_load_want (by rfl) 24 _ rfl W3.heap.size rfl 24 #[.slice i1 j1 l1, .slice i2 j2 l2, .slice i3 j3 l3, .slice i4 j4 l4] (0, 0) _ HB5.out Try.underlying24 rfl size4k ?_
        | fail)
      refine Calls.mono SM5.out ?_
      rintro e W6 ⟨rfl, hb6⟩
      have BA6 : Hid (Below W2.heap.size W2 W6) := BA5.out.trans (hb6.mono BA5.out.size)
      have BW6 : Hid (Below w.heap.size w W6) := BW2.out.trans (BA6.out.mono BW2.out.size)
      have HA6 : Hid (W6.heap[W2.heap.size]? = some (.cells #[.slice r1 s1 t1, .slice r2 s2 t2, .slice r3 s3 t3, .slice r4 s4 t4] 24 (0, 0))) := (hb6.block _ (lt_of_heap HA5.out)).trans HA5.out
      have HC6 : Hid (W6.heap[W4.heap.size]? = some (.cells #[.slice o1 q1 z1, .slice o2 q2 z2, .slice o3 q3 z3, .slice o4 q4 z4] 24 (0, 0))) := (hb6.block _ (lt_of_heap HC5.out)).trans HC5.out
      have B46 : Hid (Below W4.heap.size W4 W6) := B45.out.trans (hb6.mono B45.out.size)
      clear hb6 HA5 HB5 HC5
      go_wp2_with fail
      go_loopw [13] (fun i wr => ∃ k : Nat, k ≤ q3 ∧ i = .int .i64 k ∧ Hid (Below W6.heap.size W6 wr)) (fun i _ => q3 - (intOf i).toNat)
      case atStart => exact ⟨0, by omega, rfl, Below.refl _ _⟩
      case round =>
        obtain ⟨k, hk, rfl, HB⟩ := hrel
        have hlenc := KC3.out.len
        have hroomc := KC3.out.room
        have hA := (HB.out.block _ (lt_of_heap HA6.out)).trans HA6.out
        have hC := (HB.out.block _ (lt_of_heap HC6.out)).trans HC6.out
        have cA : wr.cell? ⟨W2.heap.size, 2, none⟩ = some (.slice r3 s3 t3) := cell_row hA 2
        have cC : wr.cell? ⟨W4.heap.size, 2, none⟩ = some (.slice o3 q3 z3) := cell_row hC 2
        have hlA := lt_of_heap hA
        have hlC := lt_of_heap hC
        have B4r : Below W4.heap.size W4 wr := B46.out.trans (HB.out.mono B46.out.size)
        clear hA hC
        by_cases hlt : k < q3
        · have hkI : (k : Int) < q3 := by omega
          have hk0 : (0 : Int) ≤ k := by omega
          obtain ⟨o, ho⟩ := getK (os := y.2.2.1) (k := k) (by omega)
          obtain ⟨b9, off9, rfl, c0, c1, hbl⟩ := (KC3.out.below B4r).at ho
          have HST : Hid (∀ v, findK x.2.2.1 o.n = some v → v = o.v) := ST.out.1 o (List.mem_of_getElem? ho)
          have B2r : Hid (Below W2.heap.size W2 wr) := BA6.out.trans (HB.out.mono BA6.out.size)
          clear ho B4r
          obtain ⟨on, hon⟩ : ∃ on, o.n = on := ⟨_, rfl⟩
          obtain ⟨ov, hov⟩ : ∃ ov, o.v = ov := ⟨_, rfl⟩
          rw [hon, hov] at HST
          rw [hon] at c0
          rw [hov] at c1
          clear hon hov
          have HSW : Hid (∀ V, Below wr.heap.size wr V → V.cell? ⟨W2.heap.size, 2, none⟩ = some (.slice r3 s3 t3) ∧ V.cell? ⟨W4.heap.size, 2, none⟩ = some (.slice (some ⟨b9, off9, none⟩) q3 z3) ∧ V.cell? ⟨b9, off9 + k * 2, none⟩ = some (.string on) ∧ V.cell? ⟨b9, off9 + k * 2 + 1, none⟩ = some (.int .i64 ov)) := fun V hV =>
            ⟨(hV.cell (p := ⟨W2.heap.size, 2, none⟩) hlA).trans cA, (hV.cell (p := ⟨W4.heap.size, 2, none⟩) hlC).trans cC, (hV.cell (p := ⟨b9, off9 + k * 2, none⟩) hbl).trans c0, (hV.cell (p := ⟨b9, off9 + k * 2 + 1, none⟩) hbl).trans c1⟩
          go_wp2_with fail
          refine wp_region_held_drew (S := (fun V => V.cell? ⟨W2.heap.size, 2, none⟩ = some (.slice r3 s3 t3) ∧ V.cell? ⟨W4.heap.size, 2, none⟩ = some (.slice (some ⟨b9, off9, none⟩) q3 z3) ∧ V.cell? ⟨b9, off9 + k * 2, none⟩ = some (.string on) ∧ V.cell? ⟨b9, off9 + k * 2 + 1, none⟩ = some (.int .i64 ov))) (by kernel_rfl) ?_ (fun hHeld => ?_)
          · exact HSW.out _ (Below.refl _ _).drew
          refine wpAnyH_take (i := 0) (v := ?_) rfl (by kernel_rfl) (by kernel_rfl) (by kernel_rfl) (fun _ _ _ h => h) (Or.inl ⟨by rfl, ?_⟩) (by assumption) ?_
          rotate_left
          · (intro w hSw; (try dsimp only at hSw); go_simp; try with_reducible rfl)
          try simp only [List.getElem_toArray, List.getElem_cons_zero, List.getElem_cons_succ, Act.put, List.setIfInBounds_toArray, List.set_cons_zero, List.set_cons_succ]
          refine wpAnyH_take (i := 1) (v := ?_) rfl (by kernel_rfl) (by kernel_rfl) (by kernel_rfl) (fun _ _ _ h => h) (Or.inl ⟨by rfl, ?_⟩) (by assumption) ?_
          rotate_left
          · (intro w hSw; (try dsimp only at hSw); go_simp; try with_reducible rfl)
          try simp only [List.getElem_toArray, List.getElem_cons_zero, List.getElem_cons_succ, Act.put, List.setIfInBounds_toArray, List.set_cons_zero, List.set_cons_succ]
          refine wpAnyH_take (i := 2) (v := ?_) rfl (by kernel_rfl) (by kernel_rfl) (by kernel_rfl) (fun _ _ _ h => h) (Or.inl ⟨by rfl, ?_⟩) (by assumption) ?_
          rotate_left
          · (intro w hSw; (try dsimp only at hSw); go_simp; try with_reducible rfl)
          try simp only [List.getElem_toArray, List.getElem_cons_zero, List.getElem_cons_succ, Act.put, List.setIfInBounds_toArray, List.set_cons_zero, List.set_cons_succ]
          refine wpAnyH_take (i := 3) (v := ?_) rfl (by kernel_rfl) (by kernel_rfl) (by kernel_rfl) (fun _ _ _ h => h) (Or.inl ⟨by rfl, ?_⟩) (by assumption) ?_
          rotate_left
          · (intro w hSw; (try dsimp only at hSw); go_simp; try with_reducible rfl)
          try simp only [List.getElem_toArray, List.getElem_cons_zero, List.getElem_cons_succ, Act.put, List.setIfInBounds_toArray, List.set_cons_zero, List.set_cons_succ]
          refine wpAnyH_take (i := 4) (v := ?_) rfl (by kernel_rfl) (by kernel_rfl) (by kernel_rfl) (fun _ _ _ h => h) (Or.inl ⟨by rfl, ?_⟩) (by assumption) ?_
          rotate_left
          · (intro w hSw; (try dsimp only at hSw); go_simp; try with_reducible rfl)
          try simp only [List.getElem_toArray, List.getElem_cons_zero, List.getElem_cons_succ, Act.put, List.setIfInBounds_toArray, List.set_cons_zero, List.set_cons_succ]
          refine wpAnyH_take (i := 5) (v := ?_) rfl (by kernel_rfl) (by kernel_rfl) (by kernel_rfl) (fun _ _ _ h => h) (Or.inl ⟨by rfl, ?_⟩) (by assumption) ?_
          rotate_left
          · (intro w hSw; (try dsimp only at hSw); go_simp; try with_reducible rfl)
          try simp only [List.getElem_toArray, List.getElem_cons_zero, List.getElem_cons_succ, Act.put, List.setIfInBounds_toArray, List.set_cons_zero, List.set_cons_succ]
          refine wpAnyH_take (i := 6) (v := ?_) rfl (by kernel_rfl) (by kernel_rfl) (by kernel_rfl) (fun _ _ _ h => h) (Or.inl ⟨by rfl, ?_⟩) (by assumption) ?_
          rotate_left
          · (intro w hSw; (try dsimp only at hSw); go_simp; try with_reducible rfl)
          try simp only [List.getElem_toArray, List.getElem_cons_zero, List.getElem_cons_succ, Act.put, List.setIfInBounds_toArray, List.set_cons_zero, List.set_cons_succ]
          refine wpAnyH_take (i := 7) (v := ?_) rfl (by kernel_rfl) (by kernel_rfl) (by kernel_rfl) (fun _ _ _ h => h) (Or.inl ⟨by rfl, ?_⟩) (by assumption) ?_
          rotate_left
          · (intro w hSw; (try dsimp only at hSw); go_simp; try with_reducible rfl)
          try simp only [List.getElem_toArray, List.getElem_cons_zero, List.getElem_cons_succ, Act.put, List.setIfInBounds_toArray, List.set_cons_zero, List.set_cons_succ]
          refine wpAnyH_ready (rs := [8]) (by kernel_rfl) (by simp) ?_
          refine AllReadyH.cons (o := _) rfl (fun K hK => ?_) AllReadyH.nil
          go_simp
          refine (FN3.out _ on (B2r.out.trans (((Below.refl _ _).drew).mono B2r.out.size))).mono ?_
          rintro e W7 ⟨rfl, hb7⟩
          have B7 : Hid (Below wr.heap.size wr W7) := (Below.refl _ _).drew.trans (hb7.mono (by simp))
          have HB7 : Hid (Below W6.heap.size W6 W7) := HB.out.trans (B7.out.mono HB.out.size)
          obtain ⟨p1, p2, p3, p4⟩ := HSW.out _ B7.out
          clear hb7
          cases hf : findK x.2.2.1 on with
          | none =>
            rw [show findV x.2.2.1 on = .tuple #[.int .i64 0, .bool false] from by unfold findV; rw [hf]]
            go_wp2_with fail
            refine hK.out _ _ ⟨p1, p2, p3, p4⟩ (fun hHeld2 => ?_)
            clear hK K hHeld
            have hHeld := hHeld2
            clear hHeld2
            try simp only [List.getElem_toArray, List.getElem_cons_zero, List.getElem_cons_succ, Act.put, List.setIfInBounds_toArray, List.set_cons_zero, List.set_cons_succ]
            refine wpAnyH_take (i := 9) (v := ?_) rfl (by kernel_rfl) (by kernel_rfl) (by kernel_rfl) (fun _ _ _ h => h) (Or.inl ⟨by rfl, ?_⟩) (by assumption) ?_
            rotate_left
            · (intro w hSw; (try dsimp only at hSw); go_simp; try with_reducible rfl)
            try simp only [List.getElem_toArray, List.getElem_cons_zero, List.getElem_cons_succ, Act.put, List.setIfInBounds_toArray, List.set_cons_zero, List.set_cons_succ]
            refine wpAnyH_take (i := 10) (v := ?_) rfl (by kernel_rfl) (by kernel_rfl) (by kernel_rfl) (fun _ _ _ h => h) (Or.inl ⟨by rfl, ?_⟩) (by assumption) ?_
            rotate_left
            · (intro w hSw; (try dsimp only at hSw); go_simp; try with_reducible rfl)
            try simp only [List.getElem_toArray, List.getElem_cons_zero, List.getElem_cons_succ, Act.put, List.setIfInBounds_toArray, List.set_cons_zero, List.set_cons_succ]
            refine wpAnyH_take (i := 11) (v := ?_) rfl (by kernel_rfl) (by kernel_rfl) (by kernel_rfl) (fun _ _ _ h => h) (Or.inl ⟨by rfl, ?_⟩) (by assumption) ?_
            rotate_left
            · (intro w hSw; (try dsimp only at hSw); go_simp; try with_reducible rfl)
            try simp only [List.getElem_toArray, List.getElem_cons_zero, List.getElem_cons_succ, Act.put, List.setIfInBounds_toArray, List.set_cons_zero, List.set_cons_succ]
            refine wpAnyH_take (i := 12) (v := ?_) rfl (by kernel_rfl) (by kernel_rfl) (by kernel_rfl) (fun _ _ _ h => h) (Or.inl ⟨by rfl, ?_⟩) (by assumption) ?_
            rotate_left
            · (intro w hSw; (try dsimp only at hSw); go_simp; try with_reducible rfl)
            try simp only [List.getElem_toArray, List.getElem_cons_zero, List.getElem_cons_succ, Act.put, List.setIfInBounds_toArray, List.set_cons_zero, List.set_cons_succ]
            refine wpAnyH_take (i := 13) (v := ?_) rfl (by kernel_rfl) (by kernel_rfl) (by kernel_rfl) (fun _ _ _ h => h) (Or.inl ⟨by rfl, ?_⟩) (by assumption) ?_
            rotate_left
            · (intro w hSw; (try dsimp only at hSw); go_simp; try with_reducible rfl)
            try simp only [List.getElem_toArray, List.getElem_cons_zero, List.getElem_cons_succ, Act.put, List.setIfInBounds_toArray, List.set_cons_zero, List.set_cons_succ]
            refine wpAnyH_done (by kernel_rfl) ?_ _
            clear hHeld
            go_wp2
            go_roundw
            case rel => exact ⟨k + 1, by omega, by go_num, HB7⟩
            case measure => simp [intOf]; omega
          | some v9 =>
            have hv9 : v9 = ov := HST.out _ hf
            rw [hv9] at hf
            rw [show findV x.2.2.1 on = .tuple #[.int .i64 ov, .bool true] from by unfold findV; rw [hf]]
            clear hf hv9
            go_wp2_with fail
            refine hK.out _ _ ⟨p1, p2, p3, p4⟩ (fun hHeld2 => ?_)
            clear hK K hHeld
            have hHeld := hHeld2
            clear hHeld2
            try simp only [List.getElem_toArray, List.getElem_cons_zero, List.getElem_cons_succ, Act.put, List.setIfInBounds_toArray, List.set_cons_zero, List.set_cons_succ]
            refine wpAnyH_take (i := 9) (v := ?_) rfl (by kernel_rfl) (by kernel_rfl) (by kernel_rfl) (fun _ _ _ h => h) (Or.inl ⟨by rfl, ?_⟩) (by assumption) ?_
            rotate_left
            · (intro w hSw; (try dsimp only at hSw); go_simp; try with_reducible rfl)
            try simp only [List.getElem_toArray, List.getElem_cons_zero, List.getElem_cons_succ, Act.put, List.setIfInBounds_toArray, List.set_cons_zero, List.set_cons_succ]
            refine wpAnyH_take (i := 10) (v := ?_) rfl (by kernel_rfl) (by kernel_rfl) (by kernel_rfl) (fun _ _ _ h => h) (Or.inl ⟨by rfl, ?_⟩) (by assumption) ?_
            rotate_left
            · (intro w hSw; (try dsimp only at hSw); go_simp; try with_reducible rfl)
            try simp only [List.getElem_toArray, List.getElem_cons_zero, List.getElem_cons_succ, Act.put, List.setIfInBounds_toArray, List.set_cons_zero, List.set_cons_succ]
            refine wpAnyH_take (i := 11) (v := ?_) rfl (by kernel_rfl) (by kernel_rfl) (by kernel_rfl) (fun _ _ _ h => h) (Or.inl ⟨by rfl, ?_⟩) (by assumption) ?_
            rotate_left
            · (intro w hSw; (try dsimp only at hSw); go_simp; try with_reducible rfl)
            try simp only [List.getElem_toArray, List.getElem_cons_zero, List.getElem_cons_succ, Act.put, List.setIfInBounds_toArray, List.set_cons_zero, List.set_cons_succ]
            refine wpAnyH_take (i := 12) (v := ?_) rfl (by kernel_rfl) (by kernel_rfl) (by kernel_rfl) (fun _ _ _ h => h) (Or.inl ⟨by rfl, ?_⟩) (by assumption) ?_
            rotate_left
            · (intro w hSw; (try dsimp only at hSw); go_simp; try with_reducible rfl)
            try simp only [List.getElem_toArray, List.getElem_cons_zero, List.getElem_cons_succ, Act.put, List.setIfInBounds_toArray, List.set_cons_zero, List.set_cons_succ]
            refine wpAnyH_take (i := 13) (v := ?_) rfl (by kernel_rfl) (by kernel_rfl) (by kernel_rfl) (fun _ _ _ h => h) (Or.inl ⟨by rfl, ?_⟩) (by assumption) ?_
            rotate_left
            · (intro w hSw; (try dsimp only at hSw); go_simp; try with_reducible rfl)
            try simp only [List.getElem_toArray, List.getElem_cons_zero, List.getElem_cons_succ, Act.put, List.setIfInBounds_toArray, List.set_cons_zero, List.set_cons_succ]
            refine wpAnyH_done (by kernel_rfl) ?_ _
            clear hHeld
            go_wp2
            go_roundw
            case rel => exact ⟨k + 1, by omega, by go_num, HB7⟩
            case measure => simp [intOf]; omega
        · obtain rfl : q3 = k := by omega
          have HBW : Hid _ := HB.out
          clear B4r hlt hk
          go_wp2_with fail
          rename World => wo
          go_loopw [16] (fun i wr => ∃ k : Nat, k ≤ q2 ∧ i = .int .i64 k ∧ Hid (Below W6.heap.size W6 wr)) (fun i _ => q2 - (intOf i).toNat)
          case atStart => exact ⟨0, by omega, rfl, HBW⟩
          case round =>
            obtain ⟨k, hk, rfl, HB⟩ := hrel
            have hlenc := KC2.out.len
            have hroomc := KC2.out.room
            have hA := (HB.out.block _ (lt_of_heap HA6.out)).trans HA6.out
            have hC := (HB.out.block _ (lt_of_heap HC6.out)).trans HC6.out
            have cA : wr.cell? ⟨W2.heap.size, 1, none⟩ = some (.slice r2 s2 t2) := cell_row hA 1
            have cC : wr.cell? ⟨W4.heap.size, 1, none⟩ = some (.slice o2 q2 z2) := cell_row hC 1
            have hlA := lt_of_heap hA
            have hlC := lt_of_heap hC
            have B4r : Below W4.heap.size W4 wr := B46.out.trans (HB.out.mono B46.out.size)
            clear hA hC
            by_cases hlt : k < q2
            · have hkI : (k : Int) < q2 := by omega
              have hk0 : (0 : Int) ≤ k := by omega
              obtain ⟨o, ho⟩ := getK (os := y.2.1) (k := k) (by omega)
              obtain ⟨b9, off9, rfl, c0, c1, hbl⟩ := (KC2.out.below B4r).at ho
              have HST : Hid (∀ v, findK x.2.1 o.n = some v → v = o.v) := ST.out.2 o (List.mem_of_getElem? ho)
              have B2r : Hid (Below W2.heap.size W2 wr) := BA6.out.trans (HB.out.mono BA6.out.size)
              clear ho B4r
              obtain ⟨on, hon⟩ : ∃ on, o.n = on := ⟨_, rfl⟩
              obtain ⟨ov, hov⟩ : ∃ ov, o.v = ov := ⟨_, rfl⟩
              rw [hon, hov] at HST
              rw [hon] at c0
              rw [hov] at c1
              clear hon hov
              have HSW : Hid (∀ V, Below wr.heap.size wr V → V.cell? ⟨W2.heap.size, 1, none⟩ = some (.slice r2 s2 t2) ∧ V.cell? ⟨W4.heap.size, 1, none⟩ = some (.slice (some ⟨b9, off9, none⟩) q2 z2) ∧ V.cell? ⟨b9, off9 + k * 2, none⟩ = some (.string on) ∧ V.cell? ⟨b9, off9 + k * 2 + 1, none⟩ = some (.int .i64 ov)) := fun V hV =>
                ⟨(hV.cell (p := ⟨W2.heap.size, 1, none⟩) hlA).trans cA, (hV.cell (p := ⟨W4.heap.size, 1, none⟩) hlC).trans cC, (hV.cell (p := ⟨b9, off9 + k * 2, none⟩) hbl).trans c0, (hV.cell (p := ⟨b9, off9 + k * 2 + 1, none⟩) hbl).trans c1⟩
              go_wp2_with fail
              refine wp_region_held_drew (S := (fun V => V.cell? ⟨W2.heap.size, 1, none⟩ = some (.slice r2 s2 t2) ∧ V.cell? ⟨W4.heap.size, 1, none⟩ = some (.slice (some ⟨b9, off9, none⟩) q2 z2) ∧ V.cell? ⟨b9, off9 + k * 2, none⟩ = some (.string on) ∧ V.cell? ⟨b9, off9 + k * 2 + 1, none⟩ = some (.int .i64 ov))) (by kernel_rfl) ?_ (fun hHeld => ?_)
              · exact HSW.out _ (Below.refl _ _).drew
              refine wpAnyH_take (i := 0) (v := ?_) rfl (by kernel_rfl) (by kernel_rfl) (by kernel_rfl) (fun _ _ _ h => h) (Or.inl ⟨by rfl, ?_⟩) (by assumption) ?_
              rotate_left
              · (intro w hSw; (try dsimp only at hSw); go_simp; try with_reducible rfl)
              try simp only [List.getElem_toArray, List.getElem_cons_zero, List.getElem_cons_succ, Act.put, List.setIfInBounds_toArray, List.set_cons_zero, List.set_cons_succ]
              refine wpAnyH_take (i := 1) (v := ?_) rfl (by kernel_rfl) (by kernel_rfl) (by kernel_rfl) (fun _ _ _ h => h) (Or.inl ⟨by rfl, ?_⟩) (by assumption) ?_
              rotate_left
              · (intro w hSw; (try dsimp only at hSw); go_simp; try with_reducible rfl)
              try simp only [List.getElem_toArray, List.getElem_cons_zero, List.getElem_cons_succ, Act.put, List.setIfInBounds_toArray, List.set_cons_zero, List.set_cons_succ]
              refine wpAnyH_take (i := 2) (v := ?_) rfl (by kernel_rfl) (by kernel_rfl) (by kernel_rfl) (fun _ _ _ h => h) (Or.inl ⟨by rfl, ?_⟩) (by assumption) ?_
              rotate_left
              · (intro w hSw; (try dsimp only at hSw); go_simp; try with_reducible rfl)
              try simp only [List.getElem_toArray, List.getElem_cons_zero, List.getElem_cons_succ, Act.put, List.setIfInBounds_toArray, List.set_cons_zero, List.set_cons_succ]
              refine wpAnyH_take (i := 3) (v := ?_) rfl (by kernel_rfl) (by kernel_rfl) (by kernel_rfl) (fun _ _ _ h => h) (Or.inl ⟨by rfl, ?_⟩) (by assumption) ?_
              rotate_left
              · (intro w hSw; (try dsimp only at hSw); go_simp; try with_reducible rfl)
              try simp only [List.getElem_toArray, List.getElem_cons_zero, List.getElem_cons_succ, Act.put, List.setIfInBounds_toArray, List.set_cons_zero, List.set_cons_succ]
              refine wpAnyH_take (i := 4) (v := ?_) rfl (by kernel_rfl) (by kernel_rfl) (by kernel_rfl) (fun _ _ _ h => h) (Or.inl ⟨by rfl, ?_⟩) (by assumption) ?_
              rotate_left
              · (intro w hSw; (try dsimp only at hSw); go_simp; try with_reducible rfl)
              try simp only [List.getElem_toArray, List.getElem_cons_zero, List.getElem_cons_succ, Act.put, List.setIfInBounds_toArray, List.set_cons_zero, List.set_cons_succ]
              refine wpAnyH_take (i := 5) (v := ?_) rfl (by kernel_rfl) (by kernel_rfl) (by kernel_rfl) (fun _ _ _ h => h) (Or.inl ⟨by rfl, ?_⟩) (by assumption) ?_
              rotate_left
              · (intro w hSw; (try dsimp only at hSw); go_simp; try with_reducible rfl)
              try simp only [List.getElem_toArray, List.getElem_cons_zero, List.getElem_cons_succ, Act.put, List.setIfInBounds_toArray, List.set_cons_zero, List.set_cons_succ]
              refine wpAnyH_take (i := 6) (v := ?_) rfl (by kernel_rfl) (by kernel_rfl) (by kernel_rfl) (fun _ _ _ h => h) (Or.inl ⟨by rfl, ?_⟩) (by assumption) ?_
              rotate_left
              · (intro w hSw; (try dsimp only at hSw); go_simp; try with_reducible rfl)
              try simp only [List.getElem_toArray, List.getElem_cons_zero, List.getElem_cons_succ, Act.put, List.setIfInBounds_toArray, List.set_cons_zero, List.set_cons_succ]
              refine wpAnyH_take (i := 7) (v := ?_) rfl (by kernel_rfl) (by kernel_rfl) (by kernel_rfl) (fun _ _ _ h => h) (Or.inl ⟨by rfl, ?_⟩) (by assumption) ?_
              rotate_left
              · (intro w hSw; (try dsimp only at hSw); go_simp; try with_reducible rfl)
              try simp only [List.getElem_toArray, List.getElem_cons_zero, List.getElem_cons_succ, Act.put, List.setIfInBounds_toArray, List.set_cons_zero, List.set_cons_succ]
              refine wpAnyH_ready (rs := [8]) (by kernel_rfl) (by simp) ?_
              refine AllReadyH.cons (o := _) rfl (fun K hK => ?_) AllReadyH.nil
              go_simp
              refine (FN2.out _ on (B2r.out.trans (((Below.refl _ _).drew).mono B2r.out.size))).mono ?_
              rintro e W7 ⟨rfl, hb7⟩
              have B7 : Hid (Below wr.heap.size wr W7) := (Below.refl _ _).drew.trans (hb7.mono (by simp))
              have HB7 : Hid (Below W6.heap.size W6 W7) := HB.out.trans (B7.out.mono HB.out.size)
              obtain ⟨p1, p2, p3, p4⟩ := HSW.out _ B7.out
              clear hb7
              cases hf : findK x.2.1 on with
              | none =>
                rw [show findV x.2.1 on = .tuple #[.int .i64 0, .bool false] from by unfold findV; rw [hf]]
                go_wp2_with fail
                refine hK.out _ _ ⟨p1, p2, p3, p4⟩ (fun hHeld2 => ?_)
                clear hK K hHeld
                have hHeld := hHeld2
                clear hHeld2
                try simp only [List.getElem_toArray, List.getElem_cons_zero, List.getElem_cons_succ, Act.put, List.setIfInBounds_toArray, List.set_cons_zero, List.set_cons_succ]
                refine wpAnyH_take (i := 9) (v := ?_) rfl (by kernel_rfl) (by kernel_rfl) (by kernel_rfl) (fun _ _ _ h => h) (Or.inl ⟨by rfl, ?_⟩) (by assumption) ?_
                rotate_left
                · (intro w hSw; (try dsimp only at hSw); go_simp; try with_reducible rfl)
                try simp only [List.getElem_toArray, List.getElem_cons_zero, List.getElem_cons_succ, Act.put, List.setIfInBounds_toArray, List.set_cons_zero, List.set_cons_succ]
                refine wpAnyH_take (i := 10) (v := ?_) rfl (by kernel_rfl) (by kernel_rfl) (by kernel_rfl) (fun _ _ _ h => h) (Or.inl ⟨by rfl, ?_⟩) (by assumption) ?_
                rotate_left
                · (intro w hSw; (try dsimp only at hSw); go_simp; try with_reducible rfl)
                try simp only [List.getElem_toArray, List.getElem_cons_zero, List.getElem_cons_succ, Act.put, List.setIfInBounds_toArray, List.set_cons_zero, List.set_cons_succ]
                refine wpAnyH_take (i := 11) (v := ?_) rfl (by kernel_rfl) (by kernel_rfl) (by kernel_rfl) (fun _ _ _ h => h) (Or.inl ⟨by rfl, ?_⟩) (by assumption) ?_
                rotate_left
                · (intro w hSw; (try dsimp only at hSw); go_simp; try with_reducible rfl)
                try simp only [List.getElem_toArray, List.getElem_cons_zero, List.getElem_cons_succ, Act.put, List.setIfInBounds_toArray, List.set_cons_zero, List.set_cons_succ]
                refine wpAnyH_take (i := 12) (v := ?_) rfl (by kernel_rfl) (by kernel_rfl) (by kernel_rfl) (fun _ _ _ h => h) (Or.inl ⟨by rfl, ?_⟩) (by assumption) ?_
                rotate_left
                · (intro w hSw; (try dsimp only at hSw); go_simp; try with_reducible rfl)
                try simp only [List.getElem_toArray, List.getElem_cons_zero, List.getElem_cons_succ, Act.put, List.setIfInBounds_toArray, List.set_cons_zero, List.set_cons_succ]
                refine wpAnyH_take (i := 13) (v := ?_) rfl (by kernel_rfl) (by kernel_rfl) (by kernel_rfl) (fun _ _ _ h => h) (Or.inl ⟨by rfl, ?_⟩) (by assumption) ?_
                rotate_left
                · (intro w hSw; (try dsimp only at hSw); go_simp; try with_reducible rfl)
                try simp only [List.getElem_toArray, List.getElem_cons_zero, List.getElem_cons_succ, Act.put, List.setIfInBounds_toArray, List.set_cons_zero, List.set_cons_succ]
                refine wpAnyH_done (by kernel_rfl) ?_ _
                clear hHeld
                go_wp2
                go_roundw
                case rel => exact ⟨k + 1, by omega, by go_num, HB7⟩
                case measure => simp [intOf]; omega
              | some v9 =>
                have hv9 : v9 = ov := HST.out _ hf
                rw [hv9] at hf
                rw [show findV x.2.1 on = .tuple #[.int .i64 ov, .bool true] from by unfold findV; rw [hf]]
                clear hf hv9
                go_wp2_with fail
                refine hK.out _ _ ⟨p1, p2, p3, p4⟩ (fun hHeld2 => ?_)
                clear hK K hHeld
                have hHeld := hHeld2
                clear hHeld2
                try simp only [List.getElem_toArray, List.getElem_cons_zero, List.getElem_cons_succ, Act.put, List.setIfInBounds_toArray, List.set_cons_zero, List.set_cons_succ]
                refine wpAnyH_take (i := 9) (v := ?_) rfl (by kernel_rfl) (by kernel_rfl) (by kernel_rfl) (fun _ _ _ h => h) (Or.inl ⟨by rfl, ?_⟩) (by assumption) ?_
                rotate_left
                · (intro w hSw; (try dsimp only at hSw); go_simp; try with_reducible rfl)
                try simp only [List.getElem_toArray, List.getElem_cons_zero, List.getElem_cons_succ, Act.put, List.setIfInBounds_toArray, List.set_cons_zero, List.set_cons_succ]
                refine wpAnyH_take (i := 10) (v := ?_) rfl (by kernel_rfl) (by kernel_rfl) (by kernel_rfl) (fun _ _ _ h => h) (Or.inl ⟨by rfl, ?_⟩) (by assumption) ?_
                rotate_left
                · (intro w hSw; (try dsimp only at hSw); go_simp; try with_reducible rfl)
                try simp only [List.getElem_toArray, List.getElem_cons_zero, List.getElem_cons_succ, Act.put, List.setIfInBounds_toArray, List.set_cons_zero, List.set_cons_succ]
                refine wpAnyH_take (i := 11) (v := ?_) rfl (by kernel_rfl) (by kernel_rfl) (by kernel_rfl) (fun _ _ _ h => h) (Or.inl ⟨by rfl, ?_⟩) (by assumption) ?_
                rotate_left
                · (intro w hSw; (try dsimp only at hSw); go_simp; try with_reducible rfl)
                try simp only [List.getElem_toArray, List.getElem_cons_zero, List.getElem_cons_succ, Act.put, List.setIfInBounds_toArray, List.set_cons_zero, List.set_cons_succ]
                refine wpAnyH_take (i := 12) (v := ?_) rfl (by kernel_rfl) (by kernel_rfl) (by kernel_rfl) (fun _ _ _ h => h) (Or.inl ⟨by rfl, ?_⟩) (by assumption) ?_
                rotate_left
                · (intro w hSw; (try dsimp only at hSw); go_simp; try with_reducible rfl)
                try simp only [List.getElem_toArray, List.getElem_cons_zero, List.getElem_cons_succ, Act.put, List.setIfInBounds_toArray, List.set_cons_zero, List.set_cons_succ]
                refine wpAnyH_take (i := 13) (v := ?_) rfl (by kernel_rfl) (by kernel_rfl) (by kernel_rfl) (fun _ _ _ h => h) (Or.inl ⟨by rfl, ?_⟩) (by assumption) ?_
                rotate_left
                · (intro w hSw; (try dsimp only at hSw); go_simp; try with_reducible rfl)
                try simp only [List.getElem_toArray, List.getElem_cons_zero, List.getElem_cons_succ, Act.put, List.setIfInBounds_toArray, List.set_cons_zero, List.set_cons_succ]
                refine wpAnyH_done (by kernel_rfl) ?_ _
                clear hHeld
                go_wp2
                go_roundw
                case rel => exact ⟨k + 1, by omega, by go_num, HB7⟩
                case measure => simp [intOf]; omega
            · obtain rfl : q2 = k := by omega
              have HC9 : Hid (wr.heap[W4.heap.size]? = some (.cells #[.slice o1 q1 z1, .slice o2 q2 z2, .slice o3 q3 z3, .slice o4 q4 z4] 24 (0, 0))) := (HB.out.block _ (lt_of_heap HC6.out)).trans HC6.out
              have B4 : Hid _ := B4r
              clear B4r
              go_wp2_with (first
                | refine wpList_load_row rfl 24 _ rfl W4.heap.size rfl 24 #[.slice o1 q1 z1, .slice o2 q2 z2, .slice o3 q3 z3, .slice o4 q4 z4] (0, 0) _ HC9.out Try.underlying24 rfl size4k ?_
                | fail)
              refine (CH2.out _ B4.out).mono ?_
              rintro e W9 ⟨rfl, hb9⟩
              have HB9 : Hid (Below w.heap.size w W9) := (BW6.out.trans (HB.out.mono BW6.out.size)).trans (hb9.mono (BW6.out.trans (HB.out.mono BW6.out.size)).size)
              clear hb9
              go_wp2
              go_ret
              exact ⟨rfl, HB9.out⟩
end Go.Proofs.Ythejehbhjkmeeaa
