/- The document's own Check, has, kept. Conditions: as said. -/
import Derived.Test.YthejehbhjkmeeaaNB
import Derived.Test.YthejehbhjkmeeaaNE
namespace Go.Proofs.Ythejehbhjkmeeaa
open Go.RowKit
theorem rright_call {w W : World} {v1 v2 : Value} {a b : List Ky} {most : Int} (h1 : KV w v1 a) (h2 : KV w v2 b) (hl : a.length + b.length ≤ 5864062014805) (hb : Below w.heap.size w W) :
    Calls Try.prog 18 #[v1, v2, .int .i64 most] W fun e w' => e = .returned (.bool (rightB most a b)) ∧ Below W.heap.size W w' := by
  obtain ⟨a1, n1, c1, rfl, _, k1⟩ := h1
  obtain ⟨a2, n2, c2, rfl, _, k2⟩ := h2
  exact rright_any _ _ _ a _ _ _ b most W (k1.below hb) (k2.below hb) (by rw [← k1.len, ← k2.len]; exact hl)
set_option maxRecDepth 20000 in
set_option maxHeartbeats 1000000 in
theorem rcheck_any (v1 v2 v3 v4 : Value) (a b c d : List Ky) (w : World) (h1 : KV w v1 a) (h2 : KV w v2 b) (h3 : KV w v3 c) (h4 : KV w v4 d) (hl : a.length + b.length ≤ 5864062014805) (hl2 : c.length + d.length ≤ 5864062014805) :
    Calls Try.prog 9 #[.agg #[v1, v2, v3, v4]] w fun e w' => e = .returned (.int .i64 (chkE a b c d)) ∧ Below w.heap.size w w' := by
  have R1 : Hid (∀ W, Below w.heap.size w W → Calls Try.prog 18 #[v1, v2, .int .i64 16777215] W fun e w' => e = .returned (.bool (rightB 16777215 a b)) ∧ Below W.heap.size W w') := fun W hW => rright_call h1 h2 hl hW
  have R2 : Hid (∀ W, Below w.heap.size w W → Calls Try.prog 18 #[v3, v4, .int .i64 65535] W fun e w' => e = .returned (.bool (rightB 65535 c d)) ∧ Below W.heap.size W w') := fun W hW => rright_call h3 h4 hl2 hW
  obtain ⟨a1, n1, c1, rfl, _, _⟩ := h1
  obtain ⟨a2, n2, c2, rfl, _, _⟩ := h2
  obtain ⟨a3, n3, c3, rfl, _, _⟩ := h3
  obtain ⟨a4, n4, c4, rfl, _, _⟩ := h4
  go_enter Try.func9, Try.ntmps9
  go_wp2_with fail
  refine (R1.out _ (below1 _ _)).mono ?_
  rintro e W1 ⟨rfl, hb1⟩
  have hb : Below w.heap.size w W1 := (below1 _ _).trans (hb1.mono (by simp))
  have HB1 : Hid _ := hb
  have hbox : W1.heap[w.heap.size]? = some (.cells #[.slice a1 n1 c1, .slice a2 n2 c2, .slice a3 n3 c3, .slice a4 n4 c4] 24 (0, 0)) := (hb1.block _ (by simp)).trans (heap_alloc_new _ _)
  have d2 := cell_row hbox 2
  have d3 := cell_row hbox 3
  simp only [List.getElem?_toArray, List.getElem?_cons_succ, List.getElem?_cons_zero] at d2 d3
  clear hb1 hb hbox
  cases hr : rightB 16777215 a b
  · have HE : Hid (chkE a b c d = 190) := by show _ = _; unfold chkE; rw [hr]; rfl
    go_wp2
    go_ret
    exact ⟨by rw [HE.out]; rfl, HB1.out⟩
  · have HE : Hid (chkE a b c d = bif rightB 65535 c d then 0 else 190) := by show _ = _; unfold chkE; rw [hr]; rfl
    go_wp2_with fail
    refine (R2.out _ HB1.out).mono ?_
    rintro e W2 ⟨rfl, hb2⟩
    have HB2 : Hid (Below w.heap.size w W2) := HB1.out.trans (hb2.mono HB1.out.size)
    clear hb2
    cases hr2 : rightB 65535 c d
    · rw [hr2] at HE
      go_wp2
      go_ret
      exact ⟨by rw [HE.out]; rfl, HB2.out⟩
    · rw [hr2] at HE
      go_wp2
      go_ret
      exact ⟨by rw [HE.out]; rfl, HB2.out⟩
set_option maxHeartbeats 1000000 in
theorem has_any (a : Option Addr) (n c : Nat) (zs : List Int) (v : Int) (w : World) (h : IS w a n zs) (hn : n ≤ 17592186044416) :
    Calls Try.prog 35 #[.slice a n c, .int .i64 v] w fun e w' => e = .returned (.bool (decide (v ∈ zs))) ∧ Below w.heap.size w w' := by
  have hl := h.len
  have H : Hid _ := h
  clear h
  go_enter Try.func35, Try.ntmps35
  go_wp2_with fail
  go_loopw [5] (fun i wr => ∃ k : Nat, k ≤ n ∧ i = .int .i64 k ∧ Hid (v ∉ zs.take k) ∧ Below w.heap.size w wr) (fun i _ => n - (intOf i).toNat)
  case atStart => exact ⟨0, by omega, rfl, (by show v ∉ _; simp), Below.refl _ _⟩
  case round =>
    obtain ⟨k, hk, rfl, hF, hb⟩ := hrel
    have HB : Hid _ := hb
    by_cases hlt : k < n
    · have hkI : (k : Int) < n := by omega
      obtain ⟨o, ho⟩ := getK (os := zs) (k := k) (by omega)
      obtain ⟨b, off, rfl, c0, hbl⟩ := (H.out.below hb).at ho
      have hT := take_snoc ho
      by_cases hc : o = v
      · have HF : Hid (decide (v ∈ zs) = true) := by show _ = _; rw [← hc]; exact decide_eq_true (List.mem_of_getElem? ho)
        have hc2 : (o == v) = true := by simp [hc]
        clear hF hT ho hb hc
        go_wp2
        go_ret
        exact ⟨by rw [HF.out]; rfl, HB.out⟩
      · have HF : Hid (v ∉ zs.take (k + 1)) := by
          show v ∉ _
          rw [hT, List.mem_append]
          rintro (h | h)
          · exact hF.out h
          · simp at h; exact hc h.symm
        have hc2 : (o == v) = false := by simp [hc]
        clear hF hT ho hb hc
        go_wp2
        go_roundw
        case rel => exact ⟨k + 1, by omega, by go_num, HF, HB.out⟩
        case measure => simp [intOf]; omega
    · obtain rfl : n = k := by omega
      have HF : Hid (decide (v ∈ zs) = false) := by
        show _ = _
        have := hF.out
        rw [List.take_of_length_le (by omega)] at this
        exact decide_eq_false this
      clear hF hb
      go_wp2
      go_ret
      exact ⟨by rw [HF.out]; rfl, HB.out⟩
/-- The numbers that names of a list have. -/
def keptN (l : List Ky) (N : List ByteArray) : List Int := N.filterMap (findK l)
theorem keptN_snoc (l : List Ky) (N : List ByteArray) (n : ByteArray) : keptN l (N ++ [n]) = keptN l N ++ (match findK l n with | some v => [v] | none => []) := by
  unfold keptN
  rw [List.filterMap_append]
  cases h : findK l n <;> simp [h]
theorem keptN_len (l : List Ky) (N : List ByteArray) : (keptN l N).length ≤ N.length := List.length_filterMap_le _ _
set_option maxRecDepth 20000 in
set_option maxHeartbeats 2000000 in
theorem rkept_any (a : Option Addr) (n c : Nat) (ks : List Ky) (a2 : Option Addr) (n2 c2 : Nat) (N : List ByteArray) (w : World) (hK : KS w a n ks) (hN : SS w a2 n2 N) (hn : n2 ≤ 1034834473201) :
    Calls Try.prog 29 #[.slice a n c, .slice a2 n2 c2] w fun e w' => ∃ v, e = .returned v ∧ w'.ownsRow w.heap.size 3 1 v (keptN ks N).length ((keptN ks N).map (Value.int .i64)) ∧ Below w.heap.size w w' := by
  have hl := hN.len
  have HK : Hid _ := hK
  have HN : Hid _ := hN
  clear hK hN
  go_enter Try.func29, Try.ntmps29
  go_wp2_with fail
  go_loopw [5, 6] (fun out i wr => ∃ (k : Nat) (Z : List Int) (a' : Option Addr) (c' : Nat), k ≤ n2 ∧ i = .int .i64 k ∧ out = .slice a' Z.length c' ∧ Z.length ≤ k ∧ Hid (Z = keptN ks (N.take k)) ∧ Hid (wr.ownsRow w.heap.size 3 1 (.slice a' Z.length c') Z.length (Z.map (Value.int .i64))) ∧ Hid (Below w.heap.size w wr)) (fun _ i _ => n2 - (intOf i).toNat)
  case atStart => exact ⟨0, [], none, 0, by omega, rfl, rfl, by simp, rfl, ⟨rfl, .inl ⟨rfl, rfl⟩⟩, Below.refl _ _⟩
  case round =>
    obtain ⟨k, Z, a', c', hk, rfl, rfl, hzk, HZ, HO, HB⟩ := hrel
    by_cases hlt : k < n2
    · have hkI : (k : Int) < n2 := by omega
      obtain ⟨nm, hnm⟩ := getK (os := N) (k := k) (by omega)
      obtain ⟨b, off, rfl, c0, hbl⟩ := (HN.out.below HB.out).at hnm
      have HT : Hid (keptN ks (N.take (k + 1)) = keptN ks (N.take k) ++ (match findK ks nm with | some v => [v] | none => [])) := by show _ = _; rw [take_snoc hnm, keptN_snoc]
      clear hnm
      obtain ⟨m, hm⟩ : ∃ m, Z.length = m := ⟨_, rfl⟩
      have HM : Hid _ := hm
      rw [hm] at hzk HO ⊢
      clear hm
      go_wp2_with fail
      refine (rfind_any _ _ _ ks nm _ (HK.out.below HB.out)).mono ?_
      rintro e W1 ⟨rfl, hb1⟩
      have HB1 : Hid (Below w.heap.size w W1) := HB.out.trans (hb1.mono HB.out.size)
      have HO1 : Hid (W1.ownsRow w.heap.size 3 1 (.slice a' m c') m (Z.map (Value.int .i64))) := own_below HO.out hb1
      clear hb1
      cases hf : findK ks nm with
      | none =>
        rw [show findV ks nm = .tuple #[.int .i64 0, .bool false] from by unfold findV; rw [hf]]
        have HZ2 : Hid (Z = keptN ks (N.take (k + 1))) := by show _ = _; rw [HT.out, hf, HZ.out]; simp
        clear hf
        go_wp2_with fail
        rw [← HM.out] at HO1 ⊢
        go_roundw
        case rel => exact ⟨k + 1, Z, a', c', by omega, by go_num, rfl, by have := HM.out; omega, HZ2, HO1, HB1⟩
        case measure => simp [intOf]; omega
      | some v =>
        rw [show findV ks nm = .tuple #[.int .i64 v, .bool true] from by unfold findV; rw [hf]]
        have HZ2 : Hid (Z ++ [v] = keptN ks (N.take (k + 1))) := by show _ = _; rw [HT.out, hf, HZ.out]
        have hx1 : (W1.alloc (.cells #[.int .i64 v] 3)).ownsRow w.heap.size 3 1 (.slice a' m c') Z.length (Z.map (Value.int .i64)) := by
          rw [HM.out]; exact own_below HO1.out (below1 _ _)
        obtain ⟨a5, c5, w5, hap, hrow5, hgr5⟩ := run_append_is _ w.heap.size _ Z hx1 _ 1 1 [v] (is_one W1 v) (by rw [HM.out]; omega) (by have := HB1.out.size; simp; omega)
        have HB5 : Hid (Below w.heap.size w w5) := (HB1.out.alloc HB1.out.size _).grown hgr5 (by have := HB1.out.size; simp; omega) (fun q hq => (World.ownsRow.lt hx1 q hq).1)
        rw [HM.out] at hap hrow5
        have HAP : Hid _ := hap
        have HLN : Hid ((Z ++ [v]).length = m + 1) := by show _ = _; rw [List.length_append, HM.out]; rfl
        have HR5 : Hid (w5.ownsRow w.heap.size 3 1 (.slice a5 (m + 1) c5) (Z ++ [v]).length ((Z ++ [v]).map (Value.int .i64))) := hrow5
        clear hf hx1 hap hrow5 hgr5
        go_wp2_with (first
          | (at_builtin; refine wpList_append_run rfl _ _ 69 rfl _ _ rfl rfl _ HAP.out ?_)
          | fail)
        rw [← HLN.out] at HR5 ⊢
        go_roundw
        case rel => exact ⟨k + 1, Z ++ [v], a5, c5, by omega, by go_num, rfl, by have := HLN.out; omega, HZ2, HR5, HB5⟩
        case measure => simp [intOf]; omega
    · obtain rfl : n2 = k := by omega
      have HF : Hid (Z = keptN ks N) := by
        have := HZ.out
        rw [List.take_of_length_le (by omega)] at this
        exact this
      go_wp2
      go_ret
      exact ⟨_, rfl, by rw [← HF.out]; exact HO.out, HB.out⟩
end Go.Proofs.Ythejehbhjkmeeaa
