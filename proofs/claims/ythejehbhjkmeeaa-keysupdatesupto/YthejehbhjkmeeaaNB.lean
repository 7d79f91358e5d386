/- The document's own check of keys. Conditions: the keys can be read, and are not too many. -/
import Derived.Test.YthejehbhjkmeeaaMB
namespace Go.Proofs.Ythejehbhjkmeeaa
open Go.RowKit
def upTo (a : List Ky) (k : Nat) : Prop := ∀ i x y, i + 1 < k → a[i]? = some x → a[i + 1]? = some y → nlt x.n y.n
theorem rising_of : ∀ {ks : List Ky} {p : Option ByteArray}, (∀ q k, p = some q → ks[0]? = some k → nlt q k.n) → upTo ks ks.length → Rising p ks
  | [], _, _, _ => trivial
  | k :: r, p, hp, hu => by
    refine ⟨?_, rising_of (fun q k' hq hk => ?_) (fun i x y hi hx hy => hu (i + 1) x y (by simp; omega) (by simpa using hx) (by simpa using hy))⟩
    · cases p with
      | none => rfl
      | some q =>
        have := hp q k rfl rfl
        simp [notUp, less_iff.2 this]
    · cases hq
      have : 0 < r.length := (List.getElem?_eq_some_iff.1 hk).1
      exact hu 0 k k' (by simp; omega) rfl (by simpa using hk)
theorem rising_adj {ks : List Ky} (h : Rising none ks) {i : Nat} {x y : Ky} (hx : ks[i]? = some x) (hy : ks[i + 1]? = some y) : nlt x.n y.n := by
  have hp := (rising_pair.1 h).1
  rw [List.pairwise_map] at hp
  have := List.pairwise_iff_getElem.1 hp i (i + 1) (List.getElem?_eq_some_iff.1 hx).1 (List.getElem?_eq_some_iff.1 hy).1 (by omega)
  rw [(List.getElem?_eq_some_iff.1 hx).2, (List.getElem?_eq_some_iff.1 hy).2] at this
  exact this
def numTo (most : Int) (l : List Ky) (k : Nat) : Prop := ∀ i x, i < k → l[i]? = some x → 1 ≤ x.v ∧ x.v ≤ most ∧ ∀ j y, j < i → l[j]? = some y → y.v ≠ x.v
theorem num_right {most : Int} {a b : List Ky} (ha : Rising none a) (hb : Rising none b) (h : numTo most (a ++ b) (a ++ b).length) : Right most a b := by
  refine ⟨ha, hb, fun k hk => ?_, ?_⟩
  · obtain ⟨i, hi, rfl⟩ := List.mem_iff_getElem.1 hk
    have := h i _ hi (List.getElem?_eq_getElem hi)
    exact ⟨this.1, this.2.1⟩
  · rw [List.nodup_iff_pairwise_ne, List.pairwise_map, List.pairwise_iff_getElem]
    intro i j hi hj hij
    exact (h j _ hj (List.getElem?_eq_getElem hj)).2.2 i _ hij (List.getElem?_eq_getElem hi)
theorem not_right {most : Int} {a b : List Ky} (h : ¬ Right most a b) : rightB most a b = false := by
  cases hr : rightB most a b
  · rfl
  · exact absurd (rightB_iff.1 hr) h
set_option linter.unusedSimpArgs false in
set_option maxRecDepth 20000 in
set_option maxHeartbeats 8000000 in
theorem rright_any (a1 : Option Addr) (n1 c1 : Nat) (a : List Ky) (a2 : Option Addr) (n2 c2 : Nat) (b : List Ky) (most : Int) (w : World) (h1 : KS w a1 n1 a) (h2 : KS w a2 n2 b) (hl : n1 + n2 ≤ 5864062014805) :
    Calls Try.prog 18 #[.slice a1 n1 c1, .slice a2 n2 c2, .int .i64 most] w fun e w' => e = .returned (.bool (rightB most a b)) ∧ Below w.heap.size w w' := by
  have e1 := h1.len
  have e2 := h2.len
  have H1 : Hid _ := h1
  have H2 : Hid _ := h2
  clear h1 h2
  go_enter Try.func18, Try.ntmps18
  go_wp2_with fail
  go_loopw [7] (fun i wr => ∃ k : Nat, k ≤ n1 ∧ i = .int .i64 k ∧ Hid (upTo a k) ∧ Hid (Below w.heap.size w wr)) (fun i _ => n1 - (intOf i).toNat)
  case atStart => exact ⟨0, by omega, rfl, (fun i x y h => by omega), Below.refl _ _⟩
  case round =>
    obtain ⟨k, hk, rfl, HU, HB⟩ := hrel
    by_cases hlt : k < n1
    · have hkI : (k : Int) < n1 := by omega
      have hk0 : (0 : Int) ≤ k := by omega
      obtain ⟨o, ho⟩ := getK (os := a) (k := k) (by omega)
      obtain ⟨g9, f9, eb, c0, c1, hbl⟩ := (H1.out.below HB.out).at ho
      cases k with
      | zero =>
        have HU2 : Hid (upTo a (0 + 1)) := fun i x y h => by omega
        subst eb
        clear ho c1
        simp only [Nat.zero_mul, Nat.add_zero] at c0
        generalize o.n = on at *
        go_wp2_with fail
        go_quiet (fail)
        go_wp2
        go_roundw
        case rel => exact ⟨0 + 1, by omega, by first | rfl | go_num, HU2, below_drewN HB.out _⟩
        case measure => simp [intOf]; omega
      | succ m =>
        obtain ⟨o', ho'⟩ := getK (os := a) (k := m) (by omega)
        obtain ⟨g8, f8, eb', d0, d1, _⟩ := (H1.out.below HB.out).at ho'
        rw [eb] at eb'
        cases eb'
        subst eb
        have hmI : (m : Int) < n1 := by omega
        have hm0 : (0 : Int) ≤ m := by omega
        have hm1 : (0 : Int) < (m : Int) + 1 := by omega
        have hmw : IntKind.i64.wrap (m : Int) = m := by simp [IntKind.wrap, IntKind.bits, IntKind.signed]; omega
        cases hbl2 : Op.bytesLess o'.n.toList o.n.toList
        · have HR : Hid (rightB most a b = false) := not_right (fun hr => by
            have := rising_adj hr.ra ho' ho
            rw [less_iff.2 this] at hbl2; cases hbl2)
          clear ho ho' c1 d1
          generalize o.n = on at *
          generalize o'.n = om at *
          go_wp2_with fail
          go_quiet (fail)
          go_wp2
          go_ret
          exact ⟨by rw [HR.out]; rfl, below_drewN HB.out _⟩
        · have HU2 : Hid (upTo a (m + 1 + 1)) := fun i x y hi hx hy => by
            by_cases e : i = m
            · subst e
              rw [ho'] at hx
              rw [ho] at hy
              cases hx; cases hy
              exact less_iff.1 hbl2
            · exact HU.out i x y (by omega) hx hy
          clear ho ho' c1 d1
          generalize o.n = on at *
          generalize o'.n = om at *
          go_wp2_with fail
          go_quiet (fail)
          go_wp2
          go_roundw
          case rel => exact ⟨m + 1 + 1, by omega, by first | rfl | go_num, HU2, below_drewN HB.out _⟩
          case measure => simp [intOf]; omega
    · obtain rfl : n1 = k := by omega
      have HRA : Hid (Rising none a) := rising_of (by simp) (by rw [e1]; exact HU.out)
      have HB1 : Hid _ := HB.out
      clear HU hk hlt
      go_wp2_with fail
      rename World => wo
      go_loopw [8] (fun i wr => ∃ k : Nat, k ≤ n2 ∧ i = .int .i64 k ∧ Hid (upTo b k) ∧ Hid (Below w.heap.size w wr)) (fun i _ => n2 - (intOf i).toNat)
      case atStart => exact ⟨0, by omega, rfl, (fun i x y h => by omega), HB1⟩
      case round =>
        obtain ⟨k, hk, rfl, HU, HB⟩ := hrel
        by_cases hlt : k < n2
        · have hkI : (k : Int) < n2 := by omega
          have hk0 : (0 : Int) ≤ k := by omega
          obtain ⟨o, ho⟩ := getK (os := b) (k := k) (by omega)
          obtain ⟨g9, f9, eb, c0, c1, hbl⟩ := (H2.out.below HB.out).at ho
          cases k with
          | zero =>
            have HU2 : Hid (upTo b (0 + 1)) := fun i x y h => by omega
            subst eb
            clear ho c1
            simp only [Nat.zero_mul, Nat.add_zero] at c0
            generalize o.n = on at *
            go_wp2_with fail
            go_quiet (fail)
            go_wp2
            go_roundw
            case rel => exact ⟨0 + 1, by omega, by first | rfl | go_num, HU2, below_drewN HB.out _⟩
            case measure => simp [intOf]; omega
          | succ m =>
            obtain ⟨o', ho'⟩ := getK (os := b) (k := m) (by omega)
            obtain ⟨g8, f8, eb', d0, d1, _⟩ := (H2.out.below HB.out).at ho'
            rw [eb] at eb'
            cases eb'
            subst eb
            have hmI : (m : Int) < n2 := by omega
            have hm0 : (0 : Int) ≤ m := by omega
            have hm1 : (0 : Int) < (m : Int) + 1 := by omega
            have hmw : IntKind.i64.wrap (m : Int) = m := by simp [IntKind.wrap, IntKind.bits, IntKind.signed]; omega
            cases hbl2 : Op.bytesLess o'.n.toList o.n.toList
            · have HR : Hid (rightB most a b = false) := not_right (fun hr => by
                have := rising_adj hr.rb ho' ho
                rw [less_iff.2 this] at hbl2; cases hbl2)
              clear ho ho' c1 d1
              generalize o.n = on at *
              generalize o'.n = om at *
              go_wp2_with fail
              go_quiet (fail)
              go_wp2
              go_ret
              exact ⟨by rw [HR.out]; rfl, below_drewN HB.out _⟩
            · have HU2 : Hid (upTo b (m + 1 + 1)) := fun i x y hi hx hy => by
                by_cases e : i = m
                · subst e
                  rw [ho'] at hx
                  rw [ho] at hy
                  cases hx; cases hy
                  exact less_iff.1 hbl2
                · exact HU.out i x y (by omega) hx hy
              clear ho ho' c1 d1
              generalize o.n = on at *
              generalize o'.n = om at *
              go_wp2_with fail
              go_quiet (fail)
              go_wp2
              go_roundw
              case rel => exact ⟨m + 1 + 1, by omega, by first | rfl | go_num, HU2, below_drewN HB.out _⟩
              case measure => simp [intOf]; omega
        · obtain rfl : n2 = k := by omega
          have HRB : Hid (Rising none b) := rising_of (by simp) (by rw [e2]; exact HU.out)
          obtain ⟨bA, dA, V1, r1, BV1, bB, dB, W3, r2, BV2, KSB⟩ := both_lists (W := wr) (c1 := c1) (c2 := c2) (H1.out.below HB.out) (H2.out.below HB.out) hl
          obtain ⟨N, hN⟩ : ∃ N, n1 + n2 = N := ⟨_, rfl⟩
          rw [hN] at r2 KSB
          have R1 : Hid _ := r1
          have R2 : Hid _ := r2
          have KSN : Hid _ := KSB
          have HB3 : Hid (Below w.heap.size w W3) := HB.out.trans (BV2.mono HB.out.size)
          have hlen : (a ++ b).length = N := KSB.len
          clear r1 r2 BV1 BV2 KSB HU hk hlt
          go_wp2_with (first
            | (at_builtin; refine wpList_append_run rfl _ _ 22 rfl _ _ rfl rfl _ R1.out ?_)
            | (at_builtin; refine wpList_append_run rfl _ _ 22 rfl _ _ rfl rfl _ R2.out ?_)
            | fail)
          go_loopw [10] (fun i wr => ∃ k : Nat, k ≤ N ∧ i = .int .i64 k ∧ Hid (numTo most (a ++ b) k) ∧ Hid (Below W3.heap.size W3 wr)) (fun i _ => N - (intOf i).toNat)
          case atStart => exact ⟨0, by omega, rfl, (fun i x h => by omega), Below.refl _ _⟩
          case round =>
            obtain ⟨k, hk, rfl, HNT, HB⟩ := hrel
            have HBW : Hid (Below w.heap.size w wr) := HB3.out.trans (HB.out.mono HB3.out.size)
            by_cases hlt : k < N
            · have hkI : (k : Int) < N := by omega
              have hk0 : (0 : Int) ≤ k := by omega
              obtain ⟨o, ho⟩ := getK (os := a ++ b) (k := k) (by omega)
              obtain ⟨g9, f9, eb, c0, c1', hbl⟩ := (KSN.out.below HB.out).at ho
              subst eb
              by_cases hlo : o.v < 1
              · have HR : Hid (rightB most a b = false) := not_right (fun hr => by have := hr.bd o (List.mem_of_getElem? ho); omega)
                clear ho c0
                generalize o.v = ov at *
                go_wp2
                go_ret
                exact ⟨by rw [HR.out]; rfl, HBW.out⟩
              · have hlo' : 1 ≤ o.v := by omega
                by_cases hhi : most < o.v
                · have HR : Hid (rightB most a b = false) := not_right (fun hr => by have := hr.bd o (List.mem_of_getElem? ho); omega)
                  clear ho c0 hlo
                  generalize o.v = ov at *
                  go_wp2
                  go_ret
                  exact ⟨by rw [HR.out]; rfl, HBW.out⟩
                · have hhi' : o.v ≤ most := by omega
                  have HO : Hid _ := ho
                  have HLO : Hid _ := hlo'
                  have HHI : Hid _ := hhi'
                  obtain ⟨ov, hov⟩ : ∃ ov, o.v = ov := ⟨_, rfl⟩
                  have HOV : Hid _ := hov
                  rw [hov] at c1' hlo hlo' hhi hhi'
                  clear ho c0 hlo hhi hov
                  go_wp2_with fail
                  rename World => wq
                  go_loopw [11] (fun i wr => ∃ m : Nat, m ≤ k ∧ i = .int .i64 m ∧ Hid (∀ j y, j < m → (a ++ b)[j]? = some y → y.v ≠ ov) ∧ Hid (Below W3.heap.size W3 wr)) (fun i _ => k - (intOf i).toNat)
                  case atStart => exact ⟨0, by omega, rfl, (fun j y h => by omega), HB⟩
                  case round =>
                    obtain ⟨m, hm, rfl, HNE, HB2⟩ := hrel
                    have HBW2 : Hid (Below w.heap.size w wr) := HB3.out.trans (HB2.out.mono HB3.out.size)
                    by_cases hmt : m < k
                    · have hmk : (m : Int) < k := by omega
                      have hmI : (m : Int) < N := by omega
                      have hm0 : (0 : Int) ≤ m := by omega
                      obtain ⟨om, hom⟩ := getK (os := a ++ b) (k := m) (by omega)
                      obtain ⟨g8, f8, eb2, d0, d1, _⟩ := (KSN.out.below HB2.out).at hom
                      obtain ⟨g7, f7, eb3, x0, x1, _⟩ := (KSN.out.below HB2.out).at HO.out
                      cases eb2
                      cases eb3
                      rw [HOV.out] at x1
                      by_cases heq : om.v = ov
                      · have HR : Hid (rightB most a b = false) := not_right (fun hr => by
                          have := num_ne hr.nd hom HO.out hmt
                          rw [HOV.out, heq] at this; simp at this)
                        have he : (om.v == ov) = true := by simp [heq]
                        clear hom heq d0 x0
                        generalize om.v = mv at *
                        go_wp2_with fail
                        go_quiet (fail)
                        go_wp2
                        go_ret
                        exact ⟨by rw [HR.out]; rfl, below_drewN HBW2.out _⟩
                      · have HN2 : Hid (∀ j y, j < m + 1 → (a ++ b)[j]? = some y → y.v ≠ ov) := fun j y hj hy => by
                          by_cases e : j = m
                          · subst e; rw [hom] at hy; cases hy; exact heq
                          · exact HNE.out j y (by omega) hy
                        have he : (om.v == ov) = false := by simp [heq]
                        clear hom heq d0 x0
                        generalize om.v = mv at *
                        go_wp2_with fail
                        go_quiet (fail)
                        go_wp2
                        go_roundw
                        case rel => exact ⟨m + 1, by omega, by go_num, HN2, below_drewN HB2.out _⟩
                        case measure => simp [intOf]; omega
                    · obtain rfl : k = m := by omega
                      have HNT2 : Hid (numTo most (a ++ b) (k + 1)) := fun i x hi hx => by
                        by_cases e : i = k
                        · subst e
                          have hx' : some o = some x := HO.out.symm.trans hx
                          cases hx'
                          exact ⟨HLO.out, HHI.out, fun j y hj hy => by rw [HOV.out]; exact HNE.out j y hj hy⟩
                        · exact HNT.out i x (by omega) hx
                      go_wp2_with fail
                      go_roundw
                      case rel => exact ⟨k + 1, by omega, by go_num, HNT2, HB2⟩
                      case measure => simp [intOf]; omega
            · obtain rfl : N = k := by omega
              have HR : Hid (rightB most a b = true) := rightB_iff.2 (num_right HRA.out HRB.out (by rw [hlen]; exact HNT.out))
              go_wp2
              go_ret
              exact ⟨by rw [HR.out]; rfl, HBW.out⟩
end Go.Proofs.Ythejehbhjkmeeaa
