/- number: the walk. Conditions: the keys are of one's own. -/
import Derived.Test.YthejehbhjkmeeaaKL
namespace Go.Proofs.Ythejehbhjkmeeaa
open Go.RowKit
theorem Own2.lists {w : World} {B g : Nat} {v : Nat → Value} {N : Nat → Nat} {M : Nat → List Ky} (h : Own2 w B g v N M) (hs : ∀ j, j < 2 → (M j).length = N j ∧ N j ≤ 11728124029610 ∧ ∀ k ∈ M j, k.n.size ≤ maxLen) : Lists w g M := ⟨fun j hj => by
  have ho := h.own j hj
  obtain ⟨h1, h2, h3⟩ := hs j hj
  obtain ⟨a, cap, hv, hc⟩ := own_form3 ho
  rw [hv, ← h1] at ho
  have hk := own_ks ho (by omega) h3
  rw [h1] at hk
  refine ⟨a, N j, cap, ?_, hc, hk.1⟩
  rw [← hv]
  match j, hj with
  | 0, _ => exact cell_row h.blk 0
  | 1, _ => exact cell_row h.blk 1⟩
theorem FrP.step {P Q : Nat → Prop} {w wr w' : World} (h : FrP P w wr) (q : FrP Q wr w') (hQ : ∀ k, k < w.heap.size → Q k → P k) : FrP P w w' :=
  ⟨h.base.trans q.base, fun k hk hn => (q.block k (Nat.lt_of_lt_of_le hk h.size) (fun hq => hn (hQ k hk hq))).trans (h.block k hk hn)⟩
/-- What stands while numbers are given. -/
structure FS (w wr : World) (B g : Nat) (v : Nat → Value) (N : Nat → Nat) (lb pb mb : Nat) (most L : Int) (H : List Int) (M : Nat → List Ky) : Prop where
  fr : FrP (RowB v) w wr
  own : Own2 wr B g v N M
  ns : NS wr lb pb mb most L H
theorem FS.next {w wr w' : World} {B g : Nat} {v : Nat → Value} {N : Nat → Nat} {lb pb mb : Nat} {most L L' : Int} {H H' : List Int} {M : Nat → List Ky} (h : FS w wr B g v N lb pb mb most L H M) (hf : FrP (fun k => k = lb ∨ k = mb) wr w') (hn : NS w' lb pb mb most L' H') (h1 : w.heap.size ≤ lb) (h2 : w.heap.size ≤ mb) (hg : g < w.heap.size) (hr : ∀ k, RowB v k → k < w.heap.size) :
    FS w w' B g v N lb pb mb most L' H' M :=
  ⟨h.fr.step hf (fun k hk hq => by rcases hq with e | e <;> omega), h.own.keep hf (by rintro (e | e) <;> omega) (fun k hk => by have := hr k hk; rintro (e | e) <;> omega), hn⟩
theorem FS.set {w wr : World} {B g : Nat} {v : Nat → Value} {N : Nat → Nat} {lb pb mb : Nat} {most L : Int} {H : List Int} {M : Nat → List Ky} (h : FS w wr B g v N lb pb mb most L H M) (h1 : w.heap.size ≤ lb) (h2 : w.heap.size ≤ mb) (h3 : w.heap.size ≤ pb) (hr : ∀ k, RowB v k → k < w.heap.size) {j : Nat} (hj : j < 2) {q n cap : Nat} (hv : v j = .slice (some ⟨q, 0, none⟩) n cap) (hn : N j = n) {i : Nat} {k : Ky} (hk : (M j)[i]? = some k) (x : Int) :
    FS w (wr.setCell ⟨q, i * 2 + 1, none⟩ (.int .i64 x)) B g v N lb pb mb most L H (updM M j ((M j).set i ⟨k.n, x⟩)) := by
  have hq : (v j).ownBlock = some q := by rw [hv]; rfl
  have hrb : RowB v q := by
    match j, hj with
    | 0, _ => exact .inl hq
    | 1, _ => exact .inr hq
  have hql := hr q hrb
  exact ⟨h.fr.step FrP.set (fun k _ e => by rw [e]; exact hrb), h.own.set hj hv hn hk x, h.ns.keep FrP.set (by omega) (by omega) (by omega)⟩
theorem updM_same (M : Nat → List Ky) (j : Nat) (l : List Ky) : updM M j l j = l := by simp [updM]
theorem updM_twice (M : Nat → List Ky) (j : Nat) (l m : List Ky) : updM (updM M j l) j m = updM M j m := by funext i; unfold updM; split <;> rfl
theorem updM_self {M : Nat → List Ky} {j : Nat} {l : List Ky} (h : M j = l) : updM M j l = M := by
  funext i; unfold updM; split
  · rename_i e; rw [e, h]
  · rfl
/-- What number answers, and leaves. -/
def NumPost (w : World) (B g : Nat) (v : Nat → Value) (N : Nat → Nat) (r : Option (Int × List Int × (Nat → List Ky))) (e : Ending) (w' : World) : Prop :=
  e = .returned (.bool r.isSome) ∧ FrP (RowB v) w w' ∧ ∀ x, r = some x → Own2 w' B g v N x.2.2
set_option maxRecDepth 20000 in
set_option maxHeartbeats 4000000 in
theorem number_any (most : Int) (B g : Nat) (v : Nat → Value) (N : Nat → Nat) (M : Nat → List Ky) (w : World) (hO : Own2 w B g v N M) (hs : ∀ j, j < 2 → (M j).length = N j ∧ N j ≤ 11728124029610 ∧ ∀ k ∈ M j, k.n.size ≤ maxLen) (hm : most ≤ 16777215) :
    Calls Try.prog 20 #[.int .i64 most, .slice (some ⟨g, 0, none⟩) 2 2] w fun e w' => NumPost w B g v N (accF most M 2) e w' := by
  have HO : Hid _ := hO
  have HL : Hid _ := hO.lists hs
  have HSS : Hid _ := hs
  clear hO hs
  go_enter Try.func20, Try.ntmps20
  go_wp2_with fail
  refine (newPool_any most _).mono ?_
  rintro e W1 ⟨rfl, hp, hb⟩
  have HB1 : Hid _ := hb
  have HLK : Hid (Look w (W1.alloc (.cells #[.map (some (w.heap.size + 1)), .int .i64 most] 59)) (w.heap.size + 1) W1.heap.size most []) :=
    ⟨hb.trans ((below1 W1 _).mono hb.size), hp.below (below1 _ _), heap_alloc_new _ _, by omega, hb.size, by have := hp.lt; omega⟩
  unfold poolV
  clear hp hb
  go_wp2_with fail
  go_loopw [20] (fun i wr => ∃ (j : Nat), j ≤ 2 ∧ i = .int .i64 j ∧ Hid (Look w wr (w.heap.size + 1) W1.heap.size most (hadA most M j))) (fun i _ => 2 - (intOf i).toNat)
  case atStart => exact ⟨0, by omega, rfl, HLK⟩
  case round =>
    obtain ⟨j, hj, rfl, hk⟩ := hrel
    by_cases hlt : j < 2
    · have hjI : (j : Int) < 2 := by omega
      obtain ⟨a, n, c, hc0, hnc, hks⟩ := HL.out.at_ j hlt
      have hc := (hk.out.bel.cell (p := ⟨g, j, none⟩) (cell_lt hc0)).trans hc0
      have hlen := hks.len
      have hroom := hks.room
      have HKS : Hid _ := hks
      clear hks hc0
      go_wp2_with fail
      rename World => wo
      go_loopw [26] (fun i wr => ∃ (k : Nat), k ≤ n ∧ i = .int .i64 k ∧ Hid (Look w wr (w.heap.size + 1) W1.heap.size most (hadS most (hadA most M j) ((M j).take k)))) (fun i _ => n - (intOf i).toNat)
      case atStart => exact ⟨0, by omega, rfl, hk⟩
      case round =>
        obtain ⟨k, hk2, rfl, hlk⟩ := hrel
        by_cases hltn : k < n
        · have hkI : (k : Int) < n := by omega
          obtain ⟨o, ho⟩ := getK (os := M j) (k := k) (by omega)
          obtain ⟨b, off, rfl, e0, e1, hbl⟩ := HKS.out.at ho
          have c0 := (hlk.out.bel.cell (p := ⟨b, off + k * 2, none⟩) hbl).trans e0
          have c1 := (hlk.out.bel.cell (p := ⟨b, off + k * 2 + 1, none⟩) hbl).trans e1
          have HK2 : Hid (Look w (wr.alloc (.cells #[.string o.n, .int .i64 o.v] 37)) (w.heap.size + 1) W1.heap.size most (hadS most (hadA most M j) ((M j).take k))) := hlk.out.more (below1 _ _)
          have HSN : Hid (hadS most (hadA most M j) ((M j).take (k + 1)) = takeH (hadS most (hadA most M j) ((M j).take k)) most o.v) := by show _ = _; rw [take_snoc ho, hadS_snoc]
          have hws := hlk.out.bel.size
          clear e0 e1 ho
          generalize o.n = on at *
          generalize o.v = ov at *
          go_wp2_with (first
            | refine wpList_load_row rfl 59 _ rfl W1.heap.size rfl 59 #[.map (some (w.heap.size + 1)), .int .i64 most] (0, 0) _ HK2.out.box Try.underlying59 rfl size59 ?_
            | fail)
          refine (take_any (w.heap.size + 1) _ most ov _ HK2.out.pool).mono ?_
          rintro e W2 ⟨rfl, hp2, hf2⟩
          have HK3 : Hid (Look w W2 (w.heap.size + 1) W1.heap.size most (hadS most (hadA most M j) ((M j).take (k + 1)))) := by
            show Look _ _ _ _ _ _
            rw [HSN.out]
            exact HK2.out.took hf2 hp2
          clear hp2 hf2
          go_wp2
          go_roundw
          case rel => exact ⟨k + 1, by omega, by go_num, HK3⟩
          case measure => simp [intOf]; omega
        · obtain rfl : k = n := by omega
          have HD : Hid (Look w wr (w.heap.size + 1) W1.heap.size most (hadA most M (j + 1))) := by
            show Look _ _ _ _ _ _
            have := hlk.out
            rw [List.take_of_length_le (by omega)] at this
            exact this
          go_wp2_with fail
          go_roundw
          case rel => exact ⟨j + 1, by omega, by go_num, HD⟩
          case measure => simp [intOf]; omega
    · obtain rfl : j = 2 := by omega
      have HBX : Hid _ := hk.out.box
      go_wp2_with (first
        | refine wpList_load_row rfl 59 _ rfl W1.heap.size rfl 59 #[.map (some (w.heap.size + 1)), .int .i64 most] (0, 0) _ HBX.out Try.underlying59 rfl size59 ?_
        | fail)
      refine (rising_any (w.heap.size + 1) most _ _ hk.out.pool).mono ?_
      rintro e W5 ⟨rfl, hN5, hb5⟩
      have HW5 : Hid (Below w.heap.size w W5) := hk.out.bel.trans (hb5.mono hk.out.bel.size)
      have HLB : Hid (w.heap.size ≤ wr.heap.size) := hk.out.bel.size
      have HN5 : Hid _ := hN5
      clear hN5 hb5
      have HGL : Hid (g < w.heap.size) := lt_of_heap HO.out.blk
      have HRL : Hid (∀ k, RowB v k → k < w.heap.size) := fun k hk => (HO.out.rowB hk).2
      obtain ⟨lb, hlb⟩ : ∃ lb, wr.heap.size + 1 = lb := ⟨_, rfl⟩
      obtain ⟨pb, hpb⟩ : ∃ pb, wr.heap.size = pb := ⟨_, rfl⟩
      obtain ⟨mb, hmb⟩ : ∃ mb, w.heap.size + 1 = mb := ⟨_, rfl⟩
      have hl1 : w.heap.size ≤ lb := by have := HLB.out; omega
      have hl2 : w.heap.size ≤ pb := by have := HLB.out; omega
      have hl3 : w.heap.size ≤ mb := by omega
      rw [hlb, hpb, hmb] at HN5
      rw [hlb, hpb]
      have HL1 : Hid _ := hl1
      have HL2 : Hid _ := hl2
      have HL3 : Hid _ := hl3
      have HFS : Hid (FS w W5 B g v N lb pb mb most 0 (hadA most M 2) M) := ⟨FrP.of HW5.out, HO.out.keep (FrP.of (P := fun _ => False) HW5.out) (fun h => h) (fun _ _ h => h), HN5.out⟩
      clear hlb hpb hmb hl1 hl2 hl3
      go_wp2_with fail
      go_loopw [40] (fun i wr => ∃ (j : Nat) (L : Int) (H : List Int) (M' : Nat → List Ky), j ≤ 2 ∧ i = .int .i64 j ∧ 0 ≤ L ∧ Hid (accF most M j = some (L, H, M')) ∧ Hid (FS w wr B g v N lb pb mb most L H M') ∧ Hid (∀ i, j ≤ i → M' i = M i)) (fun i _ => 2 - (intOf i).toNat)
      case atStart => exact ⟨0, 0, _, M, by omega, rfl, by omega, rfl, HFS, fun _ _ => rfl⟩
      case round =>
        obtain ⟨j, L, H, M', hj, rfl, hL0, hacc, hfs, hsame⟩ := hrel
        by_cases hlt : j < 2
        · have hjI : (j : Int) < 2 := by omega
          obtain ⟨a, c, hv, hnc⟩ := own_form3 (HO.out.own j hlt)
          obtain ⟨n, hn⟩ : ∃ n, N j = n := ⟨_, rfl⟩
          rw [hn] at hv hnc
          have hcell : wr.cell? ⟨g, j, none⟩ = some (v j) := by
            match j, hlt with
            | 0, _ => exact cell_row hfs.out.own.blk 0
            | 1, _ => exact cell_row hfs.out.own.blk 1
          rw [hv] at hcell
          have hss := HSS.out j hlt
          have hlen : (M j).length = n := by rw [hss.1, hn]
          have hroom : n ≤ 11728124029610 := by rw [← hn]; exact hss.2.1
          have HV : Hid _ := hv
          have HNJ : Hid _ := hn
          have HACC : Hid (accF most M (j + 1) = (fill most L H (M j)).map fun y => (y.1, y.2.1, updM M' j ([] ++ y.2.2))) := by show _ = _; rw [accF, hacc.out]; rfl
          have HFS0 : Hid (FS w wr B g v N lb pb mb most L H (updM M' j ([] ++ (M j).drop 0))) := by
            show FS _ _ _ _ _ _ _ _ _ _ _ _ _
            rw [show [] ++ (M j).drop 0 = M j from rfl, updM_self (hsame.out j (Nat.le_refl _))]; exact hfs.out
          clear hv hn hss
          go_wp2_with fail
          rename World => wo
          go_loopw [46] (fun i wr => ∃ (k : Nat) (L1 : Int) (H1 : List Int) (dn : List Ky), k ≤ n ∧ i = .int .i64 k ∧ dn.length = k ∧ 0 ≤ L1 ∧ Hid (accF most M (j + 1) = (fill most L1 H1 ((M j).drop k)).map fun y => (y.1, y.2.1, updM M' j (dn ++ y.2.2))) ∧ Hid (FS w wr B g v N lb pb mb most L1 H1 (updM M' j (dn ++ (M j).drop k)))) (fun i _ => n - (intOf i).toNat)
          case atStart => exact ⟨0, L, H, [], by omega, rfl, rfl, hL0, HACC, HFS0⟩
          case round =>
            obtain ⟨k, L1, H1, dn, hk2, rfl, hdl, hL1, hac1, hf1⟩ := hrel
            by_cases hltn : k < n
            · have hkI : (k : Int) < n := by omega
              obtain ⟨o, ho⟩ := getK (os := M j) (k := k) (by omega)
              have hD := drop_cons ho
              have hcur : (updM M' j (dn ++ (M j).drop k) j)[k]? = some o := by
                rw [updM_same, List.getElem?_append_right (by omega), hdl, hD]; simp
              have how := hf1.out.own.own j hlt
              rw [HV.out, HNJ.out] at how
              obtain ⟨q, rfl, hBq, hql, d1, d0, dz⟩ := own_cell how hcur
              by_cases hz : o.v = 0
              · have HAC2 : Hid (accF most M (j + 1) = match nextN H1 (most - L1).toNat L1 with
                    | none => none
                    | some x => (fill most x (H1 ++ [x]) ((M j).drop (k + 1))).map fun y => (y.1, y.2.1, updM M' j ((dn ++ [⟨o.n, x⟩]) ++ y.2.2))) := by
                  show _ = _
                  rw [hac1.out, hD, fill, if_pos hz]
                  cases nextN H1 (most - L1).toNat L1 with
                  | none => rfl
                  | some x =>
                    simp only
                    cases fill most x (H1 ++ [x]) ((M j).drop (k + 1)) <;> simp
                have hz2 : (o.v == 0) = true := by simp [hz]
                have HOE : Hid _ := hz
                have HCUR : Hid _ := hcur
                have HDD : Hid _ := hD
                have HDL : Hid _ := hdl
                clear hcur how hD hac1 ho
                rw [hz] at d1
                clear hz hz2
                go_wp2_with fail
                refine (next_any lb pb mb most L1 H1 _ hf1.out.ns hL1 hm).mono ?_
                rintro e W6 hpost
                unfold NextPost at hpost
                cases hnx : nextN H1 (most - L1).toNat L1 with
                | none =>
                  rw [hnx] at hpost
                  obtain ⟨hfr6, rfl⟩ := hpost
                  have HNO : Hid (accF most M 2 = none) := accF_none (i := j + 1) (by rw [HAC2.out, hnx]) (by omega)
                  have HFR : Hid (FrP (RowB v) w W6) := hf1.out.fr.step hfr6 (fun k hk hq => by
                    have h1 := HL1.out
                    have h2 := HL3.out
                    rcases hq with e | e <;> omega)
                  clear hfr6
                  go_wp2
                  go_ret
                  unfold NumPost
                  rw [HNO.out]
                  exact ⟨rfl, HFR.out, fun x hx => by cases hx⟩
                | some x =>
                  rw [hnx] at hpost
                  obtain ⟨hfr6, rfl, hns6⟩ := hpost
                  have hx0 := (nextN_some hnx).1
                  have HF6 : Hid (FS w W6 B g v N lb pb mb most x (H1 ++ [x]) (updM M' j (dn ++ (M j).drop k))) := hf1.out.next hfr6 hns6 HL1.out HL3.out HGL.out HRL.out
                  have hc6 : W6.cell? ⟨q, k * 2 + 1, none⟩ = some (.int .i64 0) ∧ W6.frozen? ⟨q, k * 2 + 1, none⟩ = false := by
                    have how := HF6.out.own.own j hlt
                    rw [HV.out, HNJ.out] at how
                    obtain ⟨q', eq, _, _, f1, _, fz⟩ := own_cell how HCUR.out
                    cases eq
                    rw [HOE.out] at f1
                    exact ⟨f1, fz⟩
                  have HF7 : Hid (FS w (W6.setCell ⟨q, k * 2 + 1, none⟩ (.int .i64 x)) B g v N lb pb mb most x (H1 ++ [x]) (updM M' j ((dn ++ [⟨o.n, x⟩]) ++ (M j).drop (k + 1)))) := by
                    show FS _ _ _ _ _ _ _ _ _ _ _ _ _
                    have := HF6.out.set HL1.out HL3.out HL2.out HRL.out hlt HV.out HNJ.out HCUR.out x
                    rw [updM_twice, updM_same, HDD.out] at this
                    have hse : (dn ++ o :: (M j).drop (k + 1)).set k ⟨o.n, x⟩ = (dn ++ [⟨o.n, x⟩]) ++ (M j).drop (k + 1) := by
                      rw [List.set_append_right _ _ (by have := HDL.out; omega), HDL.out]; simp
                    rw [hse] at this
                    exact this
                  have HAC3 : Hid (accF most M (j + 1) = (fill most x (H1 ++ [x]) ((M j).drop (k + 1))).map fun y => (y.1, y.2.1, updM M' j ((dn ++ [⟨o.n, x⟩]) ++ y.2.2))) := by show _ = _; rw [HAC2.out, hnx]
                  obtain ⟨f1, f2⟩ := hc6
                  clear hfr6 hns6 hnx HAC2
                  go_wp2
                  go_roundw
                  case rel => exact ⟨k + 1, x, H1 ++ [x], dn ++ [⟨o.n, x⟩], by omega, by go_num, by simp [HDL.out], by omega, HAC3, HF7⟩
                  case measure => simp [intOf]; omega
              · have HAC2 : Hid (accF most M (j + 1) = (fill most L1 H1 ((M j).drop (k + 1))).map fun y => (y.1, y.2.1, updM M' j ((dn ++ [o]) ++ y.2.2))) := by
                  show _ = _
                  rw [hac1.out, hD, fill, if_neg hz]
                  cases fill most L1 H1 ((M j).drop (k + 1)) <;> simp
                have HF2 : Hid (FS w wr B g v N lb pb mb most L1 H1 (updM M' j ((dn ++ [o]) ++ (M j).drop (k + 1)))) := by
                  show FS _ _ _ _ _ _ _ _ _ _ _ _ _
                  have := hf1.out
                  rw [hD] at this
                  simpa using this
                have hz2 : (o.v == 0) = false := by simp [hz]
                clear hcur how hD hac1 hf1 ho hz
                generalize o.v = ov at *
                generalize o.n = on at *
                go_wp2
                go_roundw
                case rel => exact ⟨k + 1, L1, H1, dn ++ [o], by omega, by go_num, by simp [hdl], hL1, HAC2, HF2⟩
                case measure => simp [intOf]; omega
            · obtain rfl : k = n := by omega
              have HD2 : Hid (accF most M (j + 1) = some (L1, H1, updM M' j dn)) := by show _ = _; rw [hac1.out, List.drop_of_length_le (by omega)]; simp [fill]
              have HF2 : Hid (FS w wr B g v N lb pb mb most L1 H1 (updM M' j dn)) := by
                show FS _ _ _ _ _ _ _ _ _ _ _ _ _
                have := hf1.out
                rw [List.drop_of_length_le (by omega), List.append_nil] at this
                exact this
              have HSM : Hid (∀ i, j + 1 ≤ i → updM M' j dn i = M i) := fun i hi => by
                unfold updM; rw [if_neg (by omega)]; exact hsame.out i (by omega)
              go_wp2_with fail
              go_roundw
              case rel => exact ⟨j + 1, L1, H1, updM M' j dn, by omega, by go_num, hL1, HD2, HF2, HSM⟩
              case measure => simp [intOf]; omega
        · obtain rfl : j = 2 := by omega
          go_wp2
          go_ret
          unfold NumPost
          rw [hacc.out]
          exact ⟨rfl, hfs.out.fr, fun x hx => by cases hx; exact hfs.out.own⟩
end Go.Proofs.Ythejehbhjkmeeaa
