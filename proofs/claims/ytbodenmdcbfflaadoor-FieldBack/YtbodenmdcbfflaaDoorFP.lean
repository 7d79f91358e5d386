/- The law FieldBack, but for its frame. Conditions: the State's cells are of their kinds; numbers of their kinds. -/
import Derived.Test.YtbodenmdcbfflaaDoorFO
namespace Go.Proofs.YtbodenmdcbfflaaDoor
open Go.RowKit

def getN (f : Nat) (cs : Array Value) : Int := if hasF f cs then bits BinOp.and IntKind.u64 (rdF f cs) (2 ^ fBits f - 1) else 0
def getR (f : Nat) (cs : Array Value) : Int := if hasF f cs then 0 else 81
theorem get_any2 (f : Nat) (hf : 1 ≤ f) (hf2 : f ≤ 28) (cs : Array Value) (hst : St cs) (w : World) :
    Calls Tryd.prog 18 #[.agg cs, .int .i64 f] w fun e w' => e = .returned (.tuple #[.int .u64 (getN f cs), .int .i64 (getR f cs)]) ∧ Below w.heap.size w w' := by
  refine (get_any f hf hf2 cs hst w).mono ?_
  rintro e w' ⟨rfl, hb⟩
  refine ⟨?_, hb⟩
  unfold getN getR
  cases hasF f cs <;> rfl
theorem getN_other {f g : Nat} (hf : 1 ≤ f) (hf2 : f < 29) (hg : 1 ≤ g) (hg2 : g < 29) (hn : g ≠ f) {cs : Array Value} (hs : cs.size = 49) (x : Int) : getN g (wrF f cs x) = getN g cs := by
  unfold getN; rw [has_other hf hf2 g hs x, rd_other hf hf2 hg hg2 hn hs x]
theorem getR_other {f : Nat} (hf : 1 ≤ f) (hf2 : f < 29) (g : Nat) {cs : Array Value} (hs : cs.size = 49) (x : Int) : getR g (wrF f cs x) = getR g cs := by
  unfold getR; rw [has_other hf hf2 g hs x]
set_option maxRecDepth 20000 in
theorem wpList_eql_state {ops : Array Oper} {rest : List Oper} {op : Oper} {a : Act} {w : World} {Q : Exit → Act → World → Prop} (hw : Region.wanted op (yielded ops a.tmps) = true) (x y : Operand) (ho : op.op = .binOp .eql 49 x y 49)
    (cs : Array Value) (hst : St cs) (hx : a.eval x = .agg cs) (hy : a.eval y = .agg cs) (h : wpList Tryd.prog ops Q rest (a.put op.dst (.bool true)) w) : wpList Tryd.prog ops Q (op :: rest) a w := by
  refine BigFrame.wpList_want hw fun K hK => ?_
  have hm : Tryd.prog.eqGuardType Tryd.prog.depth 49 = false := by kernel_rfl
  have hg : (eqGuard .eql 49 x y (.agg cs) (.agg cs)).run Tryd.prog w = .ok () w := run_eqGuard_agg (hm := hm) ..
  have hq := eq_state hst w
  unfold Oper.wp execOp
  simp only [ho, hx, hy, Sem.run_bind, hg, hq, Sem.run_pure, Result.andThen_ok]
  exact hK _ _ h
set_option maxHeartbeats 2000000 in
set_option maxRecDepth 20000 in
theorem back_none (f : Int) (hf : f < 1 ∨ 28 < f) (cs : Array Value) (hst : St cs) (v m : Int) (w : World) :
    Calls Tryd.prog 4 #[.agg cs, .int .i64 f, .int .u64 v, .int .u64 m] w fun e w' => e = .returned (.bool true) ∧ Below w.heap.size w w' := by
  have HST : Hid _ := hst
  have hi := info_size hst.size
  have HI : Hid _ := hi
  clear hst hi
  go_enter Tryd.func4, Tryd.ntmps4
  go_wp2_with (first
    | refine wpList_load_row rfl 49 _ rfl w.heap.size rfl 49 cs (0, 0) _ (heap_alloc_new _ _) Tryd.underlying49 rfl HI.out ?_
    | fail)
  refine (set_none f hf cs v m _).mono ?_
  rintro e W1 ⟨rfl, hb1⟩
  have HB1 : Hid (Below w.heap.size w W1) := (below1 w _).trans (hb1.mono (by simp))
  clear hb1
  go_wp2_with (first
    | refine wpList_store_new rfl 49 _ _ rfl zeroC zeroC W1.heap.size rfl rfl rfl (info_size zeroC_size) rfl zeroC_one ?_
    | fail)
  refine (lives_any _).mono ?_
  rintro e W2 ⟨rfl, hb2⟩
  have ht2 : W2.heap[W1.heap.size]? = some (.cells zeroC 49 (0, 0)) := (hb2.block _ (by simp)).trans (heap_alloc_new _ _)
  have HB2 : Hid (Below w.heap.size w W2) := HB1.out.trans (((below1 W1 _).trans (hb2.mono (by simp))).mono HB1.out.size)
  have HT2 : Hid _ := ht2
  clear hb2 ht2
  go_wp2_with (first
    | refine wpList_load_row rfl 49 _ rfl W1.heap.size rfl 49 zeroC (0, 0) _ HT2.out Tryd.underlying49 rfl (info_size zeroC_size) ?_
    | refine wpList_eql_state (by rfl) _ _ rfl zeroC zeroSt rfl rfl ?_
    | fail)
  go_ret
  exact ⟨rfl, HB2.out⟩
set_option maxHeartbeats 2000000 in
set_option maxRecDepth 20000 in
theorem back_bad (f : Nat) (hf : 1 ≤ f) (hf2 : f ≤ 28) (cs : Array Value) (hst : St cs) (v m : Int) (hE : setE f cs v m ≠ 0) (w : World) :
    Calls Tryd.prog 4 #[.agg cs, .int .i64 f, .int .u64 v, .int .u64 m] w fun e w' => e = .returned (.bool true) ∧ Below w.heap.size w w' := by
  have HST : Hid _ := hst
  have hi := info_size hst.size
  have HI : Hid _ := hi
  have hc : setC f cs v m = zeroC := by unfold setC; rw [if_neg hE]
  have HC : Hid _ := hc
  obtain ⟨E, hE'⟩ : ∃ E, setE f cs v m = E := ⟨_, rfl⟩
  rw [hE'] at hE
  have HE : Hid _ := hE'
  have hE0 : (E == 0) = false := by simp [hE]
  clear hst hi hc hE hE'
  go_enter Tryd.func4, Tryd.ntmps4
  go_wp2_with (first
    | refine wpList_load_row rfl 49 _ rfl w.heap.size rfl 49 cs (0, 0) _ (heap_alloc_new _ _) Tryd.underlying49 rfl HI.out ?_
    | fail)
  refine (set_any f hf hf2 cs HST.out v m _).mono ?_
  rw [HC.out, HE.out]
  rintro e W1 ⟨rfl, hb1⟩
  have HB1 : Hid (Below w.heap.size w W1) := (below1 w _).trans (hb1.mono (by simp))
  clear hb1
  go_wp2_with (first
    | refine wpList_store_new rfl 49 _ _ rfl zeroC zeroC W1.heap.size rfl rfl rfl (info_size zeroC_size) rfl zeroC_one ?_
    | fail)
  refine (lives_any _).mono ?_
  rintro e W2 ⟨rfl, hb2⟩
  have ht2 : W2.heap[W1.heap.size]? = some (.cells zeroC 49 (0, 0)) := (hb2.block _ (by simp)).trans (heap_alloc_new _ _)
  have HB2 : Hid (Below w.heap.size w W2) := HB1.out.trans (((below1 W1 _).trans (hb2.mono (by simp))).mono HB1.out.size)
  have HT2 : Hid _ := ht2
  clear hb2 ht2
  go_wp2_with (first
    | refine wpList_load_row rfl 49 _ rfl W1.heap.size rfl 49 zeroC (0, 0) _ HT2.out Tryd.underlying49 rfl (info_size zeroC_size) ?_
    | refine wpList_eql_state (by rfl) _ _ rfl zeroC zeroSt rfl rfl ?_
    | fail)
  go_ret
  exact ⟨rfl, HB2.out⟩
set_option maxHeartbeats 4000000 in
set_option maxRecDepth 20000 in
theorem back_good (f : Nat) (hf : 1 ≤ f) (hf2 : f ≤ 28) (cs : Array Value) (hst : St cs) (v m : Int) (hE : setE f cs v m = 0) (w : World) :
    Calls Tryd.prog 4 #[.agg cs, .int .i64 f, .int .u64 v, .int .u64 m] w fun e w' => e = .returned (.bool true) ∧ Below w.heap.size w w' := by
  have hover : overB f v m = false := by
    unfold setE at hE
    cases h : overB f v m
    · rfl
    · simp [h] at hE
  have hhas : hasF f cs = true := by
    unfold setE at hE
    cases h : hasF f cs
    · rw [h] at hE
      split at hE <;> simp at hE
    · rfl
  obtain ⟨tc, htc⟩ : ∃ tc, wrF f cs (mixV f cs v m) = tc := ⟨_, rfl⟩
  have hc : setC f cs v m = tc := by unfold setC; rw [if_pos hE, htc]
  have htst : St tc := by rw [← htc]; exact st_wr hst f hf hf2 _ (mix_in _ _ _ _)
  have r1 : getR f cs = 0 := by unfold getR; rw [hhas, if_pos rfl]
  have r2 : getR f tc = 0 := by rw [← htc, getR_other hf (by omega) f hst.size, r1]
  obtain ⟨old, hold⟩ : ∃ old, getN f cs = old := ⟨_, rfl⟩
  obtain ⟨now, hnow⟩ : ∃ now, getN f tc = now := ⟨_, rfl⟩
  obtain ⟨want, hwant⟩ : ∃ want, bits BinOp.or IntKind.u64 (bits BinOp.andNot IntKind.u64 old m) (bits BinOp.and IntKind.u64 v m) = want := ⟨_, rfl⟩
  have eo : old = bits BinOp.and IntKind.u64 (rdF f cs) (2 ^ fBits f - 1) := by rw [← hold]; unfold getN; rw [hhas, if_pos rfl]
  have en : now = bits BinOp.and IntKind.u64 (rdF f tc) (2 ^ fBits f - 1) := by
    rw [← hnow]; unfold getN; rw [← htc, has_other hf (by omega) f hst.size, hhas, if_pos rfl]
  have hres : now = if f = 4 ∧ want < 65536 then 0 else want := by
    rw [en, ← htc]
    by_cases h4 : f = 4
    · subst h4
      rw [back_tag hst.size hover want (by rw [← eo]; exact hwant)]
      simp
    · rw [back_plain hf (by omega) h4 hst.size hover, ← eo, hwant, if_neg (fun h => h4 h.1)]
  have hoth : ∀ k, 1 ≤ k → k ≤ 28 → k ≠ f → getN k tc = getN k cs ∧ getR k tc = getR k cs := fun k h1 h2 hk => by
    rw [← htc]; exact ⟨getN_other hf (by omega) h1 (by omega) hk hst.size _, getR_other hf (by omega) k hst.size _⟩
  have hi := info_size hst.size
  have HI : Hid _ := hi
  have HST : Hid _ := hst
  have HTS : Hid _ := htst
  have HC : Hid _ := hc
  have HE : Hid _ := hE
  have HR1 : Hid _ := r1
  have HR2 : Hid _ := r2
  have HO : Hid _ := hold
  have HN : Hid _ := hnow
  have HOT : Hid _ := hoth
  clear hst hi hc hE htst r1 r2 hold hnow hoth eo en hover hhas htc
  go_enter Tryd.func4, Tryd.ntmps4
  go_wp2_with (first
    | refine wpList_load_row rfl 49 _ rfl w.heap.size rfl 49 cs (0, 0) _ (heap_alloc_new _ _) Tryd.underlying49 rfl HI.out ?_
    | fail)
  refine (set_any f hf hf2 cs HST.out v m _).mono ?_
  rw [HC.out, HE.out]
  rintro e W1 ⟨rfl, hb1⟩
  have hs1 : W1.heap[w.heap.size]? = some (.cells cs 49 (0, 0)) := (hb1.block _ (by simp)).trans (heap_alloc_new _ _)
  have HS1 : Hid _ := hs1
  have hlt1 : w.heap.size < W1.heap.size := lt_of_heap hs1
  have HB1 : Hid (Below w.heap.size w W1) := (below1 w _).trans (hb1.mono (by simp))
  clear hb1 hs1
  go_wp2_with (first
    | refine wpList_store_new rfl 49 _ _ rfl zeroC tc W1.heap.size rfl rfl rfl (info_size HTS.out.size) (Eq.trans (b := 49) rfl HTS.out.size.symm) HTS.out.one ?_
    | fail)
  refine (lives_any _).mono ?_
  rintro e W2 ⟨rfl, hb2⟩
  have ht2 : W2.heap[W1.heap.size]? = some (.cells tc 49 (0, 0)) := (hb2.block _ (by simp)).trans (heap_alloc_new _ _)
  have hs2 : W2.heap[w.heap.size]? = some (.cells cs 49 (0, 0)) := (hb2.block _ (by simp; omega)).trans ((heap_alloc_old _ _ hlt1).trans HS1.out)
  have HB2 : Hid (Below w.heap.size w W2) := HB1.out.trans (((below1 W1 _).trans (hb2.mono (by simp))).mono HB1.out.size)
  have HT2 : Hid _ := ht2
  have HS2 : Hid _ := hs2
  have hlt2 : W1.heap.size < W2.heap.size := lt_of_heap ht2
  clear hb2 ht2 hs2 HS1 HB1
  go_wp2_with (first
    | refine wpList_load_row rfl 49 _ rfl w.heap.size rfl 49 cs (0, 0) _ HS2.out Tryd.underlying49 rfl HI.out ?_
    | fail)
  refine (get_any2 f hf hf2 cs HST.out _).mono ?_
  rw [HO.out, HR1.out]
  rintro e W3 ⟨rfl, hb3⟩
  have ht3 : W3.heap[W1.heap.size]? = some (.cells tc 49 (0, 0)) := (hb3.block _ hlt2).trans HT2.out
  have hs3 : W3.heap[w.heap.size]? = some (.cells cs 49 (0, 0)) := (hb3.block _ (by omega)).trans HS2.out
  have HB3 : Hid (Below w.heap.size w W3) := HB2.out.trans (hb3.mono HB2.out.size)
  have HT3 : Hid _ := ht3
  have HS3 : Hid _ := hs3
  have hlt3 : W1.heap.size < W3.heap.size := lt_of_heap ht3
  clear hb3 ht3 hs3 HS2 HT2 HB2
  go_wp2_with (first
    | refine wpList_load_row rfl 49 _ rfl W1.heap.size rfl 49 tc (0, 0) _ HT3.out Tryd.underlying49 rfl (info_size HTS.out.size) ?_
    | fail)
  refine (get_any2 f hf hf2 tc HTS.out _).mono ?_
  rw [HN.out, HR2.out]
  rintro e W4 ⟨rfl, hb4⟩
  have ht4 : W4.heap[W1.heap.size]? = some (.cells tc 49 (0, 0)) := (hb4.block _ hlt3).trans HT3.out
  have hs4 : W4.heap[w.heap.size]? = some (.cells cs 49 (0, 0)) := (hb4.block _ (by omega)).trans HS3.out
  have HB4 : Hid (Below w.heap.size w W4) := HB3.out.trans (hb4.mono HB3.out.size)
  have HT4 : Hid _ := ht4
  have HS4 : Hid _ := hs4
  have hlt4 : W1.heap.size < W4.heap.size := lt_of_heap ht4
  clear hb4 ht4 hs4 HS3 HT3 HB3
  by_cases h4 : f = 4
  · by_cases hw4 : want < 65536
    · have c4 : ((f : Int) == 4) = true := by simp; omega
      have hn0 : now = 0 := by rw [hres, if_pos ⟨h4, hw4⟩]
      have hq : ((0 : Int) == 0) = true := rfl
      subst hn0
      clear hres h4
      go_wp2_with fail
      go_loopw [15] (fun i wr => ∃ k : Nat, 1 ≤ k ∧ k ≤ 29 ∧ i = .int .i64 k ∧ Below W4.heap.size W4 wr) (fun i _ => 29 - (intOf i).toNat)
      case atStart => exact ⟨1, by omega, by omega, rfl, Below.refl _ _⟩
      case round =>
        obtain ⟨k, hk1, hk2, rfl, hb⟩ := hrel
        have htk : wr.heap[W1.heap.size]? = some (.cells tc 49 (0, 0)) := (hb.block _ hlt4).trans HT4.out
        have hsk : wr.heap[w.heap.size]? = some (.cells cs 49 (0, 0)) := (hb.block _ (by omega)).trans HS4.out
        have HBK : Hid _ := hb
        have HTK : Hid _ := htk
        have HSK : Hid _ := hsk
        have hltk : W1.heap.size < wr.heap.size := lt_of_heap htk
        clear hb htk hsk
        by_cases hlt : k ≤ 28
        · have hkI : (k : Int) ≤ 28 := by omega
          go_wp2_with (first
            | refine wpList_load_row rfl 49 _ rfl w.heap.size rfl 49 cs (0, 0) _ HSK.out Tryd.underlying49 rfl HI.out ?_
            | fail)
          refine (get_any2 k hk1 hlt cs HST.out _).mono ?_
          rintro e V1 ⟨rfl, hv1⟩
          have htv : V1.heap[W1.heap.size]? = some (.cells tc 49 (0, 0)) := (hv1.block _ hltk).trans HTK.out
          have HTV : Hid _ := htv
          have HBV : Hid (Below W4.heap.size W4 V1) := HBK.out.trans (hv1.mono HBK.out.size)
          clear hv1 htv HTK HSK HBK
          go_wp2_with (first
            | refine wpList_load_row rfl 49 _ rfl W1.heap.size rfl 49 tc (0, 0) _ HTV.out Tryd.underlying49 rfl (info_size HTS.out.size) ?_
            | fail)
          refine (get_any2 k hk1 hlt tc HTS.out _).mono ?_
          by_cases hkf : k = f
          · subst hkf
            rintro e V2 ⟨rfl, hv2⟩
            have HBW : Hid (Below W4.heap.size W4 V2) := HBV.out.trans (hv2.mono HBV.out.size)
            clear hv2 HTV HBV
            go_wp2
            go_roundw
            case rel => exact ⟨k + 1, by omega, by omega, by go_num, HBW.out⟩
            case measure => simp [intOf]; omega
          · have c1 : ((k : Int) == (f : Int)) = false := by simp; omega
            obtain ⟨o1, o2⟩ := HOT.out k hk1 hlt hkf
            rw [o1, o2]
            rintro e V2 ⟨rfl, hv2⟩
            have HBW : Hid (Below W4.heap.size W4 V2) := HBV.out.trans (hv2.mono HBV.out.size)
            clear hv2 HTV HBV hkf o1 o2
            go_wp2
            go_roundw
            case rel => exact ⟨k + 1, by omega, by omega, by go_num, HBW.out⟩
            case measure => simp [intOf]; omega
            all_goals exact ⟨⟨k + 1, by omega, by omega, by go_num, HBW.out⟩, by simp [intOf]; omega⟩
        · obtain rfl : k = 29 := by omega
          go_wp2
          go_ret
          exact ⟨rfl, HB4.out.trans (HBK.out.mono HB4.out.size)⟩
    · have c4 : ((f : Int) == 4) = true := by simp; omega
      have hn0 : now = want := by rw [hres, if_neg (fun h => hw4 h.2)]
      have hge : 65536 ≤ want := by omega
      subst hn0
      clear hres h4 hw4
      go_wp2_with fail
      go_loopw [15] (fun i wr => ∃ k : Nat, 1 ≤ k ∧ k ≤ 29 ∧ i = .int .i64 k ∧ Below W4.heap.size W4 wr) (fun i _ => 29 - (intOf i).toNat)
      case atStart => exact ⟨1, by omega, by omega, rfl, Below.refl _ _⟩
      case round =>
        obtain ⟨k, hk1, hk2, rfl, hb⟩ := hrel
        have htk : wr.heap[W1.heap.size]? = some (.cells tc 49 (0, 0)) := (hb.block _ hlt4).trans HT4.out
        have hsk : wr.heap[w.heap.size]? = some (.cells cs 49 (0, 0)) := (hb.block _ (by omega)).trans HS4.out
        have HBK : Hid _ := hb
        have HTK : Hid _ := htk
        have HSK : Hid _ := hsk
        have hltk : W1.heap.size < wr.heap.size := lt_of_heap htk
        clear hb htk hsk
        by_cases hlt : k ≤ 28
        · have hkI : (k : Int) ≤ 28 := by omega
          go_wp2_with (first
            | refine wpList_load_row rfl 49 _ rfl w.heap.size rfl 49 cs (0, 0) _ HSK.out Tryd.underlying49 rfl HI.out ?_
            | fail)
          refine (get_any2 k hk1 hlt cs HST.out _).mono ?_
          rintro e V1 ⟨rfl, hv1⟩
          have htv : V1.heap[W1.heap.size]? = some (.cells tc 49 (0, 0)) := (hv1.block _ hltk).trans HTK.out
          have HTV : Hid _ := htv
          have HBV : Hid (Below W4.heap.size W4 V1) := HBK.out.trans (hv1.mono HBK.out.size)
          clear hv1 htv HTK HSK HBK
          go_wp2_with (first
            | refine wpList_load_row rfl 49 _ rfl W1.heap.size rfl 49 tc (0, 0) _ HTV.out Tryd.underlying49 rfl (info_size HTS.out.size) ?_
            | fail)
          refine (get_any2 k hk1 hlt tc HTS.out _).mono ?_
          by_cases hkf : k = f
          · subst hkf
            rintro e V2 ⟨rfl, hv2⟩
            have HBW : Hid (Below W4.heap.size W4 V2) := HBV.out.trans (hv2.mono HBV.out.size)
            clear hv2 HTV HBV
            go_wp2
            go_roundw
            case rel => exact ⟨k + 1, by omega, by omega, by go_num, HBW.out⟩
            case measure => simp [intOf]; omega
          · have c1 : ((k : Int) == (f : Int)) = false := by simp; omega
            obtain ⟨o1, o2⟩ := HOT.out k hk1 hlt hkf
            rw [o1, o2]
            rintro e V2 ⟨rfl, hv2⟩
            have HBW : Hid (Below W4.heap.size W4 V2) := HBV.out.trans (hv2.mono HBV.out.size)
            clear hv2 HTV HBV hkf o1 o2
            go_wp2
            go_roundw
            case rel => exact ⟨k + 1, by omega, by omega, by go_num, HBW.out⟩
            case measure => simp [intOf]; omega
            all_goals exact ⟨⟨k + 1, by omega, by omega, by go_num, HBW.out⟩, by simp [intOf]; omega⟩
        · obtain rfl : k = 29 := by omega
          go_wp2
          go_ret
          exact ⟨rfl, HB4.out.trans (HBK.out.mono HB4.out.size)⟩
  · have c4 : ((f : Int) == 4) = false := by simp; omega
    have hn0 : now = want := by rw [hres, if_neg (fun h => h4 h.1)]
    subst hn0
    clear hres h4
    go_wp2_with fail
    go_loopw [15] (fun i wr => ∃ k : Nat, 1 ≤ k ∧ k ≤ 29 ∧ i = .int .i64 k ∧ Below W4.heap.size W4 wr) (fun i _ => 29 - (intOf i).toNat)
    case atStart => exact ⟨1, by omega, by omega, rfl, Below.refl _ _⟩
    case round =>
      obtain ⟨k, hk1, hk2, rfl, hb⟩ := hrel
      have htk : wr.heap[W1.heap.size]? = some (.cells tc 49 (0, 0)) := (hb.block _ hlt4).trans HT4.out
      have hsk : wr.heap[w.heap.size]? = some (.cells cs 49 (0, 0)) := (hb.block _ (by omega)).trans HS4.out
      have HBK : Hid _ := hb
      have HTK : Hid _ := htk
      have HSK : Hid _ := hsk
      have hltk : W1.heap.size < wr.heap.size := lt_of_heap htk
      clear hb htk hsk
      by_cases hlt : k ≤ 28
      · have hkI : (k : Int) ≤ 28 := by omega
        go_wp2_with (first
          | refine wpList_load_row rfl 49 _ rfl w.heap.size rfl 49 cs (0, 0) _ HSK.out Tryd.underlying49 rfl HI.out ?_
          | fail)
        refine (get_any2 k hk1 hlt cs HST.out _).mono ?_
        rintro e V1 ⟨rfl, hv1⟩
        have htv : V1.heap[W1.heap.size]? = some (.cells tc 49 (0, 0)) := (hv1.block _ hltk).trans HTK.out
        have HTV : Hid _ := htv
        have HBV : Hid (Below W4.heap.size W4 V1) := HBK.out.trans (hv1.mono HBK.out.size)
        clear hv1 htv HTK HSK HBK
        go_wp2_with (first
          | refine wpList_load_row rfl 49 _ rfl W1.heap.size rfl 49 tc (0, 0) _ HTV.out Tryd.underlying49 rfl (info_size HTS.out.size) ?_
          | fail)
        refine (get_any2 k hk1 hlt tc HTS.out _).mono ?_
        by_cases hkf : k = f
        · subst hkf
          rintro e V2 ⟨rfl, hv2⟩
          have HBW : Hid (Below W4.heap.size W4 V2) := HBV.out.trans (hv2.mono HBV.out.size)
          clear hv2 HTV HBV
          go_wp2
          go_roundw
          case rel => exact ⟨k + 1, by omega, by omega, by go_num, HBW.out⟩
          case measure => simp [intOf]; omega
        · have c1 : ((k : Int) == (f : Int)) = false := by simp; omega
          obtain ⟨o1, o2⟩ := HOT.out k hk1 hlt hkf
          rw [o1, o2]
          rintro e V2 ⟨rfl, hv2⟩
          have HBW : Hid (Below W4.heap.size W4 V2) := HBV.out.trans (hv2.mono HBV.out.size)
          clear hv2 HTV HBV hkf o1 o2
          go_wp2
          go_roundw
          case rel => exact ⟨k + 1, by omega, by omega, by go_num, HBW.out⟩
          case measure => simp [intOf]; omega
          all_goals exact ⟨⟨k + 1, by omega, by omega, by go_num, HBW.out⟩, by simp [intOf]; omega⟩
      · obtain rfl : k = 29 := by omega
        go_wp2
        go_ret
        exact ⟨rfl, HB4.out.trans (HBK.out.mono HB4.out.size)⟩
end Go.Proofs.YtbodenmdcbfflaaDoor
