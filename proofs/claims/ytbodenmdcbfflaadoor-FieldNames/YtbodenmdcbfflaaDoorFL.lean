/- The law FieldApart, but for its frame. Conditions: the State's cells are of their kinds; numbers of their kinds. -/
import Derived.Test.YtbodenmdcbfflaaDoorFK
namespace Go.Proofs.YtbodenmdcbfflaaDoor
open Go.RowKit

def setE (f : Nat) (cs : Array Value) (v m : Int) : Int := if fixB f || overB f v m then 80 else if hasF f cs then 0 else 81
def setC (f : Nat) (cs : Array Value) (v m : Int) : Array Value := if setE f cs v m = 0 then wrF f cs (mixV f cs v m) else zeroC
theorem setC_st {f : Nat} (hf : 1 ≤ f) (hf2 : f ≤ 28) {cs : Array Value} (h : St cs) (v m : Int) : St (setC f cs v m) := by
  unfold setC
  split
  · exact st_wr h f hf hf2 _ (mix_in _ _ _ _)
  · exact zeroSt
theorem set_any (f : Nat) (hf : 1 ≤ f) (hf2 : f ≤ 28) (cs : Array Value) (hst : St cs) (v m : Int) (w : World) :
    Calls Tryd.prog 17 #[.agg cs, .int .i64 f, .int .u64 v, .int .u64 m] w fun e w' => e = .returned (.tuple #[.agg (setC f cs v m), .int .i64 (setE f cs v m)]) ∧ Below w.heap.size w w' := by
  cases h1 : fixB f
  · cases h2 : overB f v m
    · cases h3 : hasF f cs
      · have e : setE f cs v m = 81 := by simp [setE, h1, h2, h3]
        have c : setC f cs v m = zeroC := by simp [setC, e]
        rw [e, c]; exact set_pre f hf hf2 cs hst v m h1 h2 h3 w
      · have e : setE f cs v m = 0 := by simp [setE, h1, h2, h3]
        have c : setC f cs v m = wrF f cs (mixV f cs v m) := by simp [setC, e]
        rw [e, c]; exact set_yes f hf hf2 cs hst v m h1 h2 h3 (st_wr hst f hf hf2 _ (mix_in _ _ _ _)) w
    · have e : setE f cs v m = 80 := by simp [setE, h1, h2]
      have c : setC f cs v m = zeroC := by simp [setC, e]
      rw [e, c]; exact set_over f hf hf2 cs hst v m h1 h2 w
  · have e : setE f cs v m = 80 := by simp [setE, h1]
    have c : setC f cs v m = zeroC := by simp [setC, e]
    rw [e, c]; exact set_fixed f hf hf2 cs hst v m h1 w
theorem setE_other {f g : Nat} (hf : 1 ≤ f) (hf2 : f < 29) {cs : Array Value} (hs : cs.size = 49) (x v m : Int) : setE g (wrF f cs x) v m = setE g cs v m := by
  unfold setE; rw [has_other hf hf2 g hs x]
theorem wpList_load_want {P : Program} {ops : Array Oper} {rest : List Oper} {o : Oper} {a : Act} {w : World} {Q : Exit → Act → World → Prop} (hw : Region.wanted o (yielded ops a.tmps) = true) (ty : TypeId) (x : Operand) (ho : o.op = .load ty x)
    (g : Nat) (hx : a.eval x = .pointer (some ⟨g, 0, none⟩)) (t : TypeId) (cs : Array Value) (fr : Nat × Nat) (d : TypeDesc) (hg : w.heap[g]? = some (.cells cs t fr))
    (hu : P.underlying ty = some d) (hd : (match d with | .struct _ | .array _ _ => true | _ => false) = true) (hi : (P.info? ty).map (·.size) = some cs.size)
    (h : wpList P ops Q rest (a.put o.dst (.agg cs)) w) : wpList P ops Q (o :: rest) a w :=
  BigFrame.wpList_want hw fun _ hK => wp_load_row ty x ho g hx t cs fr d hg hu hd hi (hK _ _ h)
set_option maxHeartbeats 8000000 in
set_option maxRecDepth 20000 in
theorem apart_in (f g : Nat) (hf : 1 ≤ f) (hf2 : f ≤ 28) (hg : 1 ≤ g) (hg2 : g ≤ 28) (hn : f ≠ g) (cs : Array Value) (hst : St cs) (a b : Int) (w : World) :
    Calls Tryd.prog 6 #[.agg cs, .int .i64 f, .int .u64 a, .int .i64 g, .int .u64 b] w fun e w' => e = .returned (.bool true) ∧ Below w.heap.size w w' := by
  have HST : Hid _ := hst
  have hi := info_size hst.size
  have HI : Hid _ := hi
  clear hst hi
  have n1 : ((f : Int) == (g : Int)) = false := by simp; omega
  have n2 : (1 : Int) ≤ f := by omega
  have n3 : (f : Int) ≤ 28 := by omega
  have n4 : (1 : Int) ≤ g := by omega
  have n5 : (g : Int) ≤ 28 := by omega
  obtain ⟨X, hX⟩ : ∃ X, IntKind.u64.wrap (IntKind.u64.wrap (2 ^ fBits f) - 1) = X := ⟨_, rfl⟩
  obtain ⟨M, hM⟩ : ∃ M, IntKind.u64.wrap (IntKind.u64.wrap (2 ^ fBits g) - 1) = M := ⟨_, rfl⟩
  go_enter Tryd.func6, Tryd.ntmps6
  go_wp2_with fail
  refine (lives_any _).mono ?_
  rintro e W1 ⟨rfl, hb1⟩
  have hs1 : W1.heap[w.heap.size]? = some (.cells cs 49 (0, 0)) := (hb1.block _ (by simp)).trans (heap_alloc_new _ _)
  have HS1 : Hid _ := hs1
  have HB1 : Hid (Below w.heap.size w W1) := (below1 w _).trans (hb1.mono (by simp))
  clear hb1 hs1
  go_wp2_with fail
  go_region_held3 (fun W => Below W1.heap.size W1 W)
    (first
      | exact (Below.refl _ _).drew
      | exact Below.refl _ _
      | exact hV2
      | exact hV2.drew
      | exact hV1
      | exact hV1.drew
      | fail)
    (first
      | (go_at_call 14; refine (bits_any f hf hf2 _).mono ?_; rintro e W2 ⟨rfl, hbb⟩; have hV1 : Below W1.heap.size W1 W2 := (Below.refl _ _).drew.trans hbb)
      | (go_at_call 14; refine (bits_any g hg hg2 _).mono ?_; rintro e W3 ⟨rfl, hbb2⟩; have hV2 : Below W1.heap.size W1 W3 := hV1.trans (hbb2.mono hV1.size))
      | fail)
  have hs3 : W3.heap[w.heap.size]? = some (.cells cs 49 (0, 0)) := (hV2.block _ (lt_of_heap HS1.out)).trans HS1.out
  have HB3 : Hid (Below w.heap.size w W3) := HB1.out.trans (hV2.mono HB1.out.size)
  have HS3 : Hid _ := hs3
  rw [show min (fBits f) 64 = fBits f from by have := fBits_le f; omega, show min (fBits g) 64 = fBits g from by have := fBits_le g; omega, hX, hM]
  clear hs3 HS1 HB1 hbb hbb2 hV1 hV2 hX hM
  obtain ⟨A, hA⟩ : ∃ A, bits BinOp.and IntKind.u64 a X = A := ⟨_, rfl⟩
  obtain ⟨B, hB⟩ : ∃ B, bits BinOp.and IntKind.u64 b M = B := ⟨_, rfl⟩
  go_wp2_with (first
    | refine wpList_load_row rfl 49 _ rfl w.heap.size rfl 49 cs (0, 0) _ HS3.out Tryd.underlying49 rfl HI.out ?_
    | fail)
  refine (set_any f hf hf2 cs HST.out A X _).mono ?_
  rintro e W4 ⟨rfl, hb4⟩
  have hpst := setC_st hf hf2 HST.out A X
  have hs4 : W4.heap[w.heap.size]? = some (.cells cs 49 (0, 0)) := (hb4.block _ (lt_of_heap HS3.out)).trans HS3.out
  have HB4 : Hid (Below w.heap.size w W4) := HB3.out.trans (hb4.mono HB3.out.size)
  have HS4 : Hid _ := hs4
  have HP : Hid _ := hpst
  have hlt4 : w.heap.size < W4.heap.size := lt_of_heap hs4
  clear hb4 hs4 hpst HS3 HB3
  obtain ⟨pc, hpc⟩ : ∃ pc, setC f cs A X = pc := ⟨_, rfl⟩
  obtain ⟨E1, hE1⟩ : ∃ E1, setE f cs A X = E1 := ⟨_, rfl⟩
  rw [hpc] at HP
  have HPC : Hid _ := hpc
  have HE1 : Hid _ := hE1
  rw [hpc, hE1]
  clear hpc hE1
  go_wp2_with (first
    | refine wpList_store_new rfl 49 _ _ rfl zeroC pc W4.heap.size rfl rfl rfl (info_size HP.out.size) (Eq.trans (b := 49) rfl HP.out.size.symm) HP.out.one ?_
    | refine wpList_load_row rfl 49 _ rfl w.heap.size rfl 49 cs (0, 0) _ ((heap_alloc_old _ _ hlt4).trans HS4.out) Tryd.underlying49 rfl HI.out ?_
    | fail)
  refine (set_any g hg hg2 cs HST.out B M _).mono ?_
  rintro e W5 ⟨rfl, hb5⟩
  have hqst := setC_st hg hg2 HST.out B M
  have hp5 : W5.heap[W4.heap.size]? = some (.cells pc 49 (0, 0)) := (hb5.block _ (by simp)).trans (heap_alloc_new _ _)
  have HB5 : Hid (Below w.heap.size w W5) := HB4.out.trans (((below1 W4 _).trans (hb5.mono (by simp))).mono HB4.out.size)
  have HP5 : Hid _ := hp5
  have HQ : Hid _ := hqst
  have hlt5 : W4.heap.size < W5.heap.size := lt_of_heap hp5
  clear hb5 hp5 hqst HS4 HB4
  obtain ⟨qc, hqc⟩ : ∃ qc, setC g cs B M = qc := ⟨_, rfl⟩
  obtain ⟨E2, hE2⟩ : ∃ E2, setE g cs B M = E2 := ⟨_, rfl⟩
  rw [hqc] at HQ
  have HQC : Hid _ := hqc
  have HE2 : Hid _ := hE2
  rw [hqc, hE2]
  clear hqc hE2
  by_cases z1 : E1 = 0
  · by_cases z2 : E2 = 0
    · subst z1
      subst z2
      have ep : pc = wrF f cs (mixV f cs A X) := by rw [← HPC.out]; unfold setC; rw [if_pos HE1.out]
      have eq : qc = wrF g cs (mixV g cs B M) := by rw [← HQC.out]; unfold setC; rw [if_pos HE2.out]
      have e3 : setE g pc B M = 0 := by rw [ep, setE_other hf (by omega) HST.out.size]; exact HE2.out
      have e4 : setE f qc A X = 0 := by rw [eq, setE_other hg (by omega) HST.out.size]; exact HE1.out
      have e5 : setC f qc A X = setC g pc B M := by
        unfold setC
        rw [if_pos e3, if_pos e4, ep, eq, mix_other hf (by omega) hg (by omega) (fun h => hn h.symm) HST.out.size, mix_other hg (by omega) hf (by omega) hn HST.out.size]
        exact (wr_comm hf (by omega) hg (by omega) hn HST.out.size _ _).symm
      have hrst := setC_st hg hg2 HP.out B M
      obtain ⟨rc, hrc⟩ : ∃ rc, setC g pc B M = rc := ⟨_, rfl⟩
      rw [hrc] at hrst e5
      have HE3 : Hid _ := e3
      have HE4 : Hid _ := e4
      have HE5 : Hid _ := e5
      have HRC : Hid _ := hrc
      have HR : Hid _ := hrst
      have heq := fun W => eq_state hrst W
      have HEQ : Hid _ := heq
      clear ep eq e3 e4 e5 hrc hrst heq
      go_wp2_with (first
        | refine wpList_store_new rfl 49 _ _ rfl zeroC qc W5.heap.size rfl rfl rfl (info_size HQ.out.size) (Eq.trans (b := 49) rfl HQ.out.size.symm) HQ.out.one ?_
        | refine wpList_load_row rfl 49 _ rfl W4.heap.size rfl 49 pc (0, 0) _ ((heap_alloc_old _ _ hlt5).trans HP5.out) Tryd.underlying49 rfl (info_size HP.out.size) ?_
        | fail)
      refine (set_any g hg hg2 pc HP.out B M _).mono ?_
      rw [HE3.out, HRC.out]
      rintro e W6 ⟨rfl, hb6⟩
      have hq6 : W6.heap[W5.heap.size]? = some (.cells qc 49 (0, 0)) := (hb6.block _ (by simp)).trans (heap_alloc_new _ _)
      have HB6 : Hid (Below w.heap.size w W6) := HB5.out.trans (((below1 W5 _).trans (hb6.mono (by simp))).mono HB5.out.size)
      have HQ6 : Hid _ := hq6
      have hlt6 : W5.heap.size < W6.heap.size := lt_of_heap hq6
      clear hb6 hq6 HP5 HB5
      go_wp2_with (first
        | refine wpList_store_new rfl 49 _ _ rfl zeroC rc W6.heap.size rfl rfl rfl (info_size HR.out.size) (Eq.trans (b := 49) rfl HR.out.size.symm) HR.out.one ?_
        | refine wpList_load_row rfl 49 _ rfl W5.heap.size rfl 49 qc (0, 0) _ ((heap_alloc_old _ _ hlt6).trans HQ6.out) Tryd.underlying49 rfl (info_size HQ.out.size) ?_
        | fail)
      refine (set_any f hf hf2 qc HQ.out A X _).mono ?_
      rw [HE4.out, HE5.out]
      rintro e W7 ⟨rfl, hb7⟩
      have hr7 : W7.heap[W6.heap.size]? = some (.cells rc 49 (0, 0)) := (hb7.block _ (by simp)).trans (heap_alloc_new _ _)
      have HB7 : Hid (Below w.heap.size w W7) := HB6.out.trans (((below1 W6 _).trans (hb7.mono (by simp))).mono HB6.out.size)
      have HR7 : Hid _ := hr7
      have hlt7 : W6.heap.size < W7.heap.size := lt_of_heap hr7
      have heq := HEQ.out
      clear hb7 hr7 HQ6 HB6
      go_wp2_with (first
        | refine wpList_store_new rfl 49 _ _ rfl zeroC rc W7.heap.size rfl rfl rfl (info_size HR.out.size) (Eq.trans (b := 49) rfl HR.out.size.symm) HR.out.one ?_
        | refine wpList_load_want (by rfl) 49 _ rfl W6.heap.size rfl 49 rc (0, 0) _ ((heap_alloc_old _ _ hlt7).trans HR7.out) Tryd.underlying49 rfl (info_size HR.out.size) ?_
        | refine wpList_load_want (by rfl) 49 _ rfl W7.heap.size rfl 49 rc (0, 0) _ (heap_alloc_new _ _) Tryd.underlying49 rfl (info_size HR.out.size) ?_
        | fail)

      go_ret
      exact ⟨rfl, HB7.out.trans ((below1 W7 _).mono HB7.out.size)⟩
    · have z2' : (E2 == 0) = false := by simp [z2]
      subst z1
      clear z2
      go_wp2_with (first
        | refine wpList_store_new rfl 49 _ _ rfl zeroC qc W5.heap.size rfl rfl rfl (info_size HQ.out.size) (Eq.trans (b := 49) rfl HQ.out.size.symm) HQ.out.one ?_
        | fail)
      go_ret
      exact ⟨rfl, HB5.out.trans ((below1 W5 _).mono HB5.out.size)⟩
  · have z1' : (E1 == 0) = false := by simp [z1]
    clear z1
    go_wp2_with (first
      | refine wpList_store_new rfl 49 _ _ rfl zeroC qc W5.heap.size rfl rfl rfl (info_size HQ.out.size) (Eq.trans (b := 49) rfl HQ.out.size.symm) HQ.out.one ?_
      | fail)
    go_ret
    exact ⟨rfl, HB5.out.trans ((below1 W5 _).mono HB5.out.size)⟩
end Go.Proofs.YtbodenmdcbfflaaDoor
