/- What headFits and Encode of package ip answer. Conditions: addresses of 32 bits, options as a list of bytes. -/
import Derived.Test.YtgonckbdkgiddaaIC
import Derived.Lib.AppendStr
import Derived.Laws.MakeOwn
namespace Go.Proofs.Ytgonckbdkgiddaa.Ip
open Go.RowKit

theorem fitN8 (v : Int) : fitN 8 v = fit8 v := rfl
theorem fitN16 (v : Int) : fitN 16 v = fit16 v := rfl

set_option maxHeartbeats 1000000 in
theorem hfits_any (tos id frag ttl pr src dst : Int) (os : List Int) (w : World) (hn : os.length ≤ 140737488355328) :
    Calls Try.prog 44 #[ipV tos id frag ttl pr src dst os] w fun e w' => e = .returned (.bool (headOk tos id frag ttl pr os.length)) ∧ w' = w.alloc (.cells #[.int .i64 tos, .int .i64 id, .int .i64 frag, .int .i64 ttl, .int .i64 pr, .int .u32 src, .int .u32 dst, .string (strOfNums os)] 51) := by
  have hsz := strOfNums_size os
  have ht : (os.length : Int).tmod 4 = (os.length : Int) % 4 := Int.tmod_eq_emod_of_nonneg (by omega)
  unfold ipV
  cases c0 : fitN 8 tos
  · have e : headOk tos id frag ttl pr os.length = false := by rw [fitN8] at c0; simp [headOk, c0]
    rw [e]
    go_enter Try.func44, Try.ntmps44
    go_wp2_with (go_at_call 34; refine (fitN_any _ _ (by omega) _).mono ?_; rintro e w' ⟨rfl, rfl⟩)
    go_ret
    exact ⟨rfl, rfl⟩
  cases c1 : fitN 8 ttl
  · have e : headOk tos id frag ttl pr os.length = false := by rw [fitN8] at c1; simp [headOk, c1]
    rw [e]
    go_enter Try.func44, Try.ntmps44
    go_wp2_with (go_at_call 34; refine (fitN_any _ _ (by omega) _).mono ?_; rintro e w' ⟨rfl, rfl⟩)
    go_ret
    exact ⟨rfl, rfl⟩
  cases c2 : fitN 8 pr
  · have e : headOk tos id frag ttl pr os.length = false := by rw [fitN8] at c2; simp [headOk, c2]
    rw [e]
    go_enter Try.func44, Try.ntmps44
    go_wp2_with (go_at_call 34; refine (fitN_any _ _ (by omega) _).mono ?_; rintro e w' ⟨rfl, rfl⟩)
    go_ret
    exact ⟨rfl, rfl⟩
  cases c3 : fitN 16 id
  · have e : headOk tos id frag ttl pr os.length = false := by rw [fitN16] at c3; simp [headOk, c3]
    rw [e]
    go_enter Try.func44, Try.ntmps44
    go_wp2_with (go_at_call 34; refine (fitN_any _ _ (by omega) _).mono ?_; rintro e w' ⟨rfl, rfl⟩)
    go_ret
    exact ⟨rfl, rfl⟩
  cases c4 : fitN 16 frag
  · have e : headOk tos id frag ttl pr os.length = false := by rw [fitN16] at c4; simp [headOk, c4]
    rw [e]
    go_enter Try.func44, Try.ntmps44
    go_wp2_with (go_at_call 34; refine (fitN_any _ _ (by omega) _).mono ?_; rintro e w' ⟨rfl, rfl⟩)
    go_ret
    exact ⟨rfl, rfl⟩
  have e0 : headOk tos id frag ttl pr os.length = (decide (os.length ≤ 40) && decide (os.length % 4 = 0)) := by
    rw [fitN8] at c0 c1 c2
    rw [fitN16] at c3 c4
    simp [headOk, c0, c1, c2, c3, c4]
  by_cases c6 : (os.length : Int) ≤ 40
  · have e : headOk tos id frag ttl pr os.length = ((os.length : Int) % 4 == 0) := by
      rw [e0, Bool.eq_iff_iff]
      simp
      omega
    rw [e]
    clear e e0 hn
    go_enter Try.func44, Try.ntmps44
    go_wp2_with (go_at_call 34; refine (fitN_any _ _ (by omega) _).mono ?_; rintro e w' ⟨rfl, rfl⟩)
    go_ret
    exact ⟨rfl, rfl⟩
  · have e : headOk tos id frag ttl pr os.length = false := by rw [e0]; simp; omega
    rw [e]
    clear e e0
    go_enter Try.func44, Try.ntmps44
    go_wp2_with (go_at_call 34; refine (fitN_any _ _ (by omega) _).mono ?_; rintro e w' ⟨rfl, rfl⟩)
    go_ret
    exact ⟨rfl, rfl⟩

set_option maxHeartbeats 1000000 in
theorem put_any (f : Nat) (hf : f = 45) (w0 W : World) (p : Nat) (xs : List Int) (h : Enc w0 W p xs) (hn : xs.length ≤ 1000000) (v : Int) (hv : 0 ≤ v ∧ v ≤ 9223372036854775807) (s : Nat) (hs : s ≤ 8) :
    Calls Try.prog f #[.int .i64 v, .int .i64 s, .pointer (some ⟨p, 0, none⟩)] W fun e w' => e = .returned (.tuple #[]) ∧ Enc w0 w' p (xs ++ be v s) := by
  subst hf
  obtain ⟨hb, hp, a, cap, hc, ho⟩ := h
  have hc0 := cell_of_one hc
  have hf0 := free_of_one hc
  have HC : Hid _ := hc
  have HO : Hid _ := ho
  have HB : Hid _ := hb
  clear hc ho hb
  go_enter Try.func45, Try.ntmps45
  go_wp2_with fail
  refine (appendNumber_any w0.heap.size W a xs.length cap xs HO.out HB.out.size hn v (by omega) s hs).mono ?_
  rintro e w1 ⟨a', cap', rfl, hr⟩
  have hap := row_apart HO.out HC.out
  have hc1 : w1.heap[p]? = some (.cells #[.slice a xs.length cap] 26 (0, 0)) := (hr.grown.block p (lt_of_block HC.out) (fun e => hap e.symm)).trans HC.out
  have hc1' := cell_of_one hc1
  have hf1 := free_of_one hc1
  have HC1 : Hid _ := hc1
  have HR : Hid _ := hr
  clear hc1 hr hap hc0 hf0
  go_wp2
  go_end0
  refine ⟨rfl, ?_, hp, a', cap', ?_, ?_⟩
  · exact (HB.out.grown HR.out.grown HB.out.size (fun k hk => (World.ownsRow.lt HO.out k hk).1)).setCell hp _
  · rw [one_setCell HC1.out]; simp [be_len]
  · rw [show (xs ++ be v s).length = xs.length + s from by simp [be_len]]
    exact ownsRow_setCell_other HR.out.own (row_apart HR.out.own HC1.out) _

theorem put_lit (w0 W : World) (p : Nat) (xs : List Int) (h : Enc w0 W p xs) (hn : xs.length ≤ 1000000) (v : Int) (hv : 0 ≤ v ∧ v ≤ 9223372036854775807) (s : Int) (hs0 : 0 ≤ s) (hs : s ≤ 8) :
    Calls Try.prog 45 #[.int .i64 v, .int .i64 s, .pointer (some ⟨p, 0, none⟩)] W fun e w' => e = .returned (.tuple #[]) ∧ Enc w0 w' p (xs ++ be v s.toNat) := by
  obtain ⟨s, rfl⟩ := Int.eq_ofNat_of_zero_le hs0
  exact put_any 45 rfl w0 W p xs h hn v hv s (by omega)

theorem enc_start (w2 : World) (arr : Array Value) (c p g : Nat) (hp : p = w2.heap.size + 1) (hg : g = w2.heap.size) (hc : arr.size = c) (hm : c ≤ 1000000) :
    Enc w2 ((w2.alloc (.cells arr 5)).alloc (.cells #[.slice (some ⟨g, 0, none⟩) 0 c] 26)) p [] := by
  subst hp
  subst hg
  refine ⟨below2 w2 _ _, by omega, some ⟨w2.heap.size, 0, none⟩, c, ?_, ?_⟩
  · have := heap_alloc_new (w2.alloc (.cells arr 5)) (.cells #[.slice (some ⟨w2.heap.size, 0, none⟩) 0 c] 26)
    simpa using this
  · exact (World.ownsRow_made w2 arr c (Nat.le_refl _) (by unfold maxLen; omega) (by simpa using hc)).alloc _

theorem make_bytes (w : World) (c : Nat) (hc : c ≤ 140737488355328) : (Instr.makeSlice 26 (.int .i64 0) (.int .i64 (c : Int))).run Try.prog w = .ok (.slice (some ⟨w.heap.size, 0, none⟩) 0 c) (w.alloc (.cells (madeCells #[.int .u8 0] c) 5)) := by
  obtain ⟨i0, hi, hz0, hz1, hz2⟩ := info_parts info5
  have := run_make (P := Try.prog) w 26 5 i0 (.int .u8 0) Try.underlying26 hi hz0 .i64 .i64 0 (c : Int) (by omega) (by omega) (by rw [hz2]; omega) (by omega)
  rw [hz1] at this
  simpa [Value.cells] using this

theorem or64s (x : Int) (h : 0 ≤ x ∧ x ≤ 15) : bits .or .i64 64 x = 64 + x := by
  have : x = 0 ∨ x = 1 ∨ x = 2 ∨ x = 3 ∨ x = 4 ∨ x = 5 ∨ x = 6 ∨ x = 7 ∨ x = 8 ∨ x = 9 ∨ x = 10 ∨ x = 11 ∨ x = 12 ∨ x = 13 ∨ x = 14 ∨ x = 15 := by omega
  rcases this with rfl | rfl | rfl | rfl | rfl | rfl | rfl | rfl | rfl | rfl | rfl | rfl | rfl | rfl | rfl | rfl <;> (first | rfl | decide +kernel)

theorem strCells_nums {os : List Int} (h : ∀ i, 0 ≤ os.getD i 0 ∧ os.getD i 0 ≤ 255) : Lib.strCells (strOfNums os) = os.map (Value.int .u8) := by
  unfold Lib.strCells
  rw [strOfNums_data, List.map_map]
  apply List.map_congr_left
  intro x hx
  obtain ⟨i, hi, rfl⟩ := List.getElem_of_mem hx
  have := h i
  rw [List.getD_eq_getElem?_getD, List.getElem?_eq_getElem hi] at this
  simp only [Option.getD_some] at this
  simp only [Function.comp]
  congr 1
  rw [UInt8.toNat_ofNat']
  omega

theorem wpList_append_str {P : Program} {w : World} {ops : Array Oper} {rest : List Oper} {o : Oper} {act : Act} {Q : Exit → Act → World → Prop} (hgd : o.guard = none) (s x : Operand) (t u : TypeId)
    (ho : o.op = .call { callee := .builtin .append, args := #[s, x], argTypes := #[t, u] })
    (base : Nat) (e : TypeId) (i : TypeInfo) (ht : P.underlying t = some (.slice e)) (hu : P.underlying u = some .string) (hi : P.info? e = some i) (hz : i.zero = some (.int .u8 0)) (hsize : i.size = 1) (hby : i.bytes = 1)
    (v : Value) (n : Nat) (xs : List Int) (hs : act.eval s = v) (hown : w.ownsRow base e 1 v n (xs.map (Value.int .u8)))
    (os : List Int) (hf : ∀ i, 0 ≤ os.getD i 0 ∧ os.getD i 0 ≤ 255) (hx : act.eval x = .string (strOfNums os)) (hsum : n + os.length ≤ 140737488355328) (hbase : base ≤ w.heap.size)
    (h : ∀ a' cap' w', w'.ownsRow base e 1 (.slice a' (n + os.length) cap') (n + os.length) ((xs ++ os).map (Value.int .u8)) → w.grownBy w' v.ownBlock → wpList P ops Q rest (act.put o.dst (.slice a' (n + os.length) cap')) w') : wpList P ops Q (o :: rest) act w := by
  have hsz := strOfNums_size os
  refine Lib.wpList_append_own_string w hgd s x t u ho base e i ht hu hi hz hsize hby v n _ hs hown (strOfNums os) hx (by rw [hsz]; unfold maxLen; omega) (by rw [hsz]; omega) hbase ?_
  intro v' w' h2 h3 _
  rw [hsz, strCells_nums hf, ← List.map_append] at h2
  obtain ⟨a', cap', rfl, _⟩ := own_form h2
  exact h a' cap' w' h2 h3

theorem pre_hb {tos id frag ttl pr src dst : Int} {os : List Int} {data : Int} (hf : HF tos id frag ttl pr os.length data) (hs : 0 ≤ src ∧ src ≤ 4294967295) (hd : 0 ≤ dst ∧ dst ≤ 4294967295) :
    [] ++ be (64 + (20 + (os.length : Int)) / 4) (1 : Int).toNat ++ be tos (1 : Int).toNat ++ be (20 + (os.length : Int) + data) (2 : Int).toNat ++ be id (2 : Int).toNat ++ be frag (2 : Int).toNat ++ be ttl (1 : Int).toNat ++ be pr (1 : Int).toNat ++ be 0 (2 : Int).toNat ++ be src (4 : Int).toNat ++ be dst (4 : Int).toNat ++ os = hb tos id frag ttl pr src dst os data 0 := by
  obtain ⟨f1, f2, f3, f4, f5, f6, f7, f8⟩ := hf
  have q8 : (2 : Int) ^ (8 * 1) = 256 := by decide
  have q0 : (2 : Int) ^ (8 * 0) = 1 := by decide
  have q16 : (2 : Int) ^ (8 * 2) = 65536 := by decide
  have q24 : (2 : Int) ^ (8 * 3) = 16777216 := by decide
  simp only [Int.reduceToNat, be, hb, List.nil_append, List.cons_append, List.cons.injEq, q0, q8, q16, q24]
  refine ⟨by omega, by omega, by omega, by omega, by omega, by omega, by omega, by omega, by omega, by omega, by omega, by omega, by omega, trivial, trivial, by omega, by omega, trivial, trivial, by omega, trivial⟩

end Go.Proofs.Ytgonckbdkgiddaa.Ip
