/- Parts of the proof, in one text. -/
import Derived.Test.YtgonckbdkgiddaaVLKit
import Derived.Lib.AppendStr
import Derived.Laws.MakeOwn
import Derived.Laws.CopyOwn
import Derived.Deep.RegionHeld3
import Derived.Deep.RegionWith
import Derived.Deep.DrawnRows
namespace Go.Proofs.Ytgonckbdkgiddaa
open Go.RowKit

def kindV (p : Int) : Int := if p = 1 then 1 else if p = 17 then 2 else if p = 6 then 3 else 0
def fixV (k : Int) : Int := if k = 1 then 8 else if k = 2 then 8 else if k = 3 then 20 else 0
def protoV (k : Int) : Value := if k = 1 then .tuple #[.int .i64 1, .bool true] else if k = 2 then .tuple #[.int .i64 17, .bool true] else if k = 3 then .tuple #[.int .i64 6, .bool true] else .tuple #[.int .i64 0, .bool false]

theorem proto_any (k : Int) (w : World) : Calls Try.prog 67 #[.int .i64 k] w fun e w' => e = .returned (protoV k) ∧ w' = w := by
  unfold protoV
  by_cases h1 : k = 1
  · subst h1
    go_enter Try.func67, Try.ntmps67
    go_wp2
    go_ret2
    exact ⟨rfl, rfl⟩
  by_cases h2 : k = 2
  · subst h2
    go_enter Try.func67, Try.ntmps67
    go_wp2
    go_ret2
    exact ⟨rfl, rfl⟩
  by_cases h3 : k = 3
  · subst h3
    go_enter Try.func67, Try.ntmps67
    go_wp2
    go_ret2
    exact ⟨rfl, rfl⟩
  · rw [if_neg h1, if_neg h2, if_neg h3]
    have b1 : (k == 1) = false := by simp [h1]
    have b2 : (k == 2) = false := by simp [h2]
    have b3 : (k == 3) = false := by simp [h3]
    go_enter Try.func67, Try.ntmps67
    go_wp2
    go_ret2
    exact ⟨rfl, rfl⟩

theorem fixed_any (k : Int) (w : World) : Calls Try.prog 64 #[.int .i64 k] w fun e w' => e = .returned (.int .i64 (fixV k)) ∧ w' = w := by
  unfold fixV
  by_cases h1 : k = 1
  · subst h1
    go_enter Try.func64, Try.ntmps64
    go_wp2
    go_ret
    exact ⟨rfl, rfl⟩
  by_cases h2 : k = 2
  · subst h2
    go_enter Try.func64, Try.ntmps64
    go_wp2
    go_ret
    exact ⟨rfl, rfl⟩
  by_cases h3 : k = 3
  · subst h3
    go_enter Try.func64, Try.ntmps64
    go_wp2
    go_ret
    exact ⟨rfl, rfl⟩
  · rw [if_neg h1, if_neg h2, if_neg h3]
    have b1 : (k == 1) = false := by simp [h1]
    have b2 : (k == 2) = false := by simp [h2]
    have b3 : (k == 3) = false := by simp [h3]
    go_enter Try.func64, Try.ntmps64
    go_wp2
    go_ret
    exact ⟨rfl, rfl⟩

theorem kind_any (p : Int) (w : World) : Calls Try.prog 57 #[.int .i64 p] w fun e w' => e = .returned (.int .i64 (kindV p)) ∧ w' = w := by
  unfold kindV
  by_cases h1 : p = 1
  · subst h1
    go_enter Try.func57, Try.ntmps57
    go_wp2
    go_ret
    exact ⟨rfl, rfl⟩
  by_cases h2 : p = 17
  · subst h2
    go_enter Try.func57, Try.ntmps57
    go_wp2
    go_ret
    exact ⟨rfl, rfl⟩
  by_cases h3 : p = 6
  · subst h3
    go_enter Try.func57, Try.ntmps57
    go_wp2
    go_ret
    exact ⟨rfl, rfl⟩
  · rw [if_neg h1, if_neg h2, if_neg h3]
    have b1 : (p == 1) = false := by simp [h1]
    have b2 : (p == 17) = false := by simp [h2]
    have b3 : (p == 6) = false := by simp [h3]
    go_enter Try.func57, Try.ntmps57
    go_wp2
    go_ret
    exact ⟨rfl, rfl⟩
end Go.Proofs.Ytgonckbdkgiddaa

namespace Go.Proofs.Ytgonckbdkgiddaa
open Go.RowKit

theorem words_any (w : World) (v : Int) (hv : 0 ≤ v ∧ v ≤ 4294967295) :
    Calls Try.prog 74 #[.int .u32 v] w fun e w' => e = .returned (.int .u64 (v / 65536 + v % 65536)) ∧ w' = w := by
  have ha : bits .and .u32 v 65535 = v % 65536 := by
    rw [u32_and v 65535 hv.1 (by omega) (by omega) (by omega), show (65535 : Int).toNat = 65535 from rfl, nat_mask16]; omega
  go_enter Try.func74, Try.ntmps74
  go_wp2
  go_ret
  exact ⟨rfl, rfl⟩

theorem i64_and255 (n : Int) : bits .and .i64 n 255 = n % 256 := by
  have h : (BitVec.ofInt 64 255).toNat = 2 ^ 8 - 1 := by decide
  have key : (BitVec.ofInt 64 n &&& BitVec.ofInt 64 255).toNat = (n % ((2 ^ 64 : Nat) : Int)).toNat % 2 ^ 8 := by
    rw [BitVec.toNat_and, BitVec.toNat_ofInt, h, Nat.and_two_pow_sub_one_eq_mod]
  show IntKind.i64.wrap ((BitVec.ofInt 64 n &&& BitVec.ofInt 64 255).toNat : Nat) = n % 256
  rw [key, IntKind.wrap_i64]
  omega
theorem i64_and65535 (n : Int) : bits .and .i64 n 65535 = n % 65536 := by
  have h : (BitVec.ofInt 64 65535).toNat = 2 ^ 16 - 1 := by decide
  have key : (BitVec.ofInt 64 n &&& BitVec.ofInt 64 65535).toNat = (n % ((2 ^ 64 : Nat) : Int)).toNat % 2 ^ 16 := by
    rw [BitVec.toNat_and, BitVec.toNat_ofInt, h, Nat.and_two_pow_sub_one_eq_mod]
  show IntKind.i64.wrap ((BitVec.ofInt 64 n &&& BitVec.ofInt 64 65535).toNat : Nat) = n % 65536
  rw [key, IntKind.wrap_i64]
  omega

def psd (src dst proto size : Int) : Int := fld (src / 65536 + src % 65536 + (dst / 65536 + dst % 65536) + proto % 256 + size % 65536)

theorem pseudo_any (w : World) (src dst proto size : Int) (h1 : 0 ≤ src ∧ src ≤ 4294967295) (h2 : 0 ≤ dst ∧ dst ≤ 4294967295) :
    Calls Try.prog 69 #[.int .u32 src, .int .u32 dst, .int .i64 proto, .int .i64 size] w fun e w' => e = .returned (.int .u16 (psd src dst proto size)) ∧ w' = w := by
  have e1 := i64_and255 proto
  have e2 := i64_and65535 size
  go_enter Try.func69, Try.ntmps69
  go_wp2_with (first | (go_at_call 74; refine (words_any _ _ (by omega)).mono ?_; rintro e w' ⟨rfl, rfl⟩) | (go_at_call 73; refine (fold_any _ (by omega) (by omega) _).mono ?_; rintro e w' ⟨rfl, rfl⟩))
  go_ret
  exact ⟨rfl, rfl⟩

def protoN (k : Int) : Int := if k = 1 then 1 else if k = 2 then 17 else if k = 3 then 6 else 0
theorem protoV_fst (k : Int) : ∃ b, protoV k = .tuple #[.int .i64 (protoN k), .bool b] := by
  unfold protoV protoN
  by_cases h1 : k = 1
  · exact ⟨true, by rw [if_pos h1, if_pos h1]⟩
  by_cases h2 : k = 2
  · exact ⟨true, by rw [if_neg h1, if_neg h1, if_pos h2, if_pos h2]⟩
  by_cases h3 : k = 3
  · exact ⟨true, by rw [if_neg h1, if_neg h1, if_neg h2, if_neg h2, if_pos h3, if_pos h3]⟩
  · exact ⟨false, by rw [if_neg h1, if_neg h1, if_neg h2, if_neg h2, if_neg h3, if_neg h3]⟩

/-- The sum of all that a check sum is over. -/
def sumV (src dst k : Int) (zs : List Int) : Int := if k = 1 then fld (wsum zs) else fld (psd src dst (protoN k) zs.length + fld (wsum zs))
theorem psd_bd (src dst p n : Int) (h1 : 0 ≤ src) (h2 : 0 ≤ dst) : 0 ≤ psd src dst p n ∧ psd src dst p n ≤ 65535 := by
  unfold psd
  exact fld_bd _ (by omega)
theorem sumV_bd (src dst k : Int) (zs : List Int) (h1 : 0 ≤ src) (h2 : 0 ≤ dst) (hz : ∀ i, 0 ≤ zs.getD i 0 ∧ zs.getD i 0 ≤ 255) : 0 ≤ sumV src dst k zs ∧ sumV src dst k zs ≤ 65535 := by
  have a := psd_bd src dst (protoN k) zs.length h1 h2
  have b := fld_bd _ (wsum_bd hz)
  unfold sumV
  split
  · exact b
  · exact fld_bd _ (by omega)

theorem sumOf_any (src dst k : Int) (h1 : 0 ≤ src ∧ src ≤ 4294967295) (h2 : 0 ≤ dst ∧ dst ≤ 4294967295) {a : Option Addr} {n : Nat} {zs : List Int} {w : World} (cap : Nat) (h : BS w a n zs) :
    Calls Try.prog 41 #[.int .u32 src, .int .u32 dst, .int .i64 k, .slice a n cap] w fun e w' => e = .returned (.int .u16 (sumV src dst k zs)) ∧ ∃ nq, w' = w.drewN nq := by
  have hl := h.len
  have hb := fld_bd _ (wsum_bd h.fits)
  have hp := psd_bd src dst (protoN k) n h1.1 h2.1
  have H : Hid _ := h
  by_cases hk : k = 1
  · subst hk
    have e : sumV src dst 1 zs = fld (wsum zs) := by unfold sumV; rw [if_pos rfl]
    rw [e]
    clear h
    go_enter Try.func41, Try.ntmps41
    go_wp2_with (go_at_call 66; refine (sum_any _ H.out).mono ?_; rintro e w' ⟨rfl, nq, rfl⟩)
    go_ret
    exact ⟨rfl, _, rfl⟩
  · have e : sumV src dst k zs = fld (psd src dst (protoN k) n + fld (wsum zs)) := by unfold sumV; rw [if_neg hk, hl]
    rw [e]
    have hkb : (k == 1) = false := by simp [hk]
    obtain ⟨b, hpv⟩ := protoV_fst k
    have Hpv : Hid _ := hpv
    have hnI : (n : Int) ≤ 281474976710656 := by have := h.room; omega
    clear h hpv
    go_enter Try.func41, Try.ntmps41
    go_wp2_with fail
    refine (proto_any k _).mono ?_
    rintro e w1 ⟨rfl, rfl⟩
    rw [Hpv.out]
    go_wp2_with (first
      | (go_at_call 69; refine (pseudo_any _ _ _ _ _ h1 h2).mono ?_; rintro e w' ⟨rfl, rfl⟩)
      | (go_at_call 66; refine (sum_any _ H.out).mono ?_; rintro e w' ⟨rfl, nq, rfl⟩)
      | (go_at_call 68; refine (add_any _ _ (by omega) (by omega) (by omega) (by omega) _).mono ?_; rintro e w' ⟨rfl, rfl⟩)
      | fail)
    go_ret
    exact ⟨rfl, _, rfl⟩
end Go.Proofs.Ytgonckbdkgiddaa

namespace Go.Proofs.Ytgonckbdkgiddaa
open Go.RowKit

/-- A packet of layer 4. -/
def l4V (k ty co re sp dp : Int) (ns : Bool) (sq ak fl wi ur : Int) (os ds : List Int) : Value := .agg #[.int .i64 k, .int .i64 ty, .int .i64 co, .int .u32 re, .int .i64 sp, .int .i64 dp, .bool ns, .int .u32 sq, .int .u32 ak, .int .i64 fl, .int .i64 wi, .int .i64 ur, .string (strOfNums os), .string (strOfNums ds)]

theorem fixV_bd (k : Int) : 0 ≤ fixV k ∧ fixV k ≤ 20 := by
  unfold fixV
  repeat' split
  all_goals omega

theorem sizeOf_any (k ty co re sp dp : Int) (ns : Bool) (sq ak fl wi ur : Int) (os ds : List Int) (w : World) (ho : os.length ≤ 140737488355328) (hd : ds.length ≤ 140737488355328) :
    Calls Try.prog 39 #[l4V k ty co re sp dp ns sq ak fl wi ur os ds] w fun e w' => e = .returned (.int .i64 (fixV k + os.length + ds.length)) ∧ Below w.heap.size w w' := by
  have hs1 := strOfNums_size os
  have hs2 := strOfNums_size ds
  have hb := fixV_bd k
  have h1 : (os.length : Int) ≤ 140737488355328 := by omega
  have h2 : (ds.length : Int) ≤ 140737488355328 := by omega
  unfold l4V
  go_enter Try.func39, Try.ntmps39
  go_wp2
  go_quiet (exact Calls.quiet_of_same (fixed_any _ _))
  go_wp2
  go_ret
  exact ⟨rfl, below_drewN (below1 w _) _⟩

/-- Do the numbers of a packet fit? -/
def numsOk (ty co sp dp fl wi ur : Int) : Bool := fitN 8 ty && (fitN 8 co && (fitN 12 fl && (fitN 16 sp && (fitN 16 dp && (fitN 16 wi && fitN 16 ur)))))

theorem nums_any (k ty co re sp dp : Int) (ns : Bool) (sq ak fl wi ur : Int) (os ds : List Int) (w : World) :
    Calls Try.prog 63 #[l4V k ty co re sp dp ns sq ak fl wi ur os ds] w fun e w' => e = .returned (.bool (numsOk ty co sp dp fl wi ur)) ∧ Below w.heap.size w w' := by
  unfold l4V numsOk
  cases c0 : fitN 8 ty
  · simp only [Bool.false_and]
    go_enter Try.func63, Try.ntmps63
    go_wp2_with (go_at_call 34; refine (fitN_any _ _ (by omega) _).mono ?_; rintro e w' ⟨rfl, rfl⟩)
    go_ret
    exact ⟨rfl, below1 w _⟩
  cases c1 : fitN 8 co
  · simp only [Bool.false_and, Bool.true_and]
    go_enter Try.func63, Try.ntmps63
    go_wp2_with (go_at_call 34; refine (fitN_any _ _ (by omega) _).mono ?_; rintro e w' ⟨rfl, rfl⟩)
    go_ret
    exact ⟨rfl, below1 w _⟩
  cases c2 : fitN 12 fl
  · simp only [Bool.false_and, Bool.true_and]
    go_enter Try.func63, Try.ntmps63
    go_wp2_with (go_at_call 34; refine (fitN_any _ _ (by omega) _).mono ?_; rintro e w' ⟨rfl, rfl⟩)
    go_ret
    exact ⟨rfl, below1 w _⟩
  cases c3 : fitN 16 sp
  · simp only [Bool.false_and, Bool.true_and]
    go_enter Try.func63, Try.ntmps63
    go_wp2_with (go_at_call 34; refine (fitN_any _ _ (by omega) _).mono ?_; rintro e w' ⟨rfl, rfl⟩)
    go_ret
    exact ⟨rfl, below1 w _⟩
  cases c4 : fitN 16 dp
  · simp only [Bool.false_and, Bool.true_and]
    go_enter Try.func63, Try.ntmps63
    go_wp2_with (go_at_call 34; refine (fitN_any _ _ (by omega) _).mono ?_; rintro e w' ⟨rfl, rfl⟩)
    go_ret
    exact ⟨rfl, below1 w _⟩
  cases c5 : fitN 16 wi
  · simp only [Bool.false_and, Bool.true_and]
    go_enter Try.func63, Try.ntmps63
    go_wp2_with (go_at_call 34; refine (fitN_any _ _ (by omega) _).mono ?_; rintro e w' ⟨rfl, rfl⟩)
    go_ret
    exact ⟨rfl, below1 w _⟩
  simp only [Bool.true_and]
  go_enter Try.func63, Try.ntmps63
  go_wp2_with (go_at_call 34; refine (fitN_any _ _ (by omega) _).mono ?_; rintro e w' ⟨rfl, rfl⟩)
  go_ret
  exact ⟨rfl, below1 w _⟩
end Go.Proofs.Ytgonckbdkgiddaa

namespace Go.Proofs.Ytgonckbdkgiddaa
open Go.RowKit

set_option maxHeartbeats 1000000 in
theorem put_any (f : Nat) (hf : f = 65) (w0 W : World) (p : Nat) (xs : List Int) (h : Enc w0 W p xs) (hn : xs.length ≤ 1000000) (v : Int) (hv : 0 ≤ v ∧ v ≤ 9223372036854775807) (s : Nat) (hs : s ≤ 8) :
    Calls Try.prog f #[.int .i64 v, .int .i64 s, .pointer (some ⟨p, 0, none⟩)] W fun e w' => e = .returned (.tuple #[]) ∧ Enc w0 w' p (xs ++ be v s) := by
  subst hf
  obtain ⟨hb, hp, a, cap, hc, ho⟩ := h
  have hc0 := cell_of_one hc
  have hf0 := free_of_one hc
  have HC : Hid _ := hc
  have HO : Hid _ := ho
  have HB : Hid _ := hb
  clear hc ho hb
  go_enter Try.func65, Try.ntmps65
  go_wp2_with fail
  refine (appendNumber_any w0.heap.size W a xs.length cap xs HO.out HB.out.size hn v (by omega) s hs).mono ?_
  rintro e w1 ⟨a', cap', rfl, hr⟩
  have hap := row_apart HO.out HC.out
  have hc1 : w1.heap[p]? = some (.cells #[.slice a xs.length cap] 26 (0, 0)) := (hr.grown.block p (lt_of_block HC.out) (fun e => hap e.symm)).trans HC.out
  have hc1' := cell_of_one hc1
  have hf1 := free_of_one hc1
  have HC1 : Hid _ := hc1
  have HR : Hid _ := hr
  clear hc1 hr hap hc0 hf0
  go_wp2
  go_end0
  refine ⟨rfl, ?_, hp, a', cap', ?_, ?_⟩
  · exact (HB.out.grown HR.out.grown HB.out.size (fun k hk => (World.ownsRow.lt HO.out k hk).1)).setCell hp _
  · rw [one_setCell HC1.out]; simp [be_len]
  · rw [show (xs ++ be v s).length = xs.length + s from by simp [be_len]]
    exact ownsRow_setCell_other HR.out.own (row_apart HR.out.own HC1.out) _

theorem put_lit (w0 W : World) (p : Nat) (xs : List Int) (h : Enc w0 W p xs) (hn : xs.length ≤ 1000000) (v : Int) (hv : 0 ≤ v ∧ v ≤ 9223372036854775807) (s : Int) (hs0 : 0 ≤ s) (hs : s ≤ 8) :
    Calls Try.prog 65 #[.int .i64 v, .int .i64 s, .pointer (some ⟨p, 0, none⟩)] W fun e w' => e = .returned (.tuple #[]) ∧ Enc w0 w' p (xs ++ be v s.toNat) := by
  obtain ⟨s, rfl⟩ := Int.eq_ofNat_of_zero_le hs0
  exact put_any 65 rfl w0 W p xs h hn v hv s (by omega)

theorem enc_start (w2 : World) (arr : Array Value) (c p g : Nat) (hp : p = w2.heap.size + 1) (hg : g = w2.heap.size) (hc : arr.size = c) (hm : c ≤ 1000000) :
    Enc w2 ((w2.alloc (.cells arr 5)).alloc (.cells #[.slice (some ⟨g, 0, none⟩) 0 c] 26)) p [] := by
  subst hp
  subst hg
  refine ⟨below2 w2 _ _, by omega, some ⟨w2.heap.size, 0, none⟩, c, ?_, ?_⟩
  · have := heap_alloc_new (w2.alloc (.cells arr 5)) (.cells #[.slice (some ⟨w2.heap.size, 0, none⟩) 0 c] 26)
    simpa using this
  · exact (World.ownsRow_made w2 arr c (Nat.le_refl _) (by unfold maxLen; omega) (by simpa using hc)).alloc _

theorem make_bytes (w : World) (c : Nat) (hc : c ≤ 281474976710656) : (Instr.makeSlice 26 (.int .i64 0) (.int .i64 (c : Int))).run Try.prog w = .ok (.slice (some ⟨w.heap.size, 0, none⟩) 0 c) (w.alloc (.cells (madeCells #[.int .u8 0] c) 5)) := by
  obtain ⟨i0, hi, hz0, hz1, hz2⟩ := info_parts info5
  have := run_make (P := Try.prog) w 26 5 i0 (.int .u8 0) Try.underlying26 hi hz0 .i64 .i64 0 (c : Int) (by omega) (by omega) (by rw [hz2]; omega) (by omega)
  rw [hz1] at this
  simpa [Value.cells] using this

theorem strCells_nums {os : List Int} (h : ∀ i, 0 ≤ os.getD i 0 ∧ os.getD i 0 ≤ 255) : Lib.strCells (strOfNums os) = os.map (Value.int .u8) := by
  unfold Lib.strCells
  rw [strOfNums_data, List.map_map]
  apply List.map_congr_left
  intro x hx
  obtain ⟨i, hi, rfl⟩ := List.getElem_of_mem hx
  have := h i
  rw [List.getD_eq_getElem?_getD, List.getElem?_eq_getElem hi] at this
  simp only [Option.getD_some] at this
  simp only [Function.comp]
  congr 1
  rw [UInt8.toNat_ofNat']
  omega

theorem wpList_append_str {P : Program} {w : World} {ops : Array Oper} {rest : List Oper} {o : Oper} {act : Act} {Q : Exit → Act → World → Prop} (hgd : o.guard = none) (s x : Operand) (t u : TypeId)
    (ho : o.op = .call { callee := .builtin .append, args := #[s, x], argTypes := #[t, u] })
    (base : Nat) (e : TypeId) (i : TypeInfo) (ht : P.underlying t = some (.slice e)) (hu : P.underlying u = some .string) (hi : P.info? e = some i) (hz : i.zero = some (.int .u8 0)) (hsize : i.size = 1) (hby : i.bytes = 1)
    (v : Value) (n : Nat) (xs : List Int) (hs : act.eval s = v) (hown : w.ownsRow base e 1 v n (xs.map (Value.int .u8)))
    (os : List Int) (hf : ∀ i, 0 ≤ os.getD i 0 ∧ os.getD i 0 ≤ 255) (hx : act.eval x = .string (strOfNums os)) (hsum : n + os.length ≤ 140737488355328) (hbase : base ≤ w.heap.size)
    (h : ∀ a' cap' w', w'.ownsRow base e 1 (.slice a' (n + os.length) cap') (n + os.length) ((xs ++ os).map (Value.int .u8)) → w.grownBy w' v.ownBlock → wpList P ops Q rest (act.put o.dst (.slice a' (n + os.length) cap')) w') : wpList P ops Q (o :: rest) act w := by
  have hsz := strOfNums_size os
  refine Lib.wpList_append_own_string w hgd s x t u ho base e i ht hu hi hz hsize hby v n _ hs hown (strOfNums os) hx (by rw [hsz]; unfold maxLen; omega) (by rw [hsz]; omega) hbase ?_
  intro v' w' h2 h3 _
  rw [hsz, strCells_nums hf, ← List.map_append] at h2
  obtain ⟨a', cap', rfl, _⟩ := own_form h2
  exact h a' cap' w' h2 h3

/-- A row of bytes of the call's own, at the head of its block. -/
structure EncS (w2 V : World) (g N cap : Nat) (B : List Int) : Prop where
  own : V.ownsRow w2.heap.size 5 1 (.slice (some ⟨g, 0, none⟩) N cap) N (B.map (Value.int .u8))
  bel : Below w2.heap.size w2 V
  fits : ∀ i, 0 ≤ B.getD i 0 ∧ B.getD i 0 ≤ 255
  room : N ≤ 281474976710656

theorem EncS.drew {w2 V : World} {g N cap : Nat} {B : List Int} (h : EncS w2 V g N cap B) : EncS w2 V.drew g N cap B := ⟨h.own, h.bel.drew, h.fits, h.room⟩

theorem EncS.drewN {w2 V : World} {g N cap : Nat} {B : List Int} (h : EncS w2 V g N cap B) (q : Nat) : EncS w2 (V.drewN q) g N cap B := ⟨h.own, below_drewN h.bel q, h.fits, h.room⟩

theorem EncS.bs {w2 V : World} {g N cap : Nat} {B : List Int} (h : EncS w2 V g N cap B) : BS V (some ⟨g, 0, none⟩) N B := own_bs h.own h.fits h.room

theorem EncS.cell {w2 V : World} {g N cap : Nat} {B : List Int} (h : EncS w2 V g N cap B) (t : Nat) (ht : t < N) : V.cell? ⟨g, t, none⟩ = some (.int .u8 (B.getD t 0)) := by
  have hl : B.length = N := by have := h.own.1; simpa using this
  rw [h.own.cellAt t (by omega), List.getElem?_map]
  simp [List.getD_eq_getElem?_getD, List.getElem?_eq_getElem (show t < B.length by omega)]

theorem EncS.set {w2 V : World} {g N cap : Nat} {B : List Int} (h : EncS w2 V g N cap B) (t : Nat) (x : Int) (hx : 0 ≤ x ∧ x ≤ 255) : EncS w2 (V.setCell ⟨g, t, none⟩ (.int .u8 x)) g N cap (B.set t x) := by
  refine ⟨?_, ?_, fits_set h.fits t x hx, h.room⟩
  · have := (h.own.stored t (.int .u8 x)).1
    simpa [List.map_set] using this
  · refine h.bel.setCell ?_ _
    exact (World.ownsRow.lt h.own g rfl).1

/-- SetWord on a row of the call's own. -/
theorem setWord_row {w2 V : World} {g N cap : Nat} {B : List Int} (h : EncS w2 V g N cap B) (t : Nat) (v : Int) (hv : 0 ≤ v ∧ v ≤ 65535) (ht : t + 2 ≤ N) :
    Calls Try.prog 42 #[.slice (some ⟨g, 0, none⟩) N cap, .int .i64 t, .int .u16 v] V fun e w' => e = .returned (.tuple #[]) ∧ w' = (V.setCell ⟨g, t, none⟩ (.int .u8 (v / 256))).setCell ⟨g, t + 1, none⟩ (.int .u8 (v % 256)) ∧ EncS w2 w' g N cap ((B.set t (v / 256)).set (t + 1) (v % 256)) := by
  refine (setWord_any V g N cap t v _ _ (h.cell t (by omega)) (h.cell (t + 1) (by omega)) (h.own.frozenAt t) (h.own.frozenAt (t + 1)) hv ht h.room).mono ?_
  rintro e w' ⟨rfl, rfl⟩
  exact ⟨rfl, rfl, (h.set t _ (by omega)).set (t + 1) _ (by omega)⟩

theorem make_full (w : World) (c : Nat) (hc : c ≤ 281474976710656) : (Instr.makeSlice 26 (.int .i64 (c : Int)) (.int .i64 (c : Int))).run Try.prog w = .ok (.slice (some ⟨w.heap.size, 0, none⟩) c c) (w.alloc (.cells (madeCells #[.int .u8 0] c) 5)) := by
  obtain ⟨i0, hi, hz0, hz1, hz2⟩ := info_parts info5
  have := run_make (P := Try.prog) w 26 5 i0 (.int .u8 0) Try.underlying26 hi hz0 .i64 .i64 (c : Int) (c : Int) (by omega) (by omega) (by rw [hz2]; omega) (by omega)
  rw [hz1] at this
  simpa [Value.cells] using this

/-- A row that was filled whole. -/
theorem encS_filled (w V : World) (g n : Nat) (B : List Int) (hg : w.heap.size ≤ g) (hb : Below w.heap.size w V) (hr : V.heap[g]? = some (.cells (B.map (Value.int .u8)).toArray 5 (0, 0))) (hl : B.length = n) (hf : ∀ i, 0 ≤ B.getD i 0 ∧ B.getD i 0 ≤ 255) (hn : n ≤ 281474976710656) : EncS w V g n n B := by
  refine ⟨⟨by simpa using hl, .inr ⟨g, n, _, rfl, hg, hr, Nat.le_refl _, by unfold maxLen; omega, by simpa using hl, ?_⟩⟩, hb, hf, hn⟩
  have : (B.map (Value.int .u8)).length = n := by simpa using hl
  rw [List.take_of_length_le (by simp; omega)]

end Go.Proofs.Ytgonckbdkgiddaa

namespace Go.Proofs.Ytgonckbdkgiddaa
open Go.RowKit
attribute [local go_sem ↓] Go.wp_at_zero Go.wp_at_succ
set_option maxHeartbeats 8000000 in
/-- Two packets of layer 4 held against each other. -/
theorem neq14 (k ty co re sp dp : Int) (ns : Bool) (sq ak fl wi ur : Int) (os ds : ByteArray) (k' ty' co' re' sp' dp' : Int) (ns' : Bool) (sq' ak' fl' wi' ur' : Int) (os' ds' : ByteArray) (W : World) :
    (binOp .neq 48 (.agg #[.int .i64 k, .int .i64 ty, .int .i64 co, .int .u32 re, .int .i64 sp, .int .i64 dp, .bool ns, .int .u32 sq, .int .u32 ak, .int .i64 fl, .int .i64 wi, .int .i64 ur, .string os, .string ds]) (.agg #[.int .i64 k', .int .i64 ty', .int .i64 co', .int .u32 re', .int .i64 sp', .int .i64 dp', .bool ns', .int .u32 sq', .int .u32 ak', .int .i64 fl', .int .i64 wi', .int .i64 ur', .string os', .string ds'])).run Try.prog W = .ok (.bool (!(k == k' && ty == ty' && co == co' && re == re' && sp == sp' && dp == dp' && ns == ns' && sq == sq' && ak == ak' && fl == fl' && wi == wi' && ur == ur' && os.toList == os'.toList && ds.toList == ds'.toList))) W := by
  cases h0 : (k == k')
  · simp [go_sem, h0]
  cases h1 : (ty == ty')
  · simp [go_sem, h0, h1]
  cases h2 : (co == co')
  · simp [go_sem, h0, h1, h2]
  cases h3 : (re == re')
  · simp [go_sem, h0, h1, h2, h3]
  cases h4 : (sp == sp')
  · simp [go_sem, h0, h1, h2, h3, h4]
  cases h5 : (dp == dp')
  · simp [go_sem, h0, h1, h2, h3, h4, h5]
  cases h6 : (ns == ns')
  · simp [go_sem, h0, h1, h2, h3, h4, h5, h6]
  cases h7 : (sq == sq')
  · simp [go_sem, h0, h1, h2, h3, h4, h5, h6, h7]
  cases h8 : (ak == ak')
  · simp [go_sem, h0, h1, h2, h3, h4, h5, h6, h7, h8]
  cases h9 : (fl == fl')
  · simp [go_sem, h0, h1, h2, h3, h4, h5, h6, h7, h8, h9]
  cases h10 : (wi == wi')
  · simp [go_sem, h0, h1, h2, h3, h4, h5, h6, h7, h8, h9, h10]
  cases h11 : (ur == ur')
  · simp [go_sem, h0, h1, h2, h3, h4, h5, h6, h7, h8, h9, h10, h11]
  cases h12 : (os.toList == os'.toList)
  · simp [go_sem, h0, h1, h2, h3, h4, h5, h6, h7, h8, h9, h10, h11, h12]
  cases h13 : (ds.toList == ds'.toList)
  · simp [go_sem, h0, h1, h2, h3, h4, h5, h6, h7, h8, h9, h10, h11, h12, h13]
  simp [go_sem, h0, h1, h2, h3, h4, h5, h6, h7, h8, h9, h10, h11, h12, h13]
/-- Is all that is not a kind's own 0? -/
def ownOk (k ty co re sp dp : Int) (ns : Bool) (sq ak fl wi ur : Int) (os : ByteArray) : Bool :=
  if k = 0 then (ty == 0) && (co == 0) && (re == 0) && (sp == 0) && (dp == 0) && (ns == false) && (sq == 0) && (ak == 0) && (fl == 0) && (wi == 0) && (ur == 0) && (os.toList == (⟨#[]⟩ : ByteArray).toList) else if k = 1 then (sp == 0) && (dp == 0) && (ns == false) && (sq == 0) && (ak == 0) && (fl == 0) && (wi == 0) && (ur == 0) && (os.toList == (⟨#[]⟩ : ByteArray).toList) else if k = 2 then (ty == 0) && (co == 0) && (re == 0) && (sq == 0) && (ak == 0) && (fl == 0) && (wi == 0) && (ur == 0) && (os.toList == (⟨#[]⟩ : ByteArray).toList) else if k = 3 then (ty == 0) && (co == 0) && (re == 0) && (ns == false) else false
/-- May a packet be? -/
def l4Ok (k ty co re sp dp : Int) (ns : Bool) (sq ak fl wi ur : Int) (os ds : ByteArray) : Bool :=
  ownOk k ty co re sp dp ns sq ak fl wi ur os && numsOk ty co sp dp fl wi ur && !(decide (40 < os.size) || (os.size : Int) % 4 != 0 || decide (65515 < fixV k + os.size + ds.size))

theorem AtB.cells14 {W : World} {b : Nat} {x0 x1 x2 x3 x4 x5 x6 x7 x8 x9 x10 x11 x12 x13 : Value} (h : AtB W b #[x0, x1, x2, x3, x4, x5, x6, x7, x8, x9, x10, x11, x12, x13]) : W.cell? ⟨b, 0, none⟩ = some x0 ∧ W.cell? ⟨b, 1, none⟩ = some x1 ∧ W.cell? ⟨b, 2, none⟩ = some x2 ∧ W.cell? ⟨b, 3, none⟩ = some x3 ∧ W.cell? ⟨b, 4, none⟩ = some x4 ∧ W.cell? ⟨b, 5, none⟩ = some x5 ∧ W.cell? ⟨b, 6, none⟩ = some x6 ∧ W.cell? ⟨b, 7, none⟩ = some x7 ∧ W.cell? ⟨b, 8, none⟩ = some x8 ∧ W.cell? ⟨b, 9, none⟩ = some x9 ∧ W.cell? ⟨b, 10, none⟩ = some x10 ∧ W.cell? ⟨b, 11, none⟩ = some x11 ∧ W.cell? ⟨b, 12, none⟩ = some x12 ∧ W.cell? ⟨b, 13, none⟩ = some x13 :=
  ⟨h.2 0, h.2 1, h.2 2, h.2 3, h.2 4, h.2 5, h.2 6, h.2 7, h.2 8, h.2 9, h.2 10, h.2 11, h.2 12, h.2 13⟩
end Go.Proofs.Ytgonckbdkgiddaa

namespace Go.Proofs.Ytgonckbdkgiddaa
open Go.RowKit

theorem take_two (zs : List Int) (k : Nat) (h : k + 2 ≤ zs.length) : (zs.drop k).take 2 = [zs.getD k 0, zs.getD (k + 1) 0] := by
  rw [List.drop_eq_getElem_cons (show k < zs.length by omega), List.drop_eq_getElem_cons (show k + 1 < zs.length by omega)]
  simp only [List.take_succ_cons, List.take_zero, List.getD_eq_getElem?_getD]
  rw [List.getElem?_eq_getElem (show k < zs.length by omega), List.getElem?_eq_getElem (show k + 1 < zs.length by omega)]
  rfl
theorem num_two (zs : List Int) (k : Nat) (h : k + 2 ≤ zs.length) : num ((zs.drop k).take 2) = zs.getD k 0 * 256 + zs.getD (k + 1) 0 := by
  rw [take_two zs k h]; simp [num]

set_option maxHeartbeats 1000000 in
theorem measure_udp_form (w : World) (b off n cap : Nat) (zs : List Int) (h : BS w (some ⟨b, off, none⟩) n zs) (hcap : n ≤ cap) (h8 : 8 ≤ n) (hne : zs.getD 4 0 * 256 + zs.getD 5 0 ≠ n) :
    Calls Try.prog 58 #[.int .i64 2, .slice (some ⟨b, off, none⟩) n cap] w fun e w' => e = .returned (.int .i64 21) ∧ w' = w := by
  have h1 : ¬ (n : Int) < 8 := by omega
  have hl := h.len
  have hf : fixV 2 = 8 := by decide
  have hT : num ((zs.drop 4).take 2) = zs.getD 4 0 * 256 + zs.getD 5 0 := num_two zs 4 (by omega)
  have hTb : 0 ≤ zs.getD 4 0 * 256 + zs.getD 5 0 ∧ zs.getD 4 0 * 256 + zs.getD 5 0 ≤ 65535 := by have := h.fits 4; have := h.fits 5; omega
  have H : Hid _ := h
  clear h
  generalize zs.getD 4 0 * 256 + zs.getD 5 0 = T at *
  have hb : (T != (n : Int)) = true := by simp [hne]
  clear hne
  go_enter Try.func58, Try.ntmps58
  go_wp2_with fail
  refine scope_from ?_
  go_wp2_with (first
    | (go_at_call 64; refine (fixed_any _ _).mono ?_; rintro e w' ⟨rfl, rfl⟩; rw [hf])
    | (go_at_call 71; refine (word_any _ b off n cap 4 zs H.out (by omega) hcap).mono ?_; rintro e w' ⟨rfl, rfl⟩; rw [hT])
    | fail)
  go_step3
  show FromLabel _ _ _ _ _ _
  refine from_label rfl ?_
  go_wp2
  simp only [Exit.jumpTo]
  go_ret
  exact ⟨rfl, rfl⟩

set_option maxHeartbeats 1000000 in
theorem measure_udp_ok (w : World) (b off n cap : Nat) (zs : List Int) (h : BS w (some ⟨b, off, none⟩) n zs) (hcap : n ≤ cap) (h8 : 8 ≤ n) (he : zs.getD 4 0 * 256 + zs.getD 5 0 = n) :
    Calls Try.prog 58 #[.int .i64 2, .slice (some ⟨b, off, none⟩) n cap] w fun e w' => e = .returned (.int .i64 0) ∧ w' = w := by
  have h1 : ¬ (n : Int) < 8 := by omega
  have hl := h.len
  have hf : fixV 2 = 8 := by decide
  have hT : num ((zs.drop 4).take 2) = n := (num_two zs 4 (by omega)).trans he
  have hTb : (n : Int) ≤ 65535 := by have := h.fits 4; have := h.fits 5; omega
  have H : Hid _ := h
  clear h he
  go_enter Try.func58, Try.ntmps58
  go_wp2_with fail
  refine scope_from ?_
  go_wp2_with (first
    | (go_at_call 64; refine (fixed_any _ _).mono ?_; rintro e w' ⟨rfl, rfl⟩; rw [hf])
    | (go_at_call 71; refine (word_any _ b off n cap 4 zs H.out (by omega) hcap).mono ?_; rintro e w' ⟨rfl, rfl⟩; rw [hT])
    | fail)
  simp only [Exit.jumpTo]
  go_ret
  exact ⟨rfl, rfl⟩
set_option maxHeartbeats 1000000 in
theorem measure_opaque (w : World) (a : Option Addr) (n cap : Nat) :
    Calls Try.prog 58 #[.int .i64 0, .slice a n cap] w fun e w' => e = .returned (.int .i64 0) ∧ w' = w := by
  have h1 : ¬ (n : Int) < 0 := by omega
  have hf : fixV 0 = 0 := by decide
  go_enter Try.func58, Try.ntmps58
  go_wp2_with fail
  refine scope_from ?_
  go_wp2_with (go_at_call 64; refine (fixed_any _ _).mono ?_; rintro e w' ⟨rfl, rfl⟩; rw [hf])
  simp only [Exit.jumpTo]
  go_ret
  exact ⟨rfl, rfl⟩

set_option maxHeartbeats 1000000 in
theorem measure_icmp_ok (w : World) (a : Option Addr) (n cap : Nat) (h : 8 ≤ n) :
    Calls Try.prog 58 #[.int .i64 1, .slice a n cap] w fun e w' => e = .returned (.int .i64 0) ∧ w' = w := by
  have h1 : ¬ (n : Int) < 8 := by omega
  have hf : fixV 1 = 8 := by decide
  go_enter Try.func58, Try.ntmps58
  go_wp2_with fail
  refine scope_from ?_
  go_wp2_with (go_at_call 64; refine (fixed_any _ _).mono ?_; rintro e w' ⟨rfl, rfl⟩; rw [hf])
  simp only [Exit.jumpTo]
  go_ret
  exact ⟨rfl, rfl⟩

set_option maxHeartbeats 1000000 in
theorem measure_short (w : World) (a : Option Addr) (n cap : Nat) (k : Int) (h : n < fixV k) :
    Calls Try.prog 58 #[.int .i64 k, .slice a n cap] w fun e w' => e = .returned (.int .i64 20) ∧ w' = w := by
  have hF := fixed_any k
  generalize fixV k = F at *
  have HF : Hid _ := hF
  clear hF
  go_enter Try.func58, Try.ntmps58
  go_wp2_with fail
  refine scope_from ?_
  go_wp2_with (go_at_call 64; refine (HF.out _).mono ?_; rintro e w' ⟨rfl, rfl⟩)
  go_step3
  show FromLabel _ _ _ _ _ _
  refine from_label rfl ?_
  go_wp2
  simp only [Exit.jumpTo]
  go_ret
  exact ⟨rfl, rfl⟩

set_option maxHeartbeats 1000000 in
theorem measure_tcp_big (w : World) (b off n cap : Nat) (zs : List Int) (h : BS w (some ⟨b, off, none⟩) n zs) (h8 : 20 ≤ n) (hne : (n : Int) < zs.getD 12 0 / 16 * 4) :
    Calls Try.prog 58 #[.int .i64 3, .slice (some ⟨b, off, none⟩) n cap] w fun e w' => e = .returned (.int .i64 20) ∧ w' = w := by
  have h1 : ¬ (n : Int) < 20 := by omega
  have hl := h.len
  have hf : fixV 3 = 20 := by decide
  have hb := h.fits 12
  have hc : w.cell? ⟨b, off + 12, none⟩ = some (.int .u8 (zs.getD 12 0)) := by
    rcases h.cells with h0 | ⟨b', off', e, hc⟩
    · omega
    · cases e; exact hc 12 (by omega)
  generalize zs.getD 12 0 = T at *
  clear h
  go_enter Try.func58, Try.ntmps58
  go_wp2_with fail
  refine scope_from ?_
  go_wp2_with (go_at_call 64; refine (fixed_any _ _).mono ?_; rintro e w' ⟨rfl, rfl⟩; rw [hf])
  go_step3
  show FromLabel _ _ _ _ _ _
  refine from_label rfl ?_
  go_wp2
  simp only [Exit.jumpTo]
  go_ret
  exact ⟨rfl, rfl⟩

set_option maxHeartbeats 1000000 in
theorem measure_tcp_form (w : World) (b off n cap : Nat) (zs : List Int) (h : BS w (some ⟨b, off, none⟩) n zs) (h8 : 20 ≤ n) (hle : zs.getD 12 0 / 16 * 4 ≤ (n : Int)) (hne : zs.getD 12 0 / 16 * 4 < 20) :
    Calls Try.prog 58 #[.int .i64 3, .slice (some ⟨b, off, none⟩) n cap] w fun e w' => e = .returned (.int .i64 21) ∧ w' = w := by
  have h1 : ¬ (n : Int) < 20 := by omega
  have hl := h.len
  have hf : fixV 3 = 20 := by decide
  have hb := h.fits 12
  have hc : w.cell? ⟨b, off + 12, none⟩ = some (.int .u8 (zs.getD 12 0)) := by
    rcases h.cells with h0 | ⟨b', off', e, hc⟩
    · omega
    · cases e; exact hc 12 (by omega)
  generalize zs.getD 12 0 = T at *
  clear h
  go_enter Try.func58, Try.ntmps58
  go_wp2_with fail
  refine scope_from ?_
  go_wp2_with (go_at_call 64; refine (fixed_any _ _).mono ?_; rintro e w' ⟨rfl, rfl⟩; rw [hf])
  go_step3
  show FromLabel _ _ _ _ _ _
  refine from_label rfl ?_
  go_wp2
  simp only [Exit.jumpTo]
  go_ret
  exact ⟨rfl, rfl⟩

set_option maxHeartbeats 1000000 in
theorem measure_tcp_ok (w : World) (b off n cap : Nat) (zs : List Int) (h : BS w (some ⟨b, off, none⟩) n zs) (h8 : 20 ≤ n) (hle : zs.getD 12 0 / 16 * 4 ≤ (n : Int)) (hne : 20 ≤ zs.getD 12 0 / 16 * 4) :
    Calls Try.prog 58 #[.int .i64 3, .slice (some ⟨b, off, none⟩) n cap] w fun e w' => e = .returned (.int .i64 0) ∧ w' = w := by
  have h1 : ¬ (n : Int) < 20 := by omega
  have hl := h.len
  have hf : fixV 3 = 20 := by decide
  have hb := h.fits 12
  have hc : w.cell? ⟨b, off + 12, none⟩ = some (.int .u8 (zs.getD 12 0)) := by
    rcases h.cells with h0 | ⟨b', off', e, hc⟩
    · omega
    · cases e; exact hc 12 (by omega)
  generalize zs.getD 12 0 = T at *
  clear h
  go_enter Try.func58, Try.ntmps58
  go_wp2_with fail
  refine scope_from ?_
  go_wp2_with (go_at_call 64; refine (fixed_any _ _).mono ?_; rintro e w' ⟨rfl, rfl⟩; rw [hf])
  simp only [Exit.jumpTo]
  go_ret
  exact ⟨rfl, rfl⟩
end Go.Proofs.Ytgonckbdkgiddaa

namespace Go.Proofs.Ytgonckbdkgiddaa
open Go.RowKit
attribute [local go_sem ↓] Go.wp_at_zero Go.wp_at_succ
theorem l4v_3 (ty co re sp dp : Int) (ns : Bool) (sq ak fl wi ur : Int) (os ds : List Int) : l4V 3 ty co re sp dp ns sq ak fl wi ur os ds = .agg #[.int .i64 3, .int .i64 ty, .int .i64 co, .int .u32 re, .int .i64 sp, .int .i64 dp, .bool ns, .int .u32 sq, .int .u32 ak, .int .i64 fl, .int .i64 wi, .int .i64 ur, .string (strOfNums os), .string (strOfNums ds)] := rfl
theorem below_3 (ty co re sp dp : Int) (ns : Bool) (sq ak fl wi ur : Int) (os ds : List Int) (w : World) : Below w.heap.size w (((w.alloc (.cells #[.int .i64 3, .int .i64 ty, .int .i64 co, .int .u32 re, .int .i64 sp, .int .i64 dp, .bool ns, .int .u32 sq, .int .u32 ak, .int .i64 fl, .int .i64 wi, .int .i64 ur, .string (strOfNums os), .string (strOfNums ds)] 48)).alloc (.cells #[.int .i64 3, .int .i64 0, .int .i64 0, .int .u32 0, .int .i64 sp, .int .i64 dp, .bool false, .int .u32 sq, .int .u32 ak, .int .i64 fl, .int .i64 wi, .int .i64 ur, .string (strOfNums os), .string (strOfNums ds)] 48)).drew.drew) ∧ AtB (((w.alloc (.cells #[.int .i64 3, .int .i64 ty, .int .i64 co, .int .u32 re, .int .i64 sp, .int .i64 dp, .bool ns, .int .u32 sq, .int .u32 ak, .int .i64 fl, .int .i64 wi, .int .i64 ur, .string (strOfNums os), .string (strOfNums ds)] 48)).alloc (.cells #[.int .i64 3, .int .i64 0, .int .i64 0, .int .u32 0, .int .i64 sp, .int .i64 dp, .bool false, .int .u32 sq, .int .u32 ak, .int .i64 fl, .int .i64 wi, .int .i64 ur, .string (strOfNums os), .string (strOfNums ds)] 48)).drew.drew) w.heap.size #[.int .i64 3, .int .i64 ty, .int .i64 co, .int .u32 re, .int .i64 sp, .int .i64 dp, .bool ns, .int .u32 sq, .int .u32 ak, .int .i64 fl, .int .i64 wi, .int .i64 ur, .string (strOfNums os), .string (strOfNums ds)] := by
  refine ⟨(below2 w _ _).drew.drew, by simp; omega, fun i => ?_⟩
  exact (show ((w.alloc (.cells #[.int .i64 3, .int .i64 ty, .int .i64 co, .int .u32 re, .int .i64 sp, .int .i64 dp, .bool ns, .int .u32 sq, .int .u32 ak, .int .i64 fl, .int .i64 wi, .int .i64 ur, .string (strOfNums os), .string (strOfNums ds)] 48)).alloc (.cells #[.int .i64 3, .int .i64 0, .int .i64 0, .int .u32 0, .int .i64 sp, .int .i64 dp, .bool false, .int .u32 sq, .int .u32 ak, .int .i64 fl, .int .i64 wi, .int .i64 ur, .string (strOfNums os), .string (strOfNums ds)] 48)).cell? ⟨w.heap.size, i, none⟩ = _ from by rw [World.cell?_alloc_lt _ _ _ (by simp), World.cell?_alloc_new])

end Go.Proofs.Ytgonckbdkgiddaa
