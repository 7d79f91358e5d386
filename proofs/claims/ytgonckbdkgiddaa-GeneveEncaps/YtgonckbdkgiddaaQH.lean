/- Parts of the proof, in one text. -/
import Derived.Test.YtgonckbdkgiddaaL4e
import Derived.Lib.ConvBytes
import Derived.Test.YtgonckbdkgiddaaLOct
import Derived.WalkKit
import Derived.ScopeJumps
import Derived.WalkMore
import Derived.OpenShut
import Derived.WalkLawsBesides
import Derived.WalkSmall
import Derived.Below
import Derived.Laws.EntriesVeiled
import Derived.Laws.Rows
import Derived.Laws.Tables
import Derived.Laws.ResultCell
import Derived.Deep.WholeRow
import Derived.Deep.MidRow
import Derived.Deep.QuietTactic
import Derived.BigQuiet
namespace Go.Proofs.Ytgonckbdkgiddaa
open Go.RowKit
theorem from_loop {P : Program} {Q : Exit → Act → World → Prop} {c rest : Code} {l : Nat} (hf : findLabel c l = some (Code.skip.seq rest)) (J : Act → World → Prop) (μ : Act → World → Nat)
    (pass : ∀ a w, J a w → (∀ a' w', J a' w' → μ a' w' < μ a w → FromLabel P c Q l a' w') → rest.wp P (Exit.jumpTo P c Q) a w) : ∀ a w, J a w → FromLabel P c Q l a w := by
  have key : ∀ n a w, μ a w = n → J a w → FromLabel P c Q l a w := by
    intro n
    induction n using Nat.strongRecOn with
    | _ n ih =>
      intro a w hn hJ
      exact from_label hf (pass a w hJ fun a' w' hJ' hlt => ih _ (hn ▸ hlt) a' w' rfl hJ')
  exact fun a w => key _ a w rfl
/-- A scope with several labels, of which l heads a loop. -/
theorem scope_loop {P : Program} {a : Act} {w : World} {Q : Exit → Act → World → Prop} {c rest : Code} (l : Nat) (J : Act → World → Prop) (μ : Act → World → Nat) (hf : findLabel c l = some (Code.skip.seq rest))
    (pass : ∀ a w, J a w → Hid (∀ a' w', J a' w' → μ a' w' < μ a w → FromLabel P c Q l a' w') → rest.wp P (Exit.jumpTo P c Q) a w)
    (first : Hid (∀ a w, J a w → rest.wp P (Exit.jumpTo P c Q) a w) → c.wp P (Exit.jumpTo P c Q) a w) : (Code.scope c).wp P Q a w :=
  scope_from (first (fun a w hJ => pass a w hJ (fun a' w' hJ' _ => from_loop hf J μ pass a' w' hJ')))
/-- Bytes as numbers. -/
def Fit (zs : List Int) : Prop := ∀ i, 0 ≤ zs.getD i 0 ∧ zs.getD i 0 ≤ 255
/-- An option: its class, its code, its data. -/
structure Opt where
  cls : Int
  code : Int
  data : List Int
def Opt.cs (o : Opt) : Array Value := #[.int .i64 o.cls, .int .i64 o.code, .string (strOfNums o.data)]
/-- A slice of n options that can be read. -/
structure OS (w : World) (a : Option Addr) (n : Nat) (os : List Opt) : Prop where
  len : os.length = n
  room : n ≤ 140737488355328
  fits : ∀ o ∈ os, Fit o.data ∧ True
  cells : n = 0 ∨ ∃ b off, a = some ⟨b, off, none⟩ ∧ ∀ i o, os[i]? = some o → w.cell? ⟨b, off + i * 3, none⟩ = some (.int .i64 o.cls) ∧ w.cell? ⟨b, off + i * 3 + 1, none⟩ = some (.int .i64 o.code) ∧ w.cell? ⟨b, off + i * 3 + 2, none⟩ = some (.string (strOfNums o.data))
theorem OS.below {w w' : World} {a : Option Addr} {n : Nat} {os : List Opt} (h : OS w a n os) (hb : Below w.heap.size w w') : OS w' a n os := by
  refine ⟨h.len, h.room, h.fits, ?_⟩
  rcases h.cells with h0 | ⟨b, off, rfl, hc⟩
  · exact .inl h0
  · refine .inr ⟨b, off, rfl, fun i o hi => ?_⟩
    obtain ⟨c0, c1, c2⟩ := hc i o hi
    exact ⟨(hb.cell (cell_lt c0)).trans c0, (hb.cell (cell_lt c1)).trans c1, (hb.cell (cell_lt c2)).trans c2⟩
theorem OS.empty {w : World} (a : Option Addr) : OS w a 0 [] := ⟨rfl, by omega, (fun _ h => by cases h), .inl rfl⟩
theorem drop_cons {os : List Opt} {k : Nat} {o : Opt} (h : os[k]? = some o) : os.drop k = o :: os.drop (k + 1) := by
  obtain ⟨hk, rfl⟩ := List.getElem?_eq_some_iff.1 h
  exact List.drop_eq_getElem_cons hk
theorem os_cell {w : World} {a : Option Addr} {n k : Nat} {os : List Opt} (h : OS w a n os) (hk : k < n) : ∃ o b off, os[k]? = some o ∧ a = some ⟨b, off, none⟩ ∧ w.cell? ⟨b, off + k * 3, none⟩ = some (.int .i64 o.cls) ∧ w.cell? ⟨b, off + k * 3 + 1, none⟩ = some (.int .i64 o.code) ∧ w.cell? ⟨b, off + k * 3 + 2, none⟩ = some (.string (strOfNums o.data)) ∧ b < w.heap.size ∧ Fit o.data ∧ True := by
  have hl := h.len
  have ho : os[k]? = some (os[k]'(by omega)) := List.getElem?_eq_getElem (by omega)
  rcases h.cells with h0 | ⟨b, off, e, hc⟩
  · omega
  · obtain ⟨c0, c1, c2⟩ := hc k _ ho
    exact ⟨_, b, off, ho, e, c0, c1, c2, cell_lt c0, h.fits _ (List.mem_of_getElem? ho)⟩
theorem bytesWorld_bel (w : World) (e : TypeId) (s : ByteArray) : Below w.heap.size w (Lib.bytesWorld w e s) :=
  ⟨by rfl, by rfl, by rfl, by rw [Lib.bytesWorld_size]; omega, fun k hk => Lib.bytesWorld_at_old w e s k hk⟩
theorem bytesWorld_bs (w : World) (e : TypeId) (ds : List Int) (hf : ∀ i, 0 ≤ ds.getD i 0 ∧ ds.getD i 0 ≤ 255) (hr : ds.length ≤ 140737488355328) : BS (Lib.bytesWorld w e (strOfNums ds)) (some ⟨w.heap.size, 0, none⟩) ds.length ds := by
  refine ⟨rfl, hf, by omega, .inr ⟨w.heap.size, 0, rfl, fun i hi => ?_⟩⟩
  have h1 := Lib.bytesWorld_cell w e (strOfNums ds) i (by rw [strOfNums_size]; exact hi)
  rw [Nat.zero_add, h1]
  have h2 := strCells_nums hf
  unfold Lib.strCells at h2
  have h3 := congrArg (fun l => l[i]?) h2
  simp only [List.getElem?_map] at h3
  have h4 : (strOfNums ds).data.toList.length = ds.length := strOfNums_size ds
  rw [List.getElem?_eq_getElem (by omega), List.getElem?_eq_getElem hi] at h3
  simp only [Option.map_some, Option.some.injEq] at h3
  rw [List.getD_eq_getElem?_getD, List.getElem?_eq_getElem (by omega), List.getD_eq_getElem?_getD, List.getElem?_eq_getElem hi]
  simpa using h3
/-- A text as new bytes. -/
theorem conv_text (w : World) (ds : List Int) (hf : Fit ds) (hr : ds.length ≤ 140737488355328) : ∃ cap W, (convert 9 26 (.string (strOfNums ds))).run Try.prog w = .ok (.slice (some ⟨w.heap.size, 0, none⟩) ds.length cap) W ∧ BS W (some ⟨w.heap.size, 0, none⟩) ds.length ds ∧ Below w.heap.size w W ∧ ds.length ≤ cap ∧ cap ≤ 9223372036854775807 := by
  have h := Lib.run_convert_string_bytes (P := Try.prog) w 9 26 5 (strOfNums ds) Try.underlying9 Try.underlying26 Try.underlying5
  have hs := strOfNums_size ds
  have hg := grownCap_ge w (strOfNums ds).size 0 5
  have hc : grownCap w (strOfNums ds).size 0 5 ≤ maxLen := grownCap_le_maxLen w _ 0 5 (by unfold maxLen; omega)
  rw [hs] at h hg hc
  exact ⟨_, _, h, bytesWorld_bs w 5 ds hf hr, bytesWorld_bel w 5 _, hg, by unfold maxLen at hc; omega⟩
/-- The data of the first option of a class and a code that says a number. -/
def keyO : List Opt → Int → Int → Option (List Int)
  | [], _, _ => none
  | o :: r, c, d => if o.cls = c ∧ o.code = d ∧ o.data.length = 4 then some o.data else keyO r c d
def keyV (os : List Opt) (c d : Int) : Value := match keyO os c d with
  | some s => .tuple #[.int .u32 (num s), .bool true]
  | none => .tuple #[.int .u32 0, .bool false]
theorem num_lt4 {ds : List Int} (hf : Fit ds) (h : ds.length = 4) : 0 ≤ num ds ∧ num ds ≤ 4294967295 := by
  have := num_bd ds hf 4
  rw [List.take_of_length_le (by omega)] at this
  omega
def KeyAt (c d : Int) (a : Option Addr) (n cap : Nat) (os : List Opt) (w : World) (a' : Act) (w' : World) : Prop :=
  ∃ (k : Nat) (u9 u10 u11 u12 u13 u14 u15 u16 u17 u18 u19 u20 u21 u22 u23 u24 u25 u26 u27 u28 u29 u30 u31 u32 u33 u34 u35 u36 u37 u38 u39 u40 u41 u42 u43 u44 u45 u46 u47 : Value), w' = w ∧ a' = { tmps := #[.slice a n cap, .int .i64 c, .int .i64 d, undef, undef, undef, .int .u32 0, .bool false, .int .i64 (k : Nat), u9, u10, u11, u12, u13, u14, u15, u16, u17, u18, u19, u20, u21, u22, u23, u24, u25, u26, u27, u28, u29, u30, u31, u32, u33, u34, u35, u36, u37, u38, u39, u40, u41, u42, u43, u44, u45, u46, u47], defers := [] } ∧ k ≤ n ∧ Hid (keyV (os.drop k) c d = keyV os c d)
set_option maxHeartbeats 2000000 in
theorem key_any (c d : Int) (a : Option Addr) (n cap : Nat) (os : List Opt) (w : World) (h : OS w a n os) :
    Calls Try.prog 15 #[.slice a n cap, .int .i64 c, .int .i64 d] w fun e w' => e = .returned (keyV os c d) ∧ Below w.heap.size w w' := by
  have hl := h.len
  have hr := h.room
  have H : Hid _ := h
  clear h
  go_enter Try.func15, Try.ntmps15
  go_wp2_with fail
  refine scope_loop 0 (KeyAt c d a n cap os w) (fun a' w' => n - slotAt 8 a' w') rfl ?_ ?_
  · rintro a' w' ⟨k, u9, u10, u11, u12, u13, u14, u15, u16, u17, u18, u19, u20, u21, u22, u23, u24, u25, u26, u27, u28, u29, u30, u31, u32, u33, u34, u35, u36, u37, u38, u39, u40, u41, u42, u43, u44, u45, u46, u47, rfl, rfl, hk, hF⟩ IH
    by_cases hlt : k = n
    · have HF : Hid (keyV os c d = .tuple #[.int .u32 0, .bool false]) := by
        show _ = _
        rw [← hF.out, List.drop_of_length_le (by omega)]; rfl
      have e0 : ((k : Int) == (n : Int)) = true := by simp [hlt]
      clear hF hlt IH
      go_wp2
      simp only [Exit.jumpTo]
      go_ret2
      exact ⟨(congrArg Ending.returned HF.out).symm, Below.refl _ _⟩
    · have hkI : (k : Int) < (n : Int) := by omega
      have e0 : ((k : Int) == (n : Int)) = false := by simp; omega
      obtain ⟨o, b, off, ho, rfl, c0, c1, c2, hbl, hfit, hlen⟩ := os_cell H.out (show k < n by omega)
      have hD := drop_cons ho
      have hs := strOfNums_size o.data
      by_cases hcl : o.cls = c
      · have e1 : (o.cls != c) = false := by simp [hcl]
        by_cases hco : o.code = d
        · have e2 : (o.code != d) = false := by simp [hco]
          by_cases h4 : o.data.length = 4
          · have HF : Hid (keyV os c d = .tuple #[.int .u32 (num o.data), .bool true]) := by
              show _ = _
              rw [← hF.out, hD]; simp [keyV, keyO, hcl, hco, h4]
            obtain ⟨cp, W1, hrun, hB, hbel, _, _⟩ := conv_text w' o.data hfit (by omega)
            have hnb := num_lt4 hfit h4
            generalize o.cls = oc at *
            generalize o.code = od at *
            generalize o.data = ds at *
            rw [h4] at hs hrun hB
            have HB : Hid _ := hB
            have HL : Hid _ := hbel
            have e3 : (((strOfNums ds).size : Int) != 4) = false := by rw [hs]; rfl
            clear hF hlt IH ho H hD hcl hco hB hbel hfit hlen h4
            go_wp2_with fail
            refine (number_any cp HB.out (by omega)).mono ?_
            rintro e W2 ⟨rfl, rfl⟩
            have hw : IntKind.u32.wrap (num ds) = num ds := by simp [IntKind.wrap, IntKind.bits, IntKind.signed]; omega
            go_wp2
            simp only [Exit.jumpTo]
            go_ret2
            exact ⟨(congrArg Ending.returned HF.out).symm, HL.out⟩
          · have HF : Hid (keyV (os.drop (k + 1)) c d = keyV os c d) := by
              show _ = _
              rw [← hF.out, hD]; simp [keyV, keyO, h4]
            have e3 : (((strOfNums o.data).size : Int) != 4) = true := by rw [hs]; simp; omega
            clear hF hlt ho H hD hcl hco h4 hs hfit hlen
            generalize o.cls = oc at *
            generalize o.code = od at *
            generalize o.data = ds at *
            go_wp2_with fail
            go_step3
            show FromLabel _ _ _ _ _ _
            refine IH.out _ _ ⟨k + 1, _, _, _, _, _, _, _, _, _, _, _, _, _, _, _, _, _, _, _, _, _, _, _, _, _, _, _, _, _, _, _, _, _, _, _, _, _, _, _, rfl, by first | rfl | go_num, by omega, HF⟩ ?_
            simp [slotAt, intOf]; omega
        · have HF : Hid (keyV (os.drop (k + 1)) c d = keyV os c d) := by
            show _ = _
            rw [← hF.out, hD]; simp [keyV, keyO, hco]
          have e2 : (o.code != d) = true := by simp [hco]
          clear hF hlt ho H hD hcl hco hs hfit hlen
          generalize o.cls = oc at *
          generalize o.code = od at *
          generalize o.data = ds at *
          go_wp2_with fail
          go_step3
          show FromLabel _ _ _ _ _ _
          refine IH.out _ _ ⟨k + 1, _, _, _, _, _, _, _, _, _, _, _, _, _, _, _, _, _, _, _, _, _, _, _, _, _, _, _, _, _, _, _, _, _, _, _, _, _, _, _, rfl, by first | rfl | go_num, by omega, HF⟩ ?_
          simp [slotAt, intOf]; omega
      · have HF : Hid (keyV (os.drop (k + 1)) c d = keyV os c d) := by
          show _ = _
          rw [← hF.out, hD]; simp [keyV, keyO, hcl]
        have e1 : (o.cls != c) = true := by simp [hcl]
        clear hF hlt ho H hD hcl hs hfit hlen
        generalize o.cls = oc at *
        generalize o.code = od at *
        generalize o.data = ds at *
        go_wp2_with fail
        go_step3
        show FromLabel _ _ _ _ _ _
        refine IH.out _ _ ⟨k + 1, _, _, _, _, _, _, _, _, _, _, _, _, _, _, _, _, _, _, _, _, _, _, _, _, _, _, _, _, _, _, _, _, _, _, _, _, _, _, _, rfl, by first | rfl | go_num, by omega, HF⟩ ?_
        simp [slotAt, intOf]; omega
  · intro HG
    go_wp2_with fail
    go_step3
    rename_i K hK
    exact hK _ _ (HG.out _ _ ⟨0, _, _, _, _, _, _, _, _, _, _, _, _, _, _, _, _, _, _, _, _, _, _, _, _, _, _, _, _, _, _, _, _, _, _, _, _, _, _, _, rfl, rfl, by omega, rfl⟩)
end Go.Proofs.Ytgonckbdkgiddaa

namespace Go.Proofs.Ytgonckbdkgiddaa.Eth
open Go.RowKit
theorem p256 (k : Nat) : (2 : Int) ^ (8 * k) = 256 ^ k := by rw [Int.pow_mul]; rfl
theorem p256_pos (k : Nat) : (0 : Int) < 256 ^ k := Int.pow_pos (by omega)

theorem num_fold (ys : List Int) : ∀ a : Int, ys.foldl (fun x z => x * 256 + z) a = a * 256 ^ ys.length + num ys := by
  unfold num
  induction ys with
  | nil => intro a; simp
  | cons y ys ih =>
    intro a
    simp only [List.foldl_cons, List.length_cons, Int.pow_succ]
    rw [ih (a * 256 + y), ih (0 * 256 + y)]
    generalize (256 : Int) ^ ys.length = P
    rw [Int.add_mul, Int.add_mul, Int.zero_mul, Int.zero_mul, Int.mul_assoc, Int.mul_comm 256 P]
    omega
theorem num_cons (y : Int) (ys : List Int) : num (y :: ys) = y * 256 ^ ys.length + num ys := by
  have := num_fold ys y
  rw [← this]; simp [num]
theorem num_append (xs ys : List Int) : num (xs ++ ys) = num xs * 256 ^ ys.length + num ys := by
  rw [← num_fold ys (num xs)]; simp [num]

theorem num_lt (ys : List Int) (h : ∀ i, 0 ≤ ys.getD i 0 ∧ ys.getD i 0 ≤ 255) : 0 ≤ num ys ∧ num ys < 256 ^ ys.length := by
  have := num_bd ys h ys.length
  rwa [List.take_length] at this

theorem be_mod (k : Nat) : ∀ (a v : Int), be (a * 256 ^ k + v) k = be v k := by
  induction k with
  | zero => intro a v; rfl
  | succ k ih =>
    intro a v
    have e : a * 256 ^ (k + 1) + v = (a * 256) * 256 ^ k + v := by rw [Int.pow_succ, Int.mul_assoc, Int.mul_comm 256]
    simp only [be]
    rw [p256, e, ih (a * 256) v]
    congr 1
    rw [Int.add_comm, Int.add_mul_ediv_right _ _ (Int.ne_of_gt (p256_pos k))]
    omega

theorem be_num (ys : List Int) (h : ∀ i, 0 ≤ ys.getD i 0 ∧ ys.getD i 0 ≤ 255) : be (num ys) ys.length = ys := by
  induction ys with
  | nil => rfl
  | cons y ys ih =>
    have h' : ∀ i, 0 ≤ ys.getD i 0 ∧ ys.getD i 0 ≤ 255 := fun i => by simpa using h (i + 1)
    have hy : 0 ≤ y ∧ y ≤ 255 := by simpa using h 0
    have hb := num_lt ys h'
    rw [num_cons]
    simp only [List.length_cons, be]
    rw [p256, be_mod, ih h']
    congr 1
    rw [Int.add_comm, Int.add_mul_ediv_right _ _ (Int.ne_of_gt (p256_pos _)), Int.ediv_eq_zero_of_lt hb.1 hb.2]
    omega

theorem num_be (k : Nat) : ∀ (v : Int), 0 ≤ v → v < 256 ^ k → num (be v k) = v := by
  induction k with
  | zero => intro v h0 h1; simp [be, num]; simp at h1; omega
  | succ k ih =>
    intro v h0 h1
    simp only [be]
    rw [num_cons, be_len, p256]
    have hp := p256_pos k
    have hv : v = (v / 256 ^ k) * 256 ^ k + v % 256 ^ k := by rw [Int.mul_comm]; exact (Int.mul_ediv_add_emod v _).symm
    have hq : v / 256 ^ k < 256 := by
      apply Int.ediv_lt_of_lt_mul hp
      rw [Int.pow_succ, Int.mul_comm] at h1; exact h1
    have hq0 : 0 ≤ v / 256 ^ k := Int.ediv_nonneg h0 (Int.le_of_lt hp)
    have e : be v k = be (v % 256 ^ k) k := by
      conv => lhs; rw [hv]
      exact be_mod k _ _
    rw [e, ih _ (Int.emod_nonneg _ (Int.ne_of_gt hp)) (Int.emod_lt_of_pos _ hp), Int.emod_eq_of_lt hq0 hq]
    exact hv.symm

theorem num_be6 (v : Int) (h0 : 0 ≤ v) (h1 : v ≤ 281474976710655) : num (be v 6) = v := num_be 6 v h0 (by rw [show (256 : Int) ^ 6 = 281474976710656 from by decide]; omega)
theorem num_be4 (v : Int) (h0 : 0 ≤ v) (h1 : v ≤ 4294967295) : num (be v 4) = v := num_be 4 v h0 (by rw [show (256 : Int) ^ 4 = 4294967296 from by decide]; omega)
theorem num_be2 (v : Int) (h0 : 0 ≤ v) (h1 : v ≤ 65535) : num (be v 2) = v := num_be 2 v h0 (by rw [show (256 : Int) ^ 2 = 65536 from by decide]; omega)
theorem be_num_k (ys : List Int) (h : ∀ i, 0 ≤ ys.getD i 0 ∧ ys.getD i 0 ≤ 255) (k : Nat) (hk : ys.length = k) : be (num ys) k = ys := by subst hk; exact be_num ys h

theorem fits_take {xs : List Int} (h : ∀ i, 0 ≤ xs.getD i 0 ∧ xs.getD i 0 ≤ 255) (k : Nat) : ∀ i, 0 ≤ (xs.take k).getD i 0 ∧ (xs.take k).getD i 0 ≤ 255 := by
  intro i
  have := h i
  simp only [List.getD_eq_getElem?_getD, List.getElem?_take] at *
  split <;> simp_all
theorem fits_drop {xs : List Int} (h : ∀ i, 0 ≤ xs.getD i 0 ∧ xs.getD i 0 ≤ 255) (k : Nat) : ∀ i, 0 ≤ (xs.drop k).getD i 0 ∧ (xs.drop k).getD i 0 ≤ 255 := by
  intro i
  have := h (k + i)
  simpa [List.getD_eq_getElem?_getD, List.getElem?_drop] using this
end Go.Proofs.Ytgonckbdkgiddaa.Eth

namespace Go.Proofs.Ytgonckbdkgiddaa
open Go.RowKit
theorem i64_and32767 (n : Int) : bits .and .i64 n 32767 = n % 32768 := by
  have h : (BitVec.ofInt 64 32767).toNat = 2 ^ 15 - 1 := by decide
  have key : (BitVec.ofInt 64 n &&& BitVec.ofInt 64 32767).toNat = (n % ((2 ^ 64 : Nat) : Int)).toNat % 2 ^ 15 := by
    rw [BitVec.toNat_and, BitVec.toNat_ofInt, h, Nat.and_two_pow_sub_one_eq_mod]
  show IntKind.i64.wrap ((BitVec.ofInt 64 n &&& BitVec.ofInt 64 32767).toNat : Nat) = n % 32768
  rw [key, IntKind.wrap_i64]
  omega
set_option maxHeartbeats 2000000 in
theorem rkey_any (c d : Int) (a : Option Addr) (n cap : Nat) (os : List Opt) (w : World) (h : OS w a n os) :
    Calls Try.prog 16 #[.slice a n cap, .int .i64 c, .int .i64 d] w fun e w' => e = .returned (keyV os c d) ∧ Below w.heap.size w w' := by
  have hl := h.len
  have hr := h.room
  have H : Hid _ := h
  clear h
  go_enter Try.func16, Try.ntmps16
  go_wp2_with fail
  go_loopw [8] (fun i wr => ∃ k : Nat, k ≤ n ∧ i = .int .i64 k ∧ wr = w ∧ Hid (keyV (os.drop k) c d = keyV os c d)) (fun i _ => n - (intOf i).toNat)
  case atStart => exact ⟨0, by omega, rfl, rfl, rfl⟩
  case round =>
    obtain ⟨k, hk, rfl, rfl, hF⟩ := hrel
    by_cases hlt : k = n
    · have HF : Hid (keyV os c d = .tuple #[.int .u32 0, .bool false]) := by
        show _ = _
        rw [← hF.out, List.drop_of_length_le (by omega)]; rfl
      have e0 : ¬ (k : Int) < (n : Int) := by omega
      clear hF hlt
      go_wp2
      go_ret2
      exact ⟨(congrArg Ending.returned HF.out).symm, Below.refl _ _⟩
    · have hkI : (k : Int) < (n : Int) := by omega
      obtain ⟨o, b, off, ho, rfl, c0, c1, c2, hbl, hfit, hlen⟩ := os_cell H.out (show k < n by omega)
      have hD := drop_cons ho
      have hs := strOfNums_size o.data
      by_cases hcl : o.cls = c
      · have e1 : (o.cls == c) = true := by simp [hcl]
        by_cases hco : o.code = d
        · have e2 : (o.code == d) = true := by simp [hco]
          by_cases h4 : o.data.length = 4
          · have HF : Hid (keyV os c d = .tuple #[.int .u32 (num o.data), .bool true]) := by
              show _ = _
              rw [← hF.out, hD]; simp [keyV, keyO, hcl, hco, h4]
            obtain ⟨cp, W1, hrun, hB, hbel, _, _⟩ := conv_text wr o.data hfit (by omega)
            have hnb := num_lt4 hfit h4
            generalize o.cls = oc at *
            generalize o.code = od at *
            generalize o.data = ds at *
            rw [h4] at hs hrun hB
            have HB : Hid _ := hB
            have HL : Hid _ := hbel
            have e3 : (((strOfNums ds).size : Int) == 4) = true := by rw [hs]; rfl
            clear hF hlt ho H hD hcl hco hB hbel hfit hlen h4
            go_wp2_with fail
            refine (rnum_any cp HB.out (by omega)).mono ?_
            rintro e W2 ⟨rfl, rfl⟩
            have hw : IntKind.u32.wrap (num ds) = num ds := by simp [IntKind.wrap, IntKind.bits, IntKind.signed]; omega
            go_wp2
            go_ret2
            exact ⟨(congrArg Ending.returned HF.out).symm, HL.out⟩
          · have HF : Hid (keyV (os.drop (k + 1)) c d = keyV os c d) := by
              show _ = _
              rw [← hF.out, hD]; simp [keyV, keyO, h4]
            have e3 : (((strOfNums o.data).size : Int) == 4) = false := by rw [hs]; simp; omega
            clear hF ho H hD hcl hco h4 hs hfit hlen
            generalize o.cls = oc at *
            generalize o.code = od at *
            generalize o.data = ds at *
            go_wp2
            go_roundw
            case rel => exact ⟨k + 1, by omega, by go_num, by first | rfl | trivial, HF⟩
            case measure => simp [intOf]; omega
        · have HF : Hid (keyV (os.drop (k + 1)) c d = keyV os c d) := by
            show _ = _
            rw [← hF.out, hD]; simp [keyV, keyO, hco]
          have e2 : (o.code == d) = false := by simp [hco]
          clear hF ho H hD hcl hco hs hfit hlen
          generalize o.cls = oc at *
          generalize o.code = od at *
          generalize o.data = ds at *
          go_wp2
          go_roundw
          case rel => exact ⟨k + 1, by omega, by go_num, by first | rfl | trivial, HF⟩
          case measure => simp [intOf]; omega
      · have HF : Hid (keyV (os.drop (k + 1)) c d = keyV os c d) := by
          show _ = _
          rw [← hF.out, hD]; simp [keyV, keyO, hcl]
        have e1 : (o.cls == c) = false := by simp [hcl]
        clear hF ho H hD hcl hs hfit hlen
        generalize o.cls = oc at *
        generalize o.code = od at *
        generalize o.data = ds at *
        go_wp2
        go_roundw
        case rel => exact ⟨k + 1, by omega, by go_num, by first | rfl | trivial, HF⟩
        case measure => simp [intOf]; omega
/-- What Ports says of two numbers. -/
def prt (i o : Int) : Int := i % 32768 * 65536 + o % 65536
theorem prt_bd (i o : Int) : 0 ≤ prt i o ∧ prt i o ≤ 2147483647 := by unfold prt; omega
theorem both_eq (i o : Int) : bits BinOp.or IntKind.u64 (IntKind.u64.wrap (IntKind.u64.wrap (bits BinOp.and IntKind.i64 i 32767) * 65536)) (IntKind.u64.wrap (bits BinOp.and IntKind.i64 o 65535)) = prt i o := by
  rw [i64_and32767, i64_and65535]
  have w1 : IntKind.u64.wrap (i % 32768) = i % 32768 := by simp [IntKind.wrap, IntKind.bits, IntKind.signed]; omega
  have w2 : IntKind.u64.wrap (i % 32768 * 65536) = i % 32768 * 65536 := by simp [IntKind.wrap, IntKind.bits, IntKind.signed]; omega
  have w3 : IntKind.u64.wrap (o % 65536) = o % 65536 := by simp [IntKind.wrap, IntKind.bits, IntKind.signed]; omega
  rw [w1, w2, w3, u64_or _ _ (by omega) (by omega) (by omega) (by omega), nat_join 16 (i % 32768 * 65536).toNat (o % 65536).toNat (by omega) (by omega)]
  unfold prt
  omega
theorem run_buildO (x y : Int) (s : ByteArray) (w : World) : (Instr.buildSlice 23 1 #[(0, .agg #[.int .i64 x, .int .i64 y, .string s])]).run Try.prog w = .ok (.slice (some ⟨w.heap.size, 0, none⟩) 1 1) (w.alloc (.cells #[.int .i64 x, .int .i64 y, .string s] 38)) := by kernel_rfl
theorem os_one {w : World} {x y : Int} {ds : List Int} (hf : Fit ds) : OS (w.alloc (.cells #[.int .i64 x, .int .i64 y, .string (strOfNums ds)] 38)) (some ⟨w.heap.size, 0, none⟩) 1 [⟨x, y, ds⟩] := by
  refine ⟨rfl, by omega, fun o ho => ?_, .inr ⟨w.heap.size, 0, rfl, fun i o ho => ?_⟩⟩
  · obtain rfl : o = ⟨x, y, ds⟩ := by simpa using ho
    exact ⟨hf, trivial⟩
  · have hn := heap_alloc_new w (.cells #[.int .i64 x, .int .i64 y, .string (strOfNums ds)] 38)
    have hi : i = 0 := by
      have := (List.getElem?_eq_some_iff.1 ho).1
      simp at this
      exact this
    subst hi
    have : o = ⟨x, y, ds⟩ := by simpa using ho.symm
    subst this
    exact ⟨cell_of_row _ _ 0 _ _ _ hn, cell_of_row _ _ 1 _ _ _ hn, cell_of_row _ _ 2 _ _ _ hn⟩
set_option maxHeartbeats 2000000 in
theorem ports_any (i o : Int) (w : World) :
    Calls Try.prog 13 #[.int .i64 i, .int .i64 o] w fun e w' => ∃ g, e = .returned (.slice (some ⟨g, 0, none⟩) 1 1) ∧ OS w' (some ⟨g, 0, none⟩) 1 [⟨258, 128, be (prt i o) 4⟩] ∧ Below w.heap.size w w' := by
  have hp := prt_bd i o
  have hE : Hid _ := both_eq i o
  have hE' := both_eq i o
  go_enter Try.func13, Try.ntmps13
  clear hE'
  go_wp2_with fail
  rw [hE.out]
  refine (appendNumber_any w.heap.size w none 0 0 [] ⟨rfl, .inl ⟨rfl, rfl⟩⟩ (Nat.le_refl _) (by omega) (prt i o) (by omega) 4 (by omega)).mono ?_
  rintro e W1 ⟨a', cap', rfl, hr⟩
  have hB : BS W1 a' 4 (be (prt i o) 4) := own_bs (by simpa using hr.own) (be_bd _ _) (by omega)
  have hb1 : Below w.heap.size w W1 := (Below.refl _ _).grown hr.grown (Nat.le_refl _) (by rintro k ⟨⟩)
  have cv := run_conv_bs (P := Try.prog) cap' hB 26 9 5 Try.underlying26 Try.underlying5 Try.underlying9
  have HB1 : Hid _ := hb1
  have hrun := run_buildO 258 128 (strOfNums (be (prt i o) 4))
  clear hr hB hb1 hE
  generalize hq : be (prt i o) 4 = ds at *
  have HQ : Hid _ := hq
  clear hq hp
  go_wp2
  go_ret
  refine ⟨_, rfl, ?_, HB1.out.alloc HB1.out.size _⟩
  have hf : Fit ds := by rw [← HQ.out]; exact be_bd _ _
  rw [HQ.out]
  exact os_one hf
set_option maxHeartbeats 2000000 in
theorem rports_any (i o : Int) (w : World) :
    Calls Try.prog 14 #[.int .i64 i, .int .i64 o] w fun e w' => ∃ g, e = .returned (.slice (some ⟨g, 0, none⟩) 1 1) ∧ OS w' (some ⟨g, 0, none⟩) 1 [⟨258, 128, be (prt i o) 4⟩] ∧ Below w.heap.size w w' := by
  have hp := prt_bd i o
  go_enter Try.func14, Try.ntmps14
  go_wp2_with fail
  have e1 : IntKind.u64.wrap (IntKind.u64.wrap ((IntKind.u64.wrap (IntKind.u16.wrap i)).tmod 32768 * 65536) + IntKind.u64.wrap (IntKind.u16.wrap o)) = prt i o := by
    unfold prt
    simp only [IntKind.wrap, IntKind.bits, IntKind.signed]
    simp
    rw [Int.tmod_eq_emod_of_nonneg (by omega)]
    omega
  rw [e1]
  refine (bytes4_any (prt i o) (by omega) w).mono ?_
  rintro e W1 ⟨rfl, hW⟩
  have hB : BS W1 (some ⟨w.heap.size, 0, none⟩) 4 (be (prt i o) 4) := by
    rw [hW]
    refine ⟨be_len _ _, be_bd _ _, by omega, .inr ⟨w.heap.size, 0, rfl, fun k hk => ?_⟩⟩
    rw [Nat.zero_add, cell_of_row _ _ k _ _ _ (heap_alloc_new w _)]
    have hl : (be (prt i o) 4).length = 4 := be_len _ _
    rw [List.getElem?_toArray, List.getElem?_map, List.getElem?_eq_getElem (by omega), List.getD_eq_getElem?_getD, List.getElem?_eq_getElem (by omega)]
    rfl
  have hb1 : Below w.heap.size w W1 := by rw [hW]; exact below1 w _
  have cv := run_conv_bs (P := Try.prog) 4 hB 26 9 5 Try.underlying26 Try.underlying5 Try.underlying9
  have HB1 : Hid _ := hb1
  have hrun := run_buildO 258 128 (strOfNums (be (prt i o) 4))
  clear hB hb1 hW e1
  generalize hq : be (prt i o) 4 = ds at *
  have HQ : Hid _ := hq
  clear hq hp
  go_wp2
  go_ret
  refine ⟨_, rfl, ?_, HB1.out.alloc HB1.out.size _⟩
  have hf : Fit ds := by rw [← HQ.out]; exact be_bd _ _
  rw [HQ.out]
  exact os_one hf
end Go.Proofs.Ytgonckbdkgiddaa

namespace Go.Proofs.Ytgonckbdkgiddaa
open Go.RowKit
set_option maxRecDepth 20000
set_option linter.unusedSimpArgs false
/-- How many bytes options have. -/
def szO (os : List Opt) : Int := (os.map fun o => 4 + (o.data.length : Int)).sum
theorem szO_snoc (os : List Opt) (o : Opt) : szO (os ++ [o]) = szO os + (4 + (o.data.length : Int)) := by simp [szO]
theorem szO_nn (os : List Opt) : 0 ≤ szO os := by
  induction os with
  | nil => decide
  | cons o r ih => simp only [szO, List.map_cons, List.sum_cons] at ih ⊢; omega
theorem szO_bd (os : List Opt) (h : ∀ o ∈ os, o.data.length ≤ 124) : szO os ≤ 128 * os.length := by
  induction os with
  | nil => simp [szO]
  | cons o r ih =>
    have h1 := h o (by simp)
    have h2 := ih (fun x hx => h x (by simp [hx]))
    simp only [szO, List.map_cons, List.sum_cons, List.length_cons] at h2 ⊢
    omega
theorem take_snocO {os : List Opt} {k : Nat} {o : Opt} (h : os[k]? = some o) : os.take (k + 1) = os.take k ++ [o] := by
  obtain ⟨hk, rfl⟩ := List.getElem?_eq_some_iff.1 h
  exact List.take_succ_eq_append_getElem hk
/-- Has an option room? -/
def optG (o : Opt) : Bool := fit16 o.cls && (fit8 o.code && (decide (o.data.length ≤ 124) && decide (o.data.length % 4 = 0)))
set_option maxHeartbeats 2000000 in
theorem gsize_any (a : Option Addr) (n cap : Nat) (os : List Opt) (w : World) (h : OS w a n os) (h124 : ∀ o ∈ os, o.data.length ≤ 124) :
    Calls Try.prog 35 #[.slice a n cap] w fun e w' => e = .returned (.int .i64 (szO os)) ∧ Below w.heap.size w w' := by
  have hl := h.len
  have hr := h.room
  have H : Hid _ := h
  have H1 : Hid _ := h124
  clear h h124
  go_enter Try.func35, Try.ntmps35
  go_wp2_with fail
  go_loopw [3, 8] (fun s i wr => ∃ k : Nat, k ≤ n ∧ i = .int .i64 k ∧ s = .int .i64 (szO (os.take k)) ∧ Below w.heap.size w wr) (fun _ i _ => n - (intOf i).toNat)
  case atStart => exact ⟨0, by omega, rfl, rfl, Below.refl _ _⟩
  case round =>
    obtain ⟨k, hk, rfl, rfl, hb⟩ := hrel
    have HB : Hid _ := hb
    by_cases hlt : k = n
    · have e0 : ¬ (k : Int) < (n : Int) := by omega
      have HS : Hid (os.take k = os) := List.take_of_length_le (by omega)
      clear hlt hb
      go_wp2
      go_ret
      rw [HS.out]
      exact ⟨rfl, HB.out⟩
    · have hkI : (k : Int) < (n : Int) := by omega
      obtain ⟨o, b, off, ho, rfl, c0, c1, c2, hbl, hfit, hlen⟩ := os_cell (H.out.below hb) (show k < n by omega)
      have hs := strOfNums_size o.data
      have hT := szO_snoc (os.take k) o
      rw [← take_snocO ho] at hT
      have h1 := szO_bd (os.take k) (fun x hx => H1.out x (List.mem_of_mem_take hx))
      have h2 := szO_nn (os.take k)
      have h3 : (os.take k).length ≤ n := by rw [List.length_take]; omega
      have h4 := H1.out o (List.mem_of_getElem? ho)
      have HT : Hid _ := hT
      have hne : ¬ b = wr.heap.size := by omega
      generalize szO (os.take k) = S at *
      generalize o.cls = oc at *
      generalize o.code = od at *
      generalize o.data = ds at *
      clear hT ho hfit hlen hb
      have w1 : IntKind.i64.wrap (4 + ((strOfNums ds).size : Int)) = 4 + (ds.length : Int) := by rw [hs]; simp [IntKind.wrap, IntKind.bits, IntKind.signed]; omega
      have w2 : IntKind.i64.wrap (S + (4 + (ds.length : Int))) = S + (4 + (ds.length : Int)) := by simp [IntKind.wrap, IntKind.bits, IntKind.signed]; omega
      go_wp2
      go_roundw
      case rel => exact ⟨k + 1, by omega, by go_num, by rw [HT.out], HB.out.alloc HB.out.size _⟩
      case measure => simp [intOf]; omega
def critB (o : Opt) : Bool := bits .and .i64 o.code 128 != 0
def flV (oam c : Bool) : Int := (if oam then 128 else 0) + (if c then 64 else 0)
def tnC (src dst sp vni : Int) (oam : Bool) (a : Option Addr) (n cap : Nat) (fr : List Int) : Array Value := #[.int .u32 src, .int .u32 dst, .int .i64 sp, .int .i64 vni, .bool oam, .slice a n cap, .string (strOfNums fr)]
theorem fl_or (oam c : Bool) : bits BinOp.or IntKind.i64 (flV oam c) 64 = flV oam true := by cases oam <;> cases c <;> decide +kernel
set_option maxHeartbeats 2000000 in
theorem gflags_any (src dst sp vni : Int) (oam : Bool) (a : Option Addr) (n cap : Nat) (os : List Opt) (fr : List Int) (w : World) (h : OS w a n os) :
    Calls Try.prog 37 #[.agg (tnC src dst sp vni oam a n cap fr)] w fun e w' => e = .returned (.int .i64 (flV oam (os.any critB))) ∧ Below w.heap.size w w' := by
  unfold tnC
  have hl := h.len
  have hr := h.room
  have H : Hid _ := h
  clear h
  go_enter Try.func37, Try.ntmps37
  have hor : bits BinOp.or IntKind.i64 0 128 = 128 := by decide +kernel
  cases oam
  · go_wp2_with fail
    go_loopw [3, 13] (fun s i wr => ∃ k : Nat, k ≤ n ∧ i = .int .i64 k ∧ s = .int .i64 (flV false ((os.take k).any critB)) ∧ Below w.heap.size w wr) (fun _ i _ => n - (intOf i).toNat)
    case atStart => exact ⟨0, by omega, rfl, rfl, below1 w _⟩
    case round =>
      obtain ⟨k, hk, rfl, rfl, hb⟩ := hrel
      have HB : Hid _ := hb
      by_cases hlt : k = n
      · have e0 : ¬ (k : Int) < (n : Int) := by omega
        have HS : Hid (os.take k = os) := List.take_of_length_le (by omega)
        clear hlt hb
        go_wp2
        go_ret
        rw [HS.out]
        exact ⟨rfl, HB.out⟩
      · have hkI : (k : Int) < (n : Int) := by omega
        obtain ⟨o, b, off, ho, rfl, c0, c1, c2, hbl, hfit, hlen⟩ := os_cell (H.out.below hb) (show k < n by omega)
        have hT : (os.take (k + 1)).any critB = ((os.take k).any critB || critB o) := by rw [take_snocO ho, List.any_append]; simp
        have HT : Hid _ := hT
        have hne : ¬ b = wr.heap.size := by omega
        have hor2 := fl_or false ((os.take k).any critB)
        cases hcr : critB o
        · have e1 : (bits BinOp.and IntKind.i64 o.code 128 != 0) = false := hcr
          rw [hcr, Bool.or_false] at HT
          generalize (os.take k).any critB = cb at *
          generalize o.cls = oc at *
          generalize o.code = od at *
          generalize o.data = ds at *
          clear hT ho hfit hlen hb hor2 hor hcr
          go_wp2
          go_roundw
          case rel => exact ⟨k + 1, by omega, by go_num, by rw [HT.out], HB.out.alloc HB.out.size _⟩
          case measure => simp [intOf]; omega
        · have e1 : (bits BinOp.and IntKind.i64 o.code 128 != 0) = true := hcr
          rw [hcr, Bool.or_true] at HT
          generalize (os.take k).any critB = cb at *
          generalize o.cls = oc at *
          generalize o.code = od at *
          generalize o.data = ds at *
          clear hT ho hfit hlen hb hor hcr
          go_wp2
          go_roundw
          case rel => exact ⟨k + 1, by omega, by go_num, by rw [HT.out], HB.out.alloc HB.out.size _⟩
          case measure => simp [intOf]; omega
  · go_wp2_with fail
    go_loopw [3, 13] (fun s i wr => ∃ k : Nat, k ≤ n ∧ i = .int .i64 k ∧ s = .int .i64 (flV true ((os.take k).any critB)) ∧ Below w.heap.size w wr) (fun _ i _ => n - (intOf i).toNat)
    case atStart => exact ⟨0, by omega, rfl, rfl, below1 w _⟩
    case round =>
      obtain ⟨k, hk, rfl, rfl, hb⟩ := hrel
      have HB : Hid _ := hb
      by_cases hlt : k = n
      · have e0 : ¬ (k : Int) < (n : Int) := by omega
        have HS : Hid (os.take k = os) := List.take_of_length_le (by omega)
        clear hlt hb
        go_wp2
        go_ret
        rw [HS.out]
        exact ⟨rfl, HB.out⟩
      · have hkI : (k : Int) < (n : Int) := by omega
        obtain ⟨o, b, off, ho, rfl, c0, c1, c2, hbl, hfit, hlen⟩ := os_cell (H.out.below hb) (show k < n by omega)
        have hT : (os.take (k + 1)).any critB = ((os.take k).any critB || critB o) := by rw [take_snocO ho, List.any_append]; simp
        have HT : Hid _ := hT
        have hne : ¬ b = wr.heap.size := by omega
        have hor2 := fl_or true ((os.take k).any critB)
        cases hcr : critB o
        · have e1 : (bits BinOp.and IntKind.i64 o.code 128 != 0) = false := hcr
          rw [hcr, Bool.or_false] at HT
          generalize (os.take k).any critB = cb at *
          generalize o.cls = oc at *
          generalize o.code = od at *
          generalize o.data = ds at *
          clear hT ho hfit hlen hb hor2 hor hcr
          go_wp2
          go_roundw
          case rel => exact ⟨k + 1, by omega, by go_num, by rw [HT.out], HB.out.alloc HB.out.size _⟩
          case measure => simp [intOf]; omega
        · have e1 : (bits BinOp.and IntKind.i64 o.code 128 != 0) = true := hcr
          rw [hcr, Bool.or_true] at HT
          generalize (os.take k).any critB = cb at *
          generalize o.cls = oc at *
          generalize o.code = od at *
          generalize o.data = ds at *
          clear hT ho hfit hlen hb hor hcr
          go_wp2
          go_roundw
          case rel => exact ⟨k + 1, by omega, by go_num, by rw [HT.out], HB.out.alloc HB.out.size _⟩
          case measure => simp [intOf]; omega
end Go.Proofs.Ytgonckbdkgiddaa

namespace Go.Proofs.Ytgonckbdkgiddaa.Ca
open Go.RowKit
theorem cell_lt {w : World} {a : Addr} {v : Value} (h : w.cell? a = some v) : a.block < w.heap.size := by
  unfold World.cell? at h
  by_cases hb : a.block < w.heap.size
  · exact hb
  · have : w.heap[a.block]? = none := Array.getElem?_eq_none (by omega)
    simp [this] at h
/-- A whole struct into the block that was made last. -/
theorem wpList_store_new {P : Program} {ops : Array Oper} {rest : List Oper} {op : Oper} {a : Act} {w : World} {Q : Exit → Act → World → Prop} (hgd : op.guard = none) (ty : TypeId) (x y : Operand) (ho : op.op = .store ty x y)
    (c c' : Array Value) (b : Nat) (hb : b = w.heap.size) (hx : a.eval x = .pointer (some ⟨b, 0, none⟩)) (hy : a.eval y = .agg c')
    (hi : (P.info? ty).map (·.size) = some c'.size) (hs : c.size = c'.size) (h1 : c'.all (·.oneCell') = true)
    (h : wpList P ops Q rest (a.put op.dst undef) (w.alloc (.cells c' ty))) : wpList P ops Q (op :: rest) a (w.alloc (.cells c ty)) := by
  subst hb
  refine wpList_plain hgd fun K hK => ?_
  unfold Oper.wp execOp
  simp only [ho, hx, hy, Sem.run_bind, run_storeAt_new w ty c c' hi hs h1]
  exact hK _ _ h
theorem below_drewN {n : Nat} {w w' : World} (h : Below n w w') (k : Nat) : Below n w (w'.drewN k) := ⟨h.os, h.tape, h.output, h.size, h.block⟩
theorem drewN_alloc (w : World) (A : Obj) (n : Nat) : (w.alloc A).drewN n = (w.drewN n).alloc A := rfl
theorem below1 (w : World) (A : Obj) : Below w.heap.size w (w.alloc A) := (Below.refl _ _).alloc (Nat.le_refl _) A
theorem below2 (w : World) (A B : Obj) : Below w.heap.size w ((w.alloc A).alloc B) := (below1 w A).alloc (by simp) B
theorem set_one {cs : Array Value} {i : Nat} {v : Value} (h1 : cs.all (·.oneCell') = true) (hv : v.oneCell' = true) : (cs.setIfInBounds i v).all (·.oneCell') = true := by
  rw [Array.all_eq_true_iff_forall_mem] at *
  intro x hx
  obtain ⟨j, hj, rfl⟩ := Array.mem_iff_getElem.1 hx
  rw [Array.getElem_setIfInBounds]
  split
  · exact hv
  · exact h1 _ (Array.getElem_mem _)
  · simpa using hj
theorem two_first (w : World) (A B : Obj) : ((w.alloc A).alloc B).heap[w.heap.size]? = some A := (heap_alloc_old _ _ (by simp)).trans (heap_alloc_new _ _)
theorem two_last (w : World) (A B : Obj) : ((w.alloc A).alloc B).heap[w.heap.size + 1]? = some B := by
  have := heap_alloc_new (w.alloc A) B
  simpa using this
theorem three_first (w : World) (A B C : Obj) : (((w.alloc A).alloc B).alloc C).heap[w.heap.size]? = some A := (heap_alloc_old _ _ (by simp; omega)).trans (two_first _ _ _)
theorem four_first (w : World) (A B C D : Obj) : ((((w.alloc A).alloc B).alloc C).alloc D).heap[w.heap.size]? = some A := (heap_alloc_old _ _ (by simp; omega)).trans (three_first _ _ _ _)
theorem below3 (w : World) (A B C : Obj) : Below w.heap.size w (((w.alloc A).alloc B).alloc C) := (below2 w A B).alloc (by simp; omega) C
theorem below4 (w : World) (A B C D : Obj) : Below w.heap.size w ((((w.alloc A).alloc B).alloc C).alloc D) := (below3 w A B C).alloc (by simp; omega) D
theorem cell_row {W : World} {g : Nat} {cs : Array Value} {t : TypeId} (h : W.heap[g]? = some (.cells cs t (0, 0))) (i : Nat) : W.cell? ⟨g, i, none⟩ = cs[i]? := cell_of_row W g i cs t (0, 0) h
/-- A whole struct into a block. -/
theorem wpList_store_row {P : Program} {ops : Array Oper} {rest : List Oper} {op : Oper} {a : Act} {w : World} {Q : Exit → Act → World → Prop} (hgd : op.guard = none) (ty : TypeId) (x y : Operand) (ho : op.op = .store ty x y)
    (g : Nat) (old c' : Array Value) (t : TypeId) (hx : a.eval x = .pointer (some ⟨g, 0, none⟩)) (hy : a.eval y = .agg c') (hg : w.heap[g]? = some (.cells old t (0, 0)))
    (hi : (P.info? ty).map (·.size) = some c'.size) (hs : old.size = c'.size) (h1 : c'.all (·.oneCell') = true)
    (h : ∀ w', w'.heap[g]? = some (.cells c' t (0, 0)) → (∀ k, k ≠ g → w'.heap[k]? = w.heap[k]?) → w'.heap.size = w.heap.size → Below g w w' → wpList P ops Q rest (a.put op.dst undef) w') : wpList P ops Q (op :: rest) a w := by
  refine wpList_plain hgd fun K hK => ?_
  unfold Oper.wp execOp
  simp only [ho, hx, hy, Sem.run_bind, Instr.storeAt, Instr.sureAddr, Sem.run_pure, Result.andThen_ok, run_storeVar_row w g t ty old c' hg hi hs h1]
  have e1 : (w.setRow g c').heap.size = w.heap.size := by simp [World.setRow]
  have e2 : ∀ k, k ≠ g → (w.setRow g c').heap[k]? = w.heap[k]? := fun k hk => by
    simp only [World.setRow, Array.getElem?_modify]
    rw [if_neg (fun e => hk e.symm)]
  have e3 : (w.setRow g c').heap[g]? = some (.cells c' t (0, 0)) := by
    simp only [World.setRow, Array.getElem?_modify, hg]
    simp
  exact hK _ _ (h _ e3 e2 e1 ⟨rfl, rfl, rfl, by omega, fun k hk => e2 k (by omega)⟩)
theorem lt_of_heap {W : World} {g : Nat} {o : Obj} (h : W.heap[g]? = some o) : g < W.heap.size := by
  rcases Nat.lt_or_ge g W.heap.size with h' | h'
  · exact h'
  · simp [Array.getElem?_eq_none h'] at h
theorem wpList_build_as {P : Program} {ops : Array Oper} {rest : List Oper} {op : Oper} {a : Act} {w : World} {Q : Exit → Act → World → Prop} (hgd : op.guard = none) (t : TypeId) (parts : Array (Nat × Operand)) (ho : op.op = .build t parts)
    (cells : Array Value) (hc : P.built t (parts.map fun (i, x) => (i, a.eval x)).toList = some cells)
    (h : wpList P ops Q rest (a.put op.dst (.agg cells)) w) : wpList P ops Q (op :: rest) a w := by
  refine wpList_plain hgd fun K hK => ?_
  unfold Oper.wp execOp
  simp only [ho, Sem.run_bind, run_build w t _ cells hc, Result.andThen_ok]
  exact hK _ _ h
theorem wpList_load_at {P : Program} {ops : Array Oper} {rest : List Oper} {op : Oper} {a : Act} {w : World} {Q : Exit → Act → World → Prop} (hgd : op.guard = none) (ty : TypeId) (x : Operand) (ho : op.op = .load ty x)
    (g o n : Nat) (hx : a.eval x = .pointer (some ⟨g, o, none⟩)) (cs : Array Value) (t : TypeId) (d : TypeDesc) (hg : w.heap[g]? = some (.cells cs t (0, 0)))
    (hu : P.underlying ty = some d) (hd : d.isRow = true) (hn : (cs.extract o (o + n)).size = n) (hi : (P.info? ty).map (·.size) = some n)
    (h : wpList P ops Q rest (a.put op.dst (.agg (cs.extract o (o + n)))) w) : wpList P ops Q (op :: rest) a w := by
  have hr := World.rangeAt_of_block hg o n
  refine wpList_load_mid hgd ty x ho g o hx (cs.extract o (o + n)).toList d hr hu hd (by rw [Array.length_toList, hn]; exact hi) ?_
  rw [Array.toArray_toList]
  exact h
theorem extract_one {cs : Array Value} (h : cs.all (·.oneCell') = true) (i j : Nat) : (cs.extract i j).all (·.oneCell') = true := by
  rw [Array.all_eq_true_iff_forall_mem] at *
  intro x hx
  obtain ⟨q, hq, rfl⟩ := Array.mem_iff_getElem.1 hx
  rw [Array.getElem_extract]
  exact h _ (Array.getElem_mem _)
theorem bcell {W w1 : World} (hb : Below W.heap.size W w1) : (∀ b o, b < W.heap.size → w1.cell? ⟨b, o, none⟩ = W.cell? ⟨b, o, none⟩) ∧ (∀ b o, b < W.heap.size → w1.frozen? ⟨b, o, none⟩ = W.frozen? ⟨b, o, none⟩) :=
  ⟨fun b o h => hb.cell (p := ⟨b, o, none⟩) h, fun b o h => hb.frozen (p := ⟨b, o, none⟩) h⟩
theorem wpList_load_want {P : Program} {ops : Array Oper} {rest : List Oper} {o : Oper} {a : Act} {w : World} {Q : Exit → Act → World → Prop} (hw : Region.wanted o (yielded ops a.tmps) = true) (ty : TypeId) (x : Operand) (ho : o.op = .load ty x)
    (g : Nat) (hx : a.eval x = .pointer (some ⟨g, 0, none⟩)) (t : TypeId) (cs : Array Value) (fr : Nat × Nat) (d : TypeDesc) (hg : w.heap[g]? = some (.cells cs t fr))
    (hu : P.underlying ty = some d) (hd : (match d with | .struct _ | .array _ _ => true | _ => false) = true) (hi : (P.info? ty).map (·.size) = some cs.size)
    (h : wpList P ops Q rest (a.put o.dst (.agg cs)) w) : wpList P ops Q (o :: rest) a w :=
  BigFrame.wpList_want hw fun _ hK => wp_load_row ty x ho g hx t cs fr d hg hu hd hi (hK _ _ h)
theorem three_last (w : World) (A B C : Obj) : (((w.alloc A).alloc B).alloc C).heap[w.heap.size + 1 + 1]? = some C := by
  have := heap_alloc_new ((w.alloc A).alloc B) C
  simpa using this
theorem wpList_load_as {P : Program} {ops : Array Oper} {rest : List Oper} {op : Oper} {a : Act} {w : World} {Q : Exit → Act → World → Prop} (hgd : op.guard = none) (ty : TypeId) (x : Operand) (ho : op.op = .load ty x)
    (g o n : Nat) (hx : a.eval x = .pointer (some ⟨g, o, none⟩)) (cs L : Array Value) (t : TypeId) (d : TypeDesc) (hg : w.heap[g]? = some (.cells cs t (0, 0)))
    (hu : P.underlying ty = some d) (hd : d.isRow = true) (hL : cs.extract o (o + n) = L) (hn : L.size = n) (hi : (P.info? ty).map (·.size) = some n)
    (h : wpList P ops Q rest (a.put op.dst (.agg L)) w) : wpList P ops Q (op :: rest) a w := by
  subst hL
  exact wpList_load_at hgd ty x ho g o n hx cs t d hg hu hd hn hi h
theorem row_setCell {w : World} {b : Nat} {cs : Array Value} {t : TypeId} (h : w.heap[b]? = some (.cells cs t (0, 0))) (o : Nat) (v : Value) : (w.setCell ⟨b, o, none⟩ v).heap[b]? = some (.cells (cs.setIfInBounds o v) t (0, 0)) := by
  have hlt : b < w.heap.size := lt_of_heap h
  have hv : w.heap[b] = .cells cs t (0, 0) := (Array.getElem?_eq_some_iff.1 h).2
  unfold World.setCell
  simp [Array.getElem?_modify, h]
/-- A row with other cells from a place on. -/
def putC : Array Value → Nat → List Value → Array Value
  | cs, _, [] => cs
  | cs, o, v :: r => putC (cs.setIfInBounds o v) (o + 1) r
theorem putC_size : ∀ (vs : List Value) (cs : Array Value) (o : Nat), (putC cs o vs).size = cs.size
  | [], _, _ => rfl
  | v :: r, cs, o => by rw [putC, putC_size r]; simp
theorem row_setCells : ∀ (vs : List Value) {w : World} {b : Nat} {cs : Array Value} {t : TypeId} (_ : w.heap[b]? = some (.cells cs t (0, 0))) (o : Nat), (w.setCells b o vs).heap[b]? = some (.cells (putC cs o vs) t (0, 0))
  | [], _, _, _, _, h, _ => h
  | v :: r, w, b, cs, t, h, o => by
    rw [World.setCells, putC]
    exact row_setCells r (row_setCell h o v) (o + 1)
theorem heap_setCells : ∀ (vs : List Value) (w : World) (b o : Nat), (w.setCells b o vs).heap.size = w.heap.size ∧ (∀ k, k ≠ b → (w.setCells b o vs).heap[k]? = w.heap[k]?) ∧ Below b w (w.setCells b o vs)
  | [], w, b, o => ⟨rfl, fun _ _ => rfl, Below.refl _ _⟩
  | v :: r, w, b, o => by
    obtain ⟨h1, h2, h3⟩ := heap_setCells r (w.setCell ⟨b, o, none⟩ v) b (o + 1)
    have e1 : (w.setCell ⟨b, o, none⟩ v).heap.size = w.heap.size := by simp [World.setCell]
    refine ⟨h1.trans e1, fun k hk => (h2 k hk).trans (Below.heap_setCell _ _ _ _ hk), ?_⟩
    have h0 : Below b w (w.setCell ⟨b, o, none⟩ v) := (Below.refl b w).setCell (Nat.le_refl _) v
    exact h0.trans h3
theorem there_row {w : World} {b : Nat} {cs : Array Value} {t : TypeId} (h : w.heap[b]? = some (.cells cs t (0, 0))) (o n : Nat) (hn : o + n ≤ cs.size) : w.there b o n := fun j hj => by
  refine ⟨?_, frozen_of_row w b _ cs t h⟩
  rw [cell_row h, Array.getElem?_eq_getElem (by omega)]; rfl
/-- A struct into the midst of a block. -/
theorem wpList_store_at {P : Program} {ops : Array Oper} {rest : List Oper} {op : Oper} {a : Act} {w : World} {Q : Exit → Act → World → Prop} (hgd : op.guard = none) (ty : TypeId) (x y : Operand) (ho : op.op = .store ty x y)
    (g o : Nat) (old c' : Array Value) (t : TypeId) (hx : a.eval x = .pointer (some ⟨g, o, none⟩)) (hy : a.eval y = .agg c') (hg : w.heap[g]? = some (.cells old t (0, 0)))
    (hi : (P.info? ty).map (·.size) = some c'.size) (hs : o + c'.size ≤ old.size) (h1 : c'.all (·.oneCell') = true)
    (h : ∀ w', w'.heap[g]? = some (.cells (putC old o c'.toList) t (0, 0)) → (∀ k, k ≠ g → w'.heap[k]? = w.heap[k]?) → w'.heap.size = w.heap.size → Below g w w' → wpList P ops Q rest (a.put op.dst undef) w') : wpList P ops Q (op :: rest) a w := by
  obtain ⟨e1, e2, e3⟩ := heap_setCells c'.toList w g o
  exact wpList_store_mid hgd ty x y ho g o c' hx hy (there_row hg o _ hs) hi h1 (h _ (row_setCells _ hg o) e2 e1 e3)
/-- A whole struct into a block: the operation. -/
theorem wp_store_row {P : Program} {op : Oper} {a : Act} {w : World} {K : Act → World → Prop} {Q : Exit → Act → World → Prop} (ty : TypeId) (x y : Operand) (ho : op.op = .store ty x y)
    (g : Nat) (old c' : Array Value) (t : TypeId) (hx : a.eval x = .pointer (some ⟨g, 0, none⟩)) (hy : a.eval y = .agg c') (hg : w.heap[g]? = some (.cells old t (0, 0)))
    (hi : (P.info? ty).map (·.size) = some c'.size) (hs : old.size = c'.size) (h1 : c'.all (·.oneCell') = true)
    (h : ∀ w', w'.heap[g]? = some (.cells c' t (0, 0)) → (∀ k, k ≠ g → w'.heap[k]? = w.heap[k]?) → w'.heap.size = w.heap.size → Below g w w' → K (a.put op.dst undef) w') : op.wp P a w K Q := by
  unfold Oper.wp execOp
  simp only [ho, hx, hy, Sem.run_bind, Instr.storeAt, Instr.sureAddr, Sem.run_pure, Result.andThen_ok, run_storeVar_row w g t ty old c' hg hi hs h1]
  have e1 : (w.setRow g c').heap.size = w.heap.size := by simp [World.setRow]
  have e2 : ∀ k, k ≠ g → (w.setRow g c').heap[k]? = w.heap[k]? := fun k hk => by
    simp only [World.setRow, Array.getElem?_modify]
    rw [if_neg (fun e => hk e.symm)]
  have e3 : (w.setRow g c').heap[g]? = some (.cells c' t (0, 0)) := by
    simp only [World.setRow, Array.getElem?_modify, hg]
    simp
  exact h _ e3 e2 e1 ⟨rfl, rfl, rfl, by omega, fun k hk => e2 k (by omega)⟩
theorem yields_loadR {ops : Array Oper} {S : World → Prop} {op : Oper} {a : Act} (hw : Region.wanted op (yielded ops a.tmps) = true) (ty : TypeId) (x : Operand) (ho : op.op = .load ty x)
    (b : Nat) (hx : a.eval x = .pointer (some ⟨b, 0, none⟩)) (t : TypeId) (cs : Array Value) (d : TypeDesc) (hS : ∀ w, S w → w.heap[b]? = some (.cells cs t (0, 0)))
    (hu : Try.prog.underlying ty = some d) (hd : d.isRow = true) (hi : (Try.prog.info? ty).map (·.size) = some cs.size) : YieldsIf Try.prog ops S op (.agg cs) a := by
  have := yieldsIf_load_mid (P := Try.prog) (ops := ops) (S := S) (op := op) (a := a) hw ty x ho b 0 hx cs.toList d (fun w hw' => by
    have h := World.rangeAt_of_block (hS w hw') 0 cs.size
    simpa using h) hu hd (by simpa using hi)
  simpa using this
theorem four_last (w : World) (A B C D : Obj) : ((((w.alloc A).alloc B).alloc C).alloc D).heap[w.heap.size + 1 + 1 + 1]? = some D := by
  have := heap_alloc_new (((w.alloc A).alloc B).alloc C) D
  simpa using this
theorem five_last (w : World) (A B C D E : Obj) : (((((w.alloc A).alloc B).alloc C).alloc D).alloc E).heap[w.heap.size + 1 + 1 + 1 + 1]? = some E := by
  have := heap_alloc_new ((((w.alloc A).alloc B).alloc C).alloc D) E
  simpa using this
theorem five_fourth (w : World) (A B C D E : Obj) : (((((w.alloc A).alloc B).alloc C).alloc D).alloc E).heap[w.heap.size + 1 + 1 + 1]? = some D := (heap_alloc_old _ _ (by simp)).trans (four_last _ _ _ _ _)
theorem five_third (w : World) (A B C D E : Obj) : (((((w.alloc A).alloc B).alloc C).alloc D).alloc E).heap[w.heap.size + 1 + 1]? = some C := (heap_alloc_old _ _ (by simp)).trans ((heap_alloc_old _ _ (by simp)).trans (three_last _ _ _ _))
theorem five_second (w : World) (A B C D E : Obj) : (((((w.alloc A).alloc B).alloc C).alloc D).alloc E).heap[w.heap.size + 1]? = some B := (heap_alloc_old _ _ (by simp)).trans ((heap_alloc_old _ _ (by simp)).trans ((heap_alloc_old _ _ (by simp)).trans (two_last _ _ _)))
theorem five_first (w : World) (A B C D E : Obj) : (((((w.alloc A).alloc B).alloc C).alloc D).alloc E).heap[w.heap.size]? = some A := (heap_alloc_old _ _ (by simp; omega)).trans (four_first _ _ _ _ _)
theorem wpList_load_atw {P : Program} {ops : Array Oper} {rest : List Oper} {op : Oper} {a : Act} {w : World} {Q : Exit → Act → World → Prop} (hw : Region.wanted op (yielded ops a.tmps) = true) (ty : TypeId) (x : Operand) (ho : op.op = .load ty x)
    (g o n : Nat) (hx : a.eval x = .pointer (some ⟨g, o, none⟩)) (cs L : Array Value) (t : TypeId) (d : TypeDesc) (hg : w.heap[g]? = some (.cells cs t (0, 0)))
    (hu : P.underlying ty = some d) (hd : d.isRow = true) (hL : cs.extract o (o + n) = L) (hn : L.size = n) (hi : (P.info? ty).map (·.size) = some n)
    (h : wpList P ops Q rest (a.put op.dst (.agg L)) w) : wpList P ops Q (op :: rest) a w := by
  subst hL
  have hr := World.rangeAt_of_block hg o n
  refine BigFrame.wpList_want hw fun K hK => ?_
  refine wp_load_mid ty x ho g o hx (cs.extract o (o + n)).toList d hr hu hd (by rw [Array.length_toList, hn]; exact hi) ?_
  rw [Array.toArray_toList]
  exact hK _ _ h
theorem wpList_build_want {P : Program} {ops : Array Oper} {rest : List Oper} {op : Oper} {a : Act} {w : World} {Q : Exit → Act → World → Prop} (hw : Region.wanted op (yielded ops a.tmps) = true) (t : TypeId) (parts : Array (Nat × Operand)) (ho : op.op = .build t parts)
    (cells : Array Value) (hc : P.built t (parts.map fun (i, x) => (i, a.eval x)).toList = some cells)
    (h : wpList P ops Q rest (a.put op.dst (.agg cells)) w) : wpList P ops Q (op :: rest) a w := by
  refine BigFrame.wpList_want hw fun K hK => ?_
  unfold Oper.wp execOp
  simp only [ho, Sem.run_bind, run_build w t _ cells hc, Result.andThen_ok]
  exact hK _ _ h
theorem putC_get : ∀ (vs : List Value) (cs : Array Value) (o j : Nat), o + vs.length ≤ cs.size → (putC cs o vs)[j]? = if j < o then cs[j]? else if j < o + vs.length then vs[j - o]? else cs[j]?
  | [], cs, o, j, _ => by
    rw [putC]; simp only [List.length_nil, Nat.add_zero]
    split <;> rfl
  | v :: r, cs, o, j, h => by
    simp only [List.length_cons] at h
    rw [putC, putC_get r _ (o + 1) j (by rw [Array.size_setIfInBounds]; omega)]
    by_cases h1 : j < o
    · rw [if_pos (by omega), if_pos h1, Array.getElem?_setIfInBounds_ne (by omega)]
    · by_cases h2 : j = o
      · subst h2
        rw [if_pos (by omega), if_neg (by omega), if_pos (by simp only [List.length_cons]; omega), Array.getElem?_setIfInBounds_self_of_lt (by omega)]
        simp
      · rw [if_neg (by omega), if_neg h1]
        by_cases h3 : j < o + 1 + r.length
        · rw [if_pos h3, if_pos (by simp only [List.length_cons]; omega), show j - o = (j - (o + 1)) + 1 by omega, List.getElem?_cons_succ]
        · rw [if_neg h3, if_neg (by simp only [List.length_cons]; omega), Array.getElem?_setIfInBounds_ne (by omega)]
theorem putC_one : ∀ (vs : List Value) (cs : Array Value) (o : Nat), cs.all (·.oneCell') = true → vs.all (·.oneCell') = true → (putC cs o vs).all (·.oneCell') = true
  | [], _, _, h, _ => h
  | v :: r, cs, o, h, hv => by
    simp only [List.all_cons, Bool.and_eq_true] at hv
    rw [putC]; exact putC_one r _ _ (set_one h hv.1) hv.2
theorem list_cons {α : Type} {l : List α} {n : Nat} (h : l.length = n + 1) : ∃ a r, l = a :: r ∧ r.length = n := by
  cases l with
  | nil => simp at h
  | cons a r => exact ⟨a, r, rfl, by simpa using h⟩
end Go.Proofs.Ytgonckbdkgiddaa.Ca
namespace Go.Proofs.Ytgonckbdkgiddaa.Ca
open Go.RowKit
theorem step_store_at {P : Program} {ops : Array Oper} {op : Oper} {a : Act} {w : World} {K : Act → World → Prop} {Q : Exit → Act → World → Prop} {E : Prop} (hgd : op.guard = none) (ty : TypeId) (x y : Operand) (ho : op.op = .store ty x y)
    (g o : Nat) (old c' : Array Value) (t : TypeId) (hx : a.eval x = .pointer (some ⟨g, o, none⟩)) (hy : a.eval y = .agg c') (hg : w.heap[g]? = some (.cells old t (0, 0)))
    (hi : (P.info? ty).map (·.size) = some c'.size) (hs : o + c'.size ≤ old.size) (h1 : c'.all (·.oneCell') = true)
    (h : ∀ w', w'.heap[g]? = some (.cells (putC old o c'.toList) t (0, 0)) → (∀ k, k ≠ g → w'.heap[k]? = w.heap[k]?) → w'.heap.size = w.heap.size → Below g w w' → K (a.put op.dst undef) w') :
    if Region.wanted op (yielded ops a.tmps) = true then Oper.wp P op a w K Q else E := by
  have hw : Region.wanted op (yielded ops a.tmps) = true := by simp [Region.wanted, hgd]
  rw [if_pos hw]
  obtain ⟨e1, e2, e3⟩ := heap_setCells c'.toList w g o
  exact wp_store_mid ty x y ho g o c' hx hy (there_row hg o _ hs) hi h1 (h _ (row_setCells _ hg o) e2 e1 e3)
theorem yields_at {ops : Array Oper} {S : World → Prop} {op : Oper} {a : Act} (hw : Region.wanted op (yielded ops a.tmps) = true) (ty : TypeId) (x : Operand) (ho : op.op = .load ty x)
    (b o n : Nat) (hx : a.eval x = .pointer (some ⟨b, o, none⟩)) (t : TypeId) (cs c : Array Value) (d : TypeDesc) (hS : ∀ w, S w → w.heap[b]? = some (.cells cs t (0, 0))) (hc : cs.extract o (o + n) = c) (hn : c.size = n)
    (hu : Try.prog.underlying ty = some d) (hd : d.isRow = true) (hi : (Try.prog.info? ty).map (·.size) = some n) : YieldsIf Try.prog ops S op (.agg c) a := by
  have := yieldsIf_load_mid (P := Try.prog) (ops := ops) (S := S) (op := op) (a := a) hw ty x ho b o hx c.toList d (fun w hw' => by
    have h := World.rangeAt_of_block (hS w hw') o n
    rw [hc] at h
    exact h) hu hd (by rw [Array.length_toList, hn]; exact hi)
  simpa using this
end Go.Proofs.Ytgonckbdkgiddaa.Ca

namespace Go.Proofs.Ytgonckbdkgiddaa
open Go.RowKit
set_option maxRecDepth 20000
set_option linter.unusedSimpArgs false
/-- What check answers. -/
def chkE (sp vni : Int) (os : List Opt) (m : Nat) : Int :=
  if fit16 sp = true ∧ 0 ≤ vni ∧ vni ≤ 16777215 then (if os.all optG = true then (if szO os ≤ 252 then (if m ≤ 9018 then 0 else 3) else 1) else 1) else 1
theorem optG_124 {os : List Opt} (h : os.all optG = true) : ∀ o ∈ os, o.data.length ≤ 124 := fun o ho => by
  have := List.all_eq_true.1 h o ho
  unfold optG at this
  simp only [Bool.and_eq_true, decide_eq_true_eq] at this
  exact this.2.2.1
set_option maxHeartbeats 4000000 in
theorem gcheck_any (src dst sp vni : Int) (oam : Bool) (a : Option Addr) (n cap : Nat) (os : List Opt) (fr : List Int) (w : World) (h : OS w a n os) :
    Calls Try.prog 17 #[.agg (tnC src dst sp vni oam a n cap fr)] w fun e w' => e = .returned (.int .i64 (chkE sp vni os fr.length)) ∧ Below w.heap.size w w' := by
  unfold tnC
  have hl := h.len
  have hr := h.room
  have H : Hid _ := h
  have hfs := strOfNums_size fr
  clear h
  by_cases c1 : fit16 sp = true
  · by_cases c2 : vni < 0
    · have HE : Hid (chkE sp vni os fr.length = 1) := by show _ = _; unfold chkE; rw [if_neg (by omega)]
      go_enter Try.func17, Try.ntmps17
      go_wp2_with fail
      refine scope_from ?_
      go_wp2_with fail
      refine (fits16_any sp _).mono ?_
      rintro e W1 ⟨rfl, rfl⟩
      rw [c1]
      go_wp2_with fail
      go_step3
      show FromLabel _ _ _ _ _ _
      refine from_label rfl ?_
      go_wp2
      simp only [Exit.jumpTo]
      go_ret
      rw [HE.out]
      exact ⟨rfl, below1 w _⟩
    by_cases c3 : 16777215 < vni
    · have HE : Hid (chkE sp vni os fr.length = 1) := by show _ = _; unfold chkE; rw [if_neg (by omega)]
      go_enter Try.func17, Try.ntmps17
      go_wp2_with fail
      refine scope_from ?_
      go_wp2_with fail
      refine (fits16_any sp _).mono ?_
      rintro e W1 ⟨rfl, rfl⟩
      rw [c1]
      go_wp2_with fail
      go_step3
      show FromLabel _ _ _ _ _ _
      refine from_label rfl ?_
      go_wp2
      simp only [Exit.jumpTo]
      go_ret
      rw [HE.out]
      exact ⟨rfl, below1 w _⟩
    have HE : Hid (chkE sp vni os fr.length = if os.all optG = true then (if szO os ≤ 252 then (if fr.length ≤ 9018 then 0 else 3) else 1) else 1) := by
      show _ = _
      unfold chkE
      rw [if_pos ⟨c1, by omega, by omega⟩]
    go_enter Try.func17, Try.ntmps17
    go_wp2_with fail
    refine scope_from ?_
    go_wp2_with fail
    refine (fits16_any sp _).mono ?_
    rintro e W1 ⟨rfl, rfl⟩
    rw [c1]
    go_wp2_with fail
    have A0 : Hid ((w.alloc (.cells #[.int .u32 src, .int .u32 dst, .int .i64 sp, .int .i64 vni, .bool oam, .slice a n cap, .string (strOfNums fr)] 25)).heap[w.heap.size]? = some (.cells #[.int .u32 src, .int .u32 dst, .int .i64 sp, .int .i64 vni, .bool oam, .slice a n cap, .string (strOfNums fr)] 25 (0, 0))) := heap_alloc_new w _
    go_loopw [23] (fun i wr => ∃ k : Nat, k ≤ n ∧ i = .int .i64 k ∧ Hid ((os.take k).all optG = true) ∧ Below w.heap.size w wr ∧ wr.heap[w.heap.size]? = some (.cells #[.int .u32 src, .int .u32 dst, .int .i64 sp, .int .i64 vni, .bool oam, .slice a n cap, .string (strOfNums fr)] 25 (0, 0))) (fun i _ => n - (intOf i).toNat)
    case atStart => exact ⟨0, by omega, rfl, rfl, below1 w _, A0.out⟩
    case round =>
      obtain ⟨k, hk, rfl, hall, hb, hA⟩ := hrel
      have HB : Hid _ := hb
      have HA : Hid _ := hA
      by_cases hlt : k = n
      · have e0 : ¬ (k : Int) < (n : Int) := by omega
        have hfull : os.all optG = true := by
          have := hall.out
          rw [List.take_of_length_le (by omega)] at this
          exact this
        have c5 := cell_of_row wr w.heap.size 5 _ 25 (0, 0) hA
        have c6 := cell_of_row wr w.heap.size 6 _ 25 (0, 0) hA
        simp only [List.getElem?_toArray, List.getElem?_cons_succ, List.getElem?_cons_zero] at c5 c6
        clear hlt hb hA hall A0
        go_wp2_with fail
        refine (gsize_any a n cap os wr (H.out.below HB.out) (optG_124 hfull)).mono ?_
        rintro e W2 ⟨rfl, hb2⟩
        have HB2 : Hid _ := HB.out.trans (hb2.mono HB.out.size)
        have hA2 := (hb2.block _ (Ca.lt_of_heap HA.out)).trans HA.out
        have d6 := cell_of_row W2 w.heap.size 6 _ 25 (0, 0) hA2
        simp only [List.getElem?_toArray, List.getElem?_cons_succ, List.getElem?_cons_zero] at d6
        have HEE : Hid (chkE sp vni os fr.length = if szO os ≤ 252 then (if fr.length ≤ 9018 then 0 else 3) else 1) := by
          show _ = _
          rw [HE.out, if_pos hfull]
        clear hb2 hA2 HA HE c5 c6 hfull
        by_cases c9 : 252 < szO os
        · have HF : Hid (chkE sp vni os fr.length = 1) := by show _ = _; rw [HEE.out, if_neg (by omega)]
          clear HEE
          go_wp2_with fail
          go_step3
          show FromLabel _ _ _ _ _ _
          refine from_label rfl ?_
          go_wp2
          simp only [Exit.jumpTo]
          go_ret
          rw [HF.out]
          exact ⟨rfl, HB2.out⟩
        by_cases c10 : 9018 < fr.length
        · have HF : Hid (chkE sp vni os fr.length = 3) := by show _ = _; rw [HEE.out, if_pos (by omega), if_neg (by omega)]
          have hgt : (9018 : Int) < ((strOfNums fr).size : Int) := by rw [hfs]; omega
          clear HEE
          go_wp2_with fail
          go_step3
          show FromLabel _ _ _ _ _ _
          refine from_label rfl ?_
          go_wp2
          simp only [Exit.jumpTo]
          go_ret
          rw [HF.out]
          exact ⟨rfl, HB2.out⟩
        · have HF : Hid (chkE sp vni os fr.length = 0) := by show _ = _; rw [HEE.out, if_pos (by omega), if_pos (by omega)]
          have hgt : ¬ (9018 : Int) < ((strOfNums fr).size : Int) := by rw [hfs]; omega
          clear HEE
          go_wp2
          simp only [Exit.jumpTo]
          go_ret
          rw [HF.out]
          exact ⟨rfl, HB2.out⟩
      · have hkI : (k : Int) < (n : Int) := by omega
        obtain ⟨o, b, off, ho, rfl, c0, c1', c2', hbl, hfit, hlen⟩ := os_cell (H.out.below hb) (show k < n by omega)
        have hs := strOfNums_size o.data
        have HT : Hid ((os.take (k + 1)).all optG = ((os.take k).all optG && optG o)) := by show _ = _; rw [take_snocO ho, List.all_append]; simp
        have HN : Hid (optG o = false → chkE sp vni os fr.length = 1) := fun hf => by
          have : os.all optG = false := by
            rw [Bool.eq_false_iff]; intro h
            have := List.all_eq_true.1 h o (List.mem_of_getElem? ho)
            rw [hf] at this; cases this
          rw [HE.out, this]; rfl
        have HG : Hid (optG o = (fit16 o.cls && (fit8 o.code && (decide (o.data.length ≤ 124) && decide (o.data.length % 4 = 0))))) := rfl
        have HR : Hid (Below w.heap.size w (wr.alloc (.cells #[.int .i64 o.cls, .int .i64 o.code, .string (strOfNums o.data)] 38))) := hb.alloc hb.size _
        have HRA : Hid ((wr.alloc (.cells #[.int .i64 o.cls, .int .i64 o.code, .string (strOfNums o.data)] 38)).heap[w.heap.size]? = some (.cells #[.int .u32 src, .int .u32 dst, .int .i64 sp, .int .i64 vni, .bool oam, .slice (some ⟨b, off, none⟩) n cap, .string (strOfNums fr)] 25 (0, 0))) := ((below1 wr _).block _ (Ca.lt_of_heap hA)).trans hA
        have hne : ¬ b = wr.heap.size := by omega
        generalize optG o = og at *
        generalize o.cls = oc at *
        generalize o.code = od at *
        generalize o.data = ds at *
        clear ho hfit hlen hb hA A0
        go_wp2_with fail
        refine (fits16_any oc _).mono ?_
        rintro e W2 ⟨rfl, rfl⟩
        cases d1 : fit16 oc
        · have hof : og = false := by rw [HG.out, d1]; rfl
          go_wp2_with fail
          go_step3
          show FromLabel _ _ _ _ _ _
          refine from_label rfl ?_
          go_wp2
          simp only [Exit.jumpTo]
          go_ret
          rw [HN.out hof]
          exact ⟨rfl, HR.out⟩
        go_wp2_with fail
        refine (fits8_any od _).mono ?_
        rintro e W2 ⟨rfl, rfl⟩
        cases d2 : fit8 od
        · have hof : og = false := by rw [HG.out, d1, d2]; rfl
          go_wp2_with fail
          go_step3
          show FromLabel _ _ _ _ _ _
          refine from_label rfl ?_
          go_wp2
          simp only [Exit.jumpTo]
          go_ret
          rw [HN.out hof]
          exact ⟨rfl, HR.out⟩
        by_cases d3 : 124 < ds.length
        · have hof : og = false := by rw [HG.out, d1, d2, show decide (ds.length ≤ 124) = false by simp; omega]; rfl
          have hgt : (124 : Int) < ((ds.length : Nat) : Int) := by omega
          go_wp2_with fail
          go_step3
          show FromLabel _ _ _ _ _ _
          refine from_label rfl ?_
          go_wp2
          simp only [Exit.jumpTo]
          go_ret
          rw [HN.out hof]
          exact ⟨rfl, HR.out⟩
        by_cases d4 : ds.length % 4 = 0
        · have hot : og = true := by rw [HG.out, d1, d2, show decide (ds.length ≤ 124) = true by simp; omega, show decide (ds.length % 4 = 0) = true by simp; omega]; rfl
          have hm : (((ds.length : Nat) : Int) % 4 != 0) = false := by simp; omega
          have hgl : ((ds.length : Nat) : Int) ≤ 124 := by omega
          have HAL : Hid ((os.take (k + 1)).all optG = true) := by show _ = _; rw [HT.out, hall.out, hot]; rfl
          clear HT HG HN hot
          go_wp2
          go_roundw
          case rel => exact ⟨k + 1, by omega, by go_num, HAL, HR.out, HRA.out⟩
          case measure => simp [intOf]; omega
        · have hof : og = false := by rw [HG.out, d1, d2, show decide (ds.length % 4 = 0) = false by simp; omega]; simp
          have hm : (((ds.length : Nat) : Int) % 4 != 0) = true := by simp; omega
          have hgl : ((ds.length : Nat) : Int) ≤ 124 := by omega
          go_wp2_with fail
          go_step3
          show FromLabel _ _ _ _ _ _
          refine from_label rfl ?_
          go_wp2
          simp only [Exit.jumpTo]
          go_ret
          rw [HN.out hof]
          exact ⟨rfl, HR.out⟩
  · have c1' : fit16 sp = false := by simpa using c1
    have HE : Hid (chkE sp vni os fr.length = 1) := by show _ = _; unfold chkE; rw [if_neg (fun h => c1 h.1)]
    go_enter Try.func17, Try.ntmps17
    go_wp2_with fail
    refine scope_from ?_
    go_wp2_with fail
    refine (fits16_any sp _).mono ?_
    rintro e W1 ⟨rfl, rfl⟩
    rw [c1']
    go_wp2_with fail
    go_step3
    show FromLabel _ _ _ _ _ _
    refine from_label rfl ?_
    go_wp2
    simp only [Exit.jumpTo]
    go_ret
    rw [HE.out]
    exact ⟨rfl, below1 w _⟩
end Go.Proofs.Ytgonckbdkgiddaa
