/- The number token at a text's beginning (lex.readNumber). Conditions: the text is not empty, of at most 2^48 bytes; the library's two errors lie where the program's text lays them. -/
import Derived.Test.YtajjffjnnjklnaaDoorShelf
import Derived.Test.YtajjffjnnjklnaaDoorLM
import Derived.Test.YtajjffjnnjklnaaDoorLK
import Derived.Deep.MidRow
namespace Go.Proofs.YtajjffjnnjklnaaDoor
open Go.Shelf Go.RowKit
theorem cells4 {W : World} {g : Nat} {x0 x1 x2 x3 : Value} {t : TypeId} (h : W.heap[g]? = some (.cells #[x0, x1, x2, x3] t (0, 0))) : W.cell? ⟨g, 0, none⟩ = some x0 ∧ W.cell? ⟨g, 1, none⟩ = some x1 ∧ W.cell? ⟨g, 2, none⟩ = some x2 ∧ W.cell? ⟨g, 3, none⟩ = some x3 ∧ W.frozen? ⟨g, 0, none⟩ = false ∧ W.frozen? ⟨g, 1, none⟩ = false ∧ W.frozen? ⟨g, 2, none⟩ = false ∧ W.frozen? ⟨g, 3, none⟩ = false := by
  refine ⟨?_, ?_, ?_, ?_, ?_, ?_, ?_, ?_⟩ <;> simp [World.cell?, World.frozen?, h]
theorem set1 {W : World} {g : Nat} {cs : Array Value} {t : TypeId} (h : W.heap[g]? = some (.cells cs t (0, 0))) (o : Nat) (v : Value) : (W.setCell ⟨g, o, none⟩ v).heap[g]? = some (.cells (cs.setIfInBounds o v) t (0, 0)) := by
  simp [World.setCell, Array.getElem?_modify, h]
theorem set4 {W : World} {g : Nat} {x0 x1 x2 x3 : Value} {t : TypeId} (h : W.heap[g]? = some (.cells #[x0, x1, x2, x3] t (0, 0))) {v0 v1 v2 v3 : Value} : ((((W.setCell ⟨g, 0, none⟩ v0).setCell ⟨g, 1, none⟩ v1).setCell ⟨g, 2, none⟩ v2).setCell ⟨g, 3, none⟩ v3).heap[g]? = some (.cells #[v0, v1, v2, v3] t (0, 0)) :=
  set1 (set1 (set1 (set1 h 0 v0) 1 v1) 2 v2) 3 v3
theorem set4_below (W : World) (g : Nat) (v0 v1 v2 v3 : Value) : Below g W ((((W.setCell ⟨g, 0, none⟩ v0).setCell ⟨g, 1, none⟩ v1).setCell ⟨g, 2, none⟩ v2).setCell ⟨g, 3, none⟩ v3) := by
  have q : ∀ (W : World) o v, Below g W (W.setCell ⟨g, o, none⟩ v) := fun W o v => (Below.refl g W).setCell (p := ⟨g, o, none⟩) (Nat.le_refl g) v
  exact (((q _ _ _).trans (q _ _ _)).trans (q _ _ _)).trans (q _ _ _)
/-- A token. -/
structure Tk where
  k : Int
  t : ByteArray
  n : Int
  a : Int
def Tk.c (x : Tk) : Array Value := tokC x.k x.t x.n x.a
def tz : Tk := ⟨0, ⟨#[]⟩, 0, 0⟩
def decN (bs : List UInt8) : Option Nat := match Lib.parseUintB 64 bs with | .ok n => some n | _ => none
def isX (s : ByteArray) : Bool := Lib.hasPrefix s.data.toList [48, 120]
def hexRun (s : ByteArray) : Nat := min (runS (s.extract 2 s.size) hexB) 16
def hexP (d : ByteArray) : Option Nat := if d.size = 0 then none else some (hexN 0 d.data.toList)
def with9 (k : Nat) (o : Option Nat) : Option (Nat × Nat) := match o with | some v => some (k, v) | none => none
/-- A number's size and value. -/
def numP (s : ByteArray) : Option (Nat × Nat) :=
  if 1 < runS s digB ∧ byt s 0 = 48 then none
  else if isX s = true then with9 (2 + hexRun s) (hexP (s.extract 2 (2 + hexRun s)))
  else with9 (runS s digB) (decN (s.extract 0 (runS s digB)).data.toList)
def fin9 (s : ByteArray) (o : Option (Nat × Nat)) : Tk × Nat := match o with | none => (tz, 0) | some r => if r.1 < s.size ∧ wordB (byt s r.1) = true then (tz, 0) else (⟨2, s.extract 0 r.1, r.2, 0⟩, r.1)
def tkNum (s : ByteArray) : Tk × Nat := fin9 s (numP s)
/-- The library's two errors lie in their variables. -/
structure Errs (w : World) : Prop where
  syn : ∃ T p, w.cell? ⟨1, 0, none⟩ = some (.iface T p)
  rng : ∃ T p, w.cell? ⟨2, 0, none⟩ = some (.iface T p)
theorem Errs.below {w w' : World} (h : Errs w) (hb : Below w.heap.size w w') : Errs w' := by
  obtain ⟨⟨T, p, h1⟩, ⟨T2, p2, h2⟩⟩ := h
  exact ⟨⟨T, p, (hb.cell (cell_lt h1)).trans h1⟩, ⟨T2, p2, (hb.cell (cell_lt h2)).trans h2⟩⟩
theorem Errs.alloc {w : World} (h : Errs w) (o : Obj) : Errs (w.alloc o) := h.below ((Below.refl _ _).alloc (Nat.le_refl _) _)
/-- What ParseUint answers. -/
def PUans (o : Option Nat) (e : Ending) : Prop := match o with | some n => e = .returned (.tuple #[.int .u64 (n : Nat), .nilIface]) | none => ∃ x T p, e = .returned (.tuple #[.int .u64 x, .iface T p])
theorem parse_dec (d : ByteArray) (hd : d.size ≤ 281474976710656) (w : World) (E : Errs w) :
    Calls Tryd.prog 35 #[.string d, .int .i64 10, .int .i64 64] w fun e w' => PUans (decN d.data.toList) e ∧ Below w.heap.size w w' := by
  unfold decN
  cases h : Lib.parseUintB 64 d.data.toList with
  | ok u =>
    refine (Tryd.strconv_ParseUint_10_at64_ok d (by omega) u h w).mono ?_
    rintro e w' ⟨rfl, hw⟩
    refine ⟨rfl, ?_⟩
    rcases hw with rfl | rfl
    · exact Below.refl _ _
    · exact Lib.bytesWorld_below _ _ _
  | «syntax» =>
    obtain ⟨T, p, hc⟩ := E.syn
    refine (Tryd.strconv_ParseUint_10_at64_syntax d hd h _ w hc (.inr ⟨T, p, rfl⟩)).mono ?_
    rintro e w' ⟨N, rfl, _, _, hb⟩
    exact ⟨⟨_, _, _, rfl⟩, hb⟩
  | range =>
    obtain ⟨T, p, hc⟩ := E.rng
    refine (Tryd.strconv_ParseUint_10_at64_range d hd h _ w hc (.inr ⟨T, p, rfl⟩)).mono ?_
    rintro e w' ⟨N, rfl, _, _, hb⟩
    exact ⟨⟨_, _, _, rfl⟩, hb⟩
theorem parse_hex (d : ByteArray) (hd : d.size ≤ 16) (hx : ∀ c ∈ d.data.toList, hexOk c) (w : World) (E : Errs w) :
    Calls Tryd.prog 35 #[.string d, .int .i64 16, .int .i64 64] w fun e w' => PUans (hexP d) e ∧ Below w.heap.size w w' := by
  unfold hexP
  by_cases h0 : d.size = 0
  · have hs : d = ⟨#[]⟩ := by
      apply ByteArray.ext
      exact Array.eq_empty_of_size_eq_zero h0
    obtain ⟨T, p, hc⟩ := E.syn
    rw [if_pos h0, hs]
    refine (parse16_empty Tryd.laysPu14 _ w hc (.inr ⟨T, p, rfl⟩)).mono ?_
    rintro e w' ⟨N, rfl, hb⟩
    exact ⟨⟨_, _, _, rfl⟩, hb⟩
  · rw [if_neg h0]
    refine (parse16_ok Tryd.laysPu14 d h0 hd hx w).mono ?_
    rintro e w' ⟨rfl, rfl⟩
    exact ⟨rfl, Lib.bytesWorld_below _ _ _⟩
theorem runFrom_all (s : ByteArray) (B : Int → Bool) : ∀ (n k j : Nat), k ≤ j → j < runFrom s B k n → B (byt s j) = true
  | 0, k, j, h1, h2 => by unfold runFrom at h2; omega
  | n + 1, k, j, h1, h2 => by
    unfold runFrom at h2
    split at h2
    · rename_i hB
      rcases Nat.lt_or_ge k j with h | h
      · exact runFrom_all s B n (k + 1) j h h2
      · rw [show j = k by omega]; exact hB
    · omega
theorem runS_all {s : ByteArray} {B : Int → Bool} {j : Nat} (h : j < runS s B) : B (byt s j) = true := runFrom_all s B s.size 0 j (Nat.zero_le _) h
theorem byt_val (s : ByteArray) (j : Nat) (h : j < s.size) : byt s j = ((s.data.toList[j]'(by simpa using h)).toNat : Int) := by
  rw [← byt_eq s j h]; rfl
theorem hex_all (s : ByteArray) (k : Nat) (hk : k ≤ runS (s.extract 2 s.size) hexB) : ∀ c ∈ (s.extract 2 (2 + k)).data.toList, hexOk c := by
  intro c hc
  have hb := runS_b (s.extract 2 s.size) hexB
  have hsz : (s.extract 2 s.size).size = s.size - 2 := by simp
  obtain ⟨j, hj, rfl⟩ := List.getElem_of_mem hc
  have hj2 : j < (s.extract 2 (2 + k)).size := by rw [Array.length_toList] at hj; exact hj
  have hj3 : j < k := by rw [ByteArray.size_extract] at hj2; omega
  have h1 := runS_all (Nat.lt_of_lt_of_le hj3 hk)
  have e1 := byt_val (s.extract 2 (2 + k)) j hj2
  have e2 : byt (s.extract 2 (2 + k)) j = byt (s.extract 2 s.size) j := by
    rw [e1, byt_val _ j (by omega)]
    simp
  rw [← e2, e1] at h1
  unfold hexB digB at h1
  unfold hexOk
  simp only [Bool.or_eq_true, Bool.and_eq_true, decide_eq_true_eq] at h1
  generalize (s.extract 2 (2 + k)).data.toList[j] = c9 at *
  omega
set_option maxRecDepth 20000 in
set_option maxHeartbeats 8000000 in
theorem readNumber_any (s : ByteArray) (hs : s.size ≤ 281474976710656) (h0 : 0 < s.size) (w : World) (E : Errs w) :
    Calls Tryd.prog 20 #[.string s] w fun e w' => e = .returned (.tuple #[.agg (tkNum s).1.c, .int .i64 ((tkNum s).2 : Nat)]) ∧ Below w.heap.size w w' := by
  have HRU : Hid (∀ W, Calls Tryd.prog 31 #[.string s, fnV 30] W fun e w' => e = .returned (.int .i64 (runS s digB : Nat)) ∧ w' = W) := fun W => run_any s (by unfold maxLen; omega) digB 30 (fun args W => by simp [go_sem]) (fun c _ _ W => isDigit_any c W) W
  have HRX : Hid (∀ W, Calls Tryd.prog 31 #[.string (s.extract 2 s.size), fnV 34] W fun e w' => e = .returned (.int .i64 (runS (s.extract 2 s.size) hexB : Nat)) ∧ w' = W) := fun W => run_any _ (by unfold maxLen; simp; omega) hexB 34 (fun args W => by simp [go_sem]) (fun c _ _ W => isHexDigit_any c W) W
  have HHP : Hid (∀ W, Calls Tryd.prog 33 #[.string s, .string ⟨#[48, 120]⟩] W fun e w' => e = .returned (.bool (isX s)) ∧ w' = W) := fun W => Tryd.strings_HasPrefix s ⟨#[48, 120]⟩ W
  have HWD : Hid (∀ k W, Calls Tryd.prog 36 #[.int .u8 (byt s k)] W fun e w' => e = .returned (.bool (wordB (byt s k))) ∧ w' = W) := fun k W => isWord_any _ W
  have hx2 : isX s = true → 2 ≤ s.size := by
    intro h
    unfold isX Lib.hasPrefix at h
    have := (List.isPrefixOf_iff_prefix.1 h).length_le
    simp at this
    omega
  have hxn : isX s = true → ¬ 1 < runS s digB := fun hX hn => by
    have hb := runS_all (B := digB) hn
    have hl := hx2 hX
    unfold isX Lib.hasPrefix at hX
    obtain ⟨r9, hr9⟩ := List.isPrefixOf_iff_prefix.1 hX
    rw [byt_val s 1 (by omega)] at hb
    have : s.data.toList[1]? = some 120 := by rw [← hr9]; rfl
    have h1 : s.data.toList[1]'(by simpa using (by omega : 1 < s.size)) = 120 := by
      have := List.getElem?_eq_some_iff.1 this
      exact this.2
    rw [h1] at hb
    exact absurd hb (by decide)
  have hrb := runS_b s digB
  have hrx := runS_b (s.extract 2 s.size) hexB
  rw [show (s.extract 2 s.size).size = s.size - 2 by simp] at hrx
  have h0I : (0 : Int) < s.size := by omega
  have hc0 := byt_eq s 0 h0
  have HR : Hid (tkNum s = fin9 s (if 1 < runS s digB ∧ byt s 0 = 48 then none
  else if isX s = true then with9 (2 + hexRun s) (hexP (s.extract 2 (2 + hexRun s)))
  else with9 (runS s digB) (decN (s.extract 0 (runS s digB)).data.toList))) := rfl
  have HPD : Hid (∀ W, Errs W → Calls Tryd.prog 35 #[.string (s.extract 0 (runS s digB)), .int .i64 10, .int .i64 64] W fun e w' => PUans (decN (s.extract 0 (runS s digB)).data.toList) e ∧ Below W.heap.size W w') := fun W E => parse_dec _ (by simp; omega) W E
  have HPX : Hid (∀ W, Errs W → Calls Tryd.prog 35 #[.string (s.extract 2 (2 + hexRun s)), .int .i64 16, .int .i64 64] W fun e w' => PUans (hexP (s.extract 2 (2 + hexRun s))) e ∧ Below W.heap.size W w') := by
    show ∀ W, _
    intro W E
    have hh : hexRun s ≤ 16 := by unfold hexRun; omega
    exact parse_hex _ (by simp; omega) (hex_all s _ (by unfold hexRun; omega)) W E
  have HX : Hid (hexRun s = min (runS (s.extract 2 s.size) hexB) 16) := rfl
  have E2 : Hid (∀ o, Errs (w.alloc o)) := fun o => E.alloc o
  obtain ⟨n, hn⟩ : ∃ n, runS s digB = n := ⟨_, rfl⟩
  rw [hn] at HRU HR hrb HPD hxn
  obtain ⟨h, hh⟩ : ∃ h, runS (s.extract 2 s.size) hexB = h := ⟨_, rfl⟩
  rw [hh] at HRX hrx HX
  obtain ⟨c, hcc⟩ : ∃ c, byt s 0 = c := ⟨_, rfl⟩
  rw [hcc] at hc0 HR
  have hrbI : (n : Int) ≤ s.size := by omega
  clear hcc hn hh E
  by_cases hz : 1 < n ∧ c = 48
  · obtain ⟨h1, h2⟩ := hz
    have h1I : (1 : Int) < n := by omega
    have hq : (c == 48) = true := by simp [h2]
    have HZ : Hid (tkNum s = (tz, 0)) := by show _ = _; rw [HR.out, if_pos ⟨h1, h2⟩]; rfl
    clear HR HRX HHP HWD HPD HPX HX E2 hx2 h2 hxn
    go_enter Tryd.func20, Tryd.ntmps20
    go_wp2_with fail
    refine (HRU.out _).mono ?_
    rintro e W ⟨rfl, hw⟩
    rw [hw]
    clear hw
    go_wp2
    refine bodyPost_ret (results_tok (p := 2) (u := 3) rfl _ _ w.heap.size _ rfl (heap_alloc_new _ _) rfl) rfl ⟨?_, (Below.refl _ _).alloc (Nat.le_refl _) _⟩
    rw [HZ.out]; rfl
  rw [if_neg hz] at HR
  by_cases h1 : 1 < n
  · have h1I : (1 : Int) < n := by omega
    have hq : (c == 48) = false := by
      have : c ≠ 48 := fun q => hz ⟨h1, q⟩
      simp [this]
    clear hz
    cases hb : isX s
    · rw [hb] at HHP HR
      clear hb
      rw [if_neg (fun q => Bool.noConfusion q)] at HR
      clear HRX HPX HX hx2
      obtain ⟨o, ho⟩ : ∃ o, decN (s.extract 0 n).data.toList = o := ⟨_, rfl⟩
      rw [ho] at HPD HR
      clear ho
      have HP := HPD
      clear HPD
      go_enter Tryd.func20, Tryd.ntmps20
      go_wp2_with fail
      refine (HRU.out _).mono ?_
      rintro e W ⟨rfl, hw⟩
      rw [hw]
      clear hw
      go_wp2_with fail
      refine (HHP.out _).mono ?_
      rintro e W ⟨rfl, hw⟩
      rw [hw]
      clear hw
      clear HRU HHP
      go_wp2_with fail
      refine (HP.out _ (E2.out _)).mono ?_
      clear HP
      rintro e W ⟨hpu, hbw⟩
      have HBw : Hid (Below w.heap.size w W) := Lib.hid (((Below.refl _ _).alloc (Nat.le_refl _) _).trans (hbw.mono (by simp)))
      have HB0 := (hbw.block w.heap.size (by simp)).trans (heap_alloc_new _ _)
      have HB : Hid _ := Lib.hid HB0
      obtain ⟨q0, q1, q2, q3, r0, r1, r2, r3⟩ := cells4 HB0
      clear HB0
      clear hbw E2
      cases o with
      | none =>
        obtain ⟨x9, T9, p9, rfl⟩ := hpu
        have HZ : Hid (tkNum s = (tz, 0)) := by show _ = _; rw [HR.out]; rfl
        clear HR HWD
        go_wp2
        refine bodyPost_ret (results_tok (p := 2) (u := 3) rfl _ _ w.heap.size _ rfl (set4 HB.out) rfl) rfl ⟨?_, HBw.out.trans (set4_below _ _ _ _ _ _)⟩
        rw [HZ.out]; rfl
      | some v9 =>
        have hpu : e = .returned (.tuple #[.int .u64 (v9 : Nat), .nilIface]) := hpu
        subst hpu
        have HR2 : Hid (tkNum s = if n < s.size ∧ wordB (byt s (n)) = true then (tz, 0) else (⟨2, s.extract 0 (n), v9, 0⟩, n)) := HR.out
        clear HR
        by_cases hlt : n < s.size
        · have hltI : (n : Int) < s.size := by omega
          have hck := byt_eq s (n) hlt
          have HW := Lib.hid (HWD.out (n))
          obtain ⟨d, hd⟩ : ∃ d, byt s (n) = d := ⟨_, rfl⟩
          rw [hd] at hck HW HR2
          obtain ⟨b9, hb9⟩ : ∃ b9, wordB d = b9 := ⟨_, rfl⟩
          rw [hb9] at HW HR2
          clear hd hb9 HWD
          cases b9
          · have HZ : Hid (tkNum s = (⟨2, s.extract 0 (n), v9, 0⟩, n)) := by show _ = _; rw [HR2.out, if_neg (fun q => Bool.noConfusion q.2)]
            clear HR2
            go_wp2_with fail
            refine (HW.out _).mono ?_
            rintro e W ⟨rfl, hw⟩
            rw [hw]
            clear hw
            go_wp2
            refine bodyPost_ret (results_tok (p := 2) (u := 3) rfl _ _ w.heap.size _ rfl (set4 HB.out) rfl) rfl ⟨?_, HBw.out.trans (set4_below _ _ _ _ _ _)⟩
            rw [HZ.out]; rfl
          · have HZ : Hid (tkNum s = (tz, 0)) := by show _ = _; rw [HR2.out, if_pos ⟨hlt, rfl⟩]
            clear HR2
            go_wp2_with fail
            refine (HW.out _).mono ?_
            rintro e W ⟨rfl, hw⟩
            rw [hw]
            clear hw
            go_wp2
            refine bodyPost_ret (results_tok (p := 2) (u := 3) rfl _ _ w.heap.size _ rfl (set4 HB.out) rfl) rfl ⟨?_, HBw.out.trans (set4_below _ _ _ _ _ _)⟩
            rw [HZ.out]; rfl
        · have hltI : ¬ (n : Int) < s.size := by omega
          have HZ : Hid (tkNum s = (⟨2, s.extract 0 (n), v9, 0⟩, n)) := by show _ = _; rw [HR2.out, if_neg (fun q => hlt q.1)]
          clear HR2 HWD
          go_wp2
          refine bodyPost_ret (results_tok (p := 2) (u := 3) rfl _ _ w.heap.size _ rfl (set4 HB.out) rfl) rfl ⟨?_, HBw.out.trans (set4_below _ _ _ _ _ _)⟩
          rw [HZ.out]; rfl
    · exfalso
      exact hxn hb (by omega)
  · have h1I : ¬ (1 : Int) < n := by omega
    clear hz
    cases hb : isX s
    · rw [hb] at HHP HR
      clear hb
      rw [if_neg (fun q => Bool.noConfusion q)] at HR
      clear HRX HPX HX hx2
      obtain ⟨o, ho⟩ : ∃ o, decN (s.extract 0 n).data.toList = o := ⟨_, rfl⟩
      rw [ho] at HPD HR
      clear ho
      have HP := HPD
      clear HPD
      go_enter Tryd.func20, Tryd.ntmps20
      go_wp2_with fail
      refine (HRU.out _).mono ?_
      rintro e W ⟨rfl, hw⟩
      rw [hw]
      clear hw
      go_wp2_with fail
      refine (HHP.out _).mono ?_
      rintro e W ⟨rfl, hw⟩
      rw [hw]
      clear hw
      clear HRU HHP
      go_wp2_with fail
      refine (HP.out _ (E2.out _)).mono ?_
      clear HP
      rintro e W ⟨hpu, hbw⟩
      have HBw : Hid (Below w.heap.size w W) := Lib.hid (((Below.refl _ _).alloc (Nat.le_refl _) _).trans (hbw.mono (by simp)))
      have HB0 := (hbw.block w.heap.size (by simp)).trans (heap_alloc_new _ _)
      have HB : Hid _ := Lib.hid HB0
      obtain ⟨q0, q1, q2, q3, r0, r1, r2, r3⟩ := cells4 HB0
      clear HB0
      clear hbw E2
      cases o with
      | none =>
        obtain ⟨x9, T9, p9, rfl⟩ := hpu
        have HZ : Hid (tkNum s = (tz, 0)) := by show _ = _; rw [HR.out]; rfl
        clear HR HWD
        go_wp2
        refine bodyPost_ret (results_tok (p := 2) (u := 3) rfl _ _ w.heap.size _ rfl (set4 HB.out) rfl) rfl ⟨?_, HBw.out.trans (set4_below _ _ _ _ _ _)⟩
        rw [HZ.out]; rfl
      | some v9 =>
        have hpu : e = .returned (.tuple #[.int .u64 (v9 : Nat), .nilIface]) := hpu
        subst hpu
        have HR2 : Hid (tkNum s = if n < s.size ∧ wordB (byt s (n)) = true then (tz, 0) else (⟨2, s.extract 0 (n), v9, 0⟩, n)) := HR.out
        clear HR
        by_cases hlt : n < s.size
        · have hltI : (n : Int) < s.size := by omega
          have hck := byt_eq s (n) hlt
          have HW := Lib.hid (HWD.out (n))
          obtain ⟨d, hd⟩ : ∃ d, byt s (n) = d := ⟨_, rfl⟩
          rw [hd] at hck HW HR2
          obtain ⟨b9, hb9⟩ : ∃ b9, wordB d = b9 := ⟨_, rfl⟩
          rw [hb9] at HW HR2
          clear hd hb9 HWD
          cases b9
          · have HZ : Hid (tkNum s = (⟨2, s.extract 0 (n), v9, 0⟩, n)) := by show _ = _; rw [HR2.out, if_neg (fun q => Bool.noConfusion q.2)]
            clear HR2
            go_wp2_with fail
            refine (HW.out _).mono ?_
            rintro e W ⟨rfl, hw⟩
            rw [hw]
            clear hw
            go_wp2
            refine bodyPost_ret (results_tok (p := 2) (u := 3) rfl _ _ w.heap.size _ rfl (set4 HB.out) rfl) rfl ⟨?_, HBw.out.trans (set4_below _ _ _ _ _ _)⟩
            rw [HZ.out]; rfl
          · have HZ : Hid (tkNum s = (tz, 0)) := by show _ = _; rw [HR2.out, if_pos ⟨hlt, rfl⟩]
            clear HR2
            go_wp2_with fail
            refine (HW.out _).mono ?_
            rintro e W ⟨rfl, hw⟩
            rw [hw]
            clear hw
            go_wp2
            refine bodyPost_ret (results_tok (p := 2) (u := 3) rfl _ _ w.heap.size _ rfl (set4 HB.out) rfl) rfl ⟨?_, HBw.out.trans (set4_below _ _ _ _ _ _)⟩
            rw [HZ.out]; rfl
        · have hltI : ¬ (n : Int) < s.size := by omega
          have HZ : Hid (tkNum s = (⟨2, s.extract 0 (n), v9, 0⟩, n)) := by show _ = _; rw [HR2.out, if_neg (fun q => hlt q.1)]
          clear HR2 HWD
          go_wp2
          refine bodyPost_ret (results_tok (p := 2) (u := 3) rfl _ _ w.heap.size _ rfl (set4 HB.out) rfl) rfl ⟨?_, HBw.out.trans (set4_below _ _ _ _ _ _)⟩
          rw [HZ.out]; rfl
    · rw [hb] at HHP HR hx2
      clear hb
      obtain ⟨g, hg⟩ : ∃ g, hexRun s = g := ⟨_, rfl⟩
      rw [hg] at HPX HR HX
      clear hg
      have hgm := HX.out
      rw [if_pos rfl] at HR
      have hx2 := hx2 rfl
      have hx2I : (2 : Int) ≤ s.size := by omega
      have hmin : min (h : Int) 16 = (g : Int) := by omega
      have hle : (2 : Int) + g ≤ s.size := by omega
      have hl2 : (2 : Int) ≤ (2 : Int) + g := by omega
      have hl0 : (0 : Int) ≤ (2 : Int) + g := by omega
      have htn : ((2 : Int) + g).toNat = 2 + g := by omega
      have hwr : IntKind.i64.wrap ((2 : Int) + g) = (2 : Int) + g := by simp [IntKind.wrap, IntKind.bits, IntKind.signed]; omega
      clear hgm
      clear HPD HX
      obtain ⟨o, ho⟩ : ∃ o, hexP (s.extract 2 (2 + g)) = o := ⟨_, rfl⟩
      rw [ho] at HPX HR
      clear ho
      have HP := HPX
      clear HPX
      go_enter Tryd.func20, Tryd.ntmps20
      go_wp2_with fail
      refine (HRU.out _).mono ?_
      rintro e W ⟨rfl, hw⟩
      rw [hw]
      clear hw
      go_wp2_with fail
      refine (HHP.out _).mono ?_
      rintro e W ⟨rfl, hw⟩
      rw [hw]
      clear hw
      go_wp2_with fail
      refine (HRX.out _).mono ?_
      rintro e W ⟨rfl, hw⟩
      rw [hw]
      clear hw
      clear HRU HHP HRX
      go_wp2_with fail
      refine (HP.out _ (E2.out _)).mono ?_
      clear HP
      rintro e W ⟨hpu, hbw⟩
      have HBw : Hid (Below w.heap.size w W) := Lib.hid (((Below.refl _ _).alloc (Nat.le_refl _) _).trans (hbw.mono (by simp)))
      have HB0 := (hbw.block w.heap.size (by simp)).trans (heap_alloc_new _ _)
      have HB : Hid _ := Lib.hid HB0
      obtain ⟨q0, q1, q2, q3, r0, r1, r2, r3⟩ := cells4 HB0
      clear HB0
      clear hbw E2
      cases o with
      | none =>
        obtain ⟨x9, T9, p9, rfl⟩ := hpu
        have HZ : Hid (tkNum s = (tz, 0)) := by show _ = _; rw [HR.out]; rfl
        clear HR HWD
        go_wp2
        refine bodyPost_ret (results_tok (p := 2) (u := 3) rfl _ _ w.heap.size _ rfl (set4 HB.out) rfl) rfl ⟨?_, HBw.out.trans (set4_below _ _ _ _ _ _)⟩
        rw [HZ.out]; rfl
      | some v9 =>
        have hpu : e = .returned (.tuple #[.int .u64 (v9 : Nat), .nilIface]) := hpu
        subst hpu
        have HR2 : Hid (tkNum s = if 2 + g < s.size ∧ wordB (byt s (2 + g)) = true then (tz, 0) else (⟨2, s.extract 0 (2 + g), v9, 0⟩, 2 + g)) := HR.out
        clear HR
        by_cases hlt : 2 + g < s.size
        · have hltI : (2 : Int) + g < s.size := by omega
          have hck := byt_eq s (2 + g) hlt
          have HW := Lib.hid (HWD.out (2 + g))
          obtain ⟨d, hd⟩ : ∃ d, byt s (2 + g) = d := ⟨_, rfl⟩
          rw [hd] at hck HW HR2
          obtain ⟨b9, hb9⟩ : ∃ b9, wordB d = b9 := ⟨_, rfl⟩
          rw [hb9] at HW HR2
          clear hd hb9 HWD
          cases b9
          · have HZ : Hid (tkNum s = (⟨2, s.extract 0 (2 + g), v9, 0⟩, 2 + g)) := by show _ = _; rw [HR2.out, if_neg (fun q => Bool.noConfusion q.2)]
            clear HR2
            go_wp2_with fail
            refine (HW.out _).mono ?_
            rintro e W ⟨rfl, hw⟩
            rw [hw]
            clear hw
            go_wp2
            refine bodyPost_ret (results_tok (p := 2) (u := 3) rfl _ _ w.heap.size _ rfl (set4 HB.out) rfl) rfl ⟨?_, HBw.out.trans (set4_below _ _ _ _ _ _)⟩
            rw [HZ.out]; rfl
          · have HZ : Hid (tkNum s = (tz, 0)) := by show _ = _; rw [HR2.out, if_pos ⟨hlt, rfl⟩]
            clear HR2
            go_wp2_with fail
            refine (HW.out _).mono ?_
            rintro e W ⟨rfl, hw⟩
            rw [hw]
            clear hw
            go_wp2
            refine bodyPost_ret (results_tok (p := 2) (u := 3) rfl _ _ w.heap.size _ rfl (set4 HB.out) rfl) rfl ⟨?_, HBw.out.trans (set4_below _ _ _ _ _ _)⟩
            rw [HZ.out]; rfl
        · have hltI : ¬ (2 : Int) + g < s.size := by omega
          have HZ : Hid (tkNum s = (⟨2, s.extract 0 (2 + g), v9, 0⟩, 2 + g)) := by show _ = _; rw [HR2.out, if_neg (fun q => hlt q.1)]
          clear HR2 HWD
          go_wp2
          refine bodyPost_ret (results_tok (p := 2) (u := 3) rfl _ _ w.heap.size _ rfl (set4 HB.out) rfl) rfl ⟨?_, HBw.out.trans (set4_below _ _ _ _ _ _)⟩
          rw [HZ.out]; rfl
end Go.Proofs.YtajjffjnnjklnaaDoor
