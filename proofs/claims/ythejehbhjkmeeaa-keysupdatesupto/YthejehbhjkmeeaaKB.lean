/- Rows of keys in memory; Find and Name of package keys and of the reference. Conditions: the keys can be read. -/
import Derived.Test.YthejehbhjkmeeaaKA
import Derived.Laws.AppendOwn
namespace Go.Proofs.Ythejehbhjkmeeaa
open Go.RowKit
/-- A key: its name, its number. -/
structure Ky where
  n : ByteArray
  v : Int
def cellsK (k : Ky) : List Value := [.string k.n, .int .i64 k.v]
def rowK (ks : List Ky) : List Value := ks.flatMap cellsK
theorem rowK_nil : rowK [] = [] := rfl
theorem rowK_cons (t : Ky) (r : List Ky) : rowK (t :: r) = cellsK t ++ rowK r := by simp [rowK]
theorem rowK_append (a b : List Ky) : rowK (a ++ b) = rowK a ++ rowK b := by simp [rowK]
theorem rowK_length (ts : List Ky) : (rowK ts).length = ts.length * 2 := by
  induction ts with
  | nil => rfl
  | cons t r ih => rw [rowK_cons, List.length_append, ih, List.length_cons]; simp [cellsK]; omega
theorem rowK_at : ∀ (ts : List Ky) (i : Nat) (t : Ky), ts[i]? = some t → ∀ k, k < 2 → (rowK ts)[i * 2 + k]? = (cellsK t)[k]? := by
  intro ts
  induction ts with
  | nil => intro i t h; simp at h
  | cons x r ih =>
    intro i t h k hk
    rw [rowK_cons]
    cases i with
    | zero =>
      simp at h
      subst h
      rw [List.getElem?_append_left (by simp [cellsK]; omega)]
      simp
    | succ i =>
      have h' : r[i]? = some t := by simpa using h
      rw [List.getElem?_append_right (by simp [cellsK]; omega), ← ih i t h' k hk]
      congr 1
      simp [cellsK]; omega
theorem rowK_get {ts : List Ky} {j : Nat} {u : Value} (h : (rowK ts)[j]? = some u) : ∃ t, ts[j / 2]? = some t ∧ (cellsK t)[j % 2]? = some u := by
  have hj : j < (rowK ts).length := (List.getElem?_eq_some_iff.1 h).1
  rw [rowK_length] at hj
  have hi : j / 2 < ts.length := by omega
  refine ⟨ts[j / 2], List.getElem?_eq_getElem hi, ?_⟩
  rw [← rowK_at ts (j / 2) _ (List.getElem?_eq_getElem hi) (j % 2) (by omega), show j / 2 * 2 + j % 2 = j from by omega]
  exact h
theorem cellsK_one (ts : List Ky) : ∀ u ∈ rowK ts, u.oneCell' = true := by
  intro u hu
  simp only [rowK, List.mem_flatMap, cellsK, List.mem_cons, List.not_mem_nil, or_false] at hu
  obtain ⟨t, _, rfl | rfl⟩ := hu <;> rfl
/-- A slice of n keys that can be read. -/
structure KS (w : World) (a : Option Addr) (n : Nat) (ks : List Ky) : Prop where
  len : ks.length = n
  room : n ≤ 11728124029610
  short : ∀ k ∈ ks, k.n.size ≤ maxLen
  cells : n = 0 ∨ ∃ b off, a = some ⟨b, off, none⟩ ∧ ∀ i t, ks[i]? = some t → w.cell? ⟨b, off + i * 2, none⟩ = some (.string t.n) ∧ w.cell? ⟨b, off + i * 2 + 1, none⟩ = some (.int .i64 t.v)
/-- A value that is such a slice. -/
def KV (w : World) (v : Value) (ks : List Ky) : Prop := ∃ a n c, v = .slice a n c ∧ n ≤ c ∧ KS w a n ks
theorem KS.below {w w' : World} {a : Option Addr} {n : Nat} {ks : List Ky} (h : KS w a n ks) (hb : Below w.heap.size w w') : KS w' a n ks := by
  refine ⟨h.len, h.room, h.short, ?_⟩
  rcases h.cells with h0 | ⟨b, off, rfl, hc⟩
  · exact .inl h0
  · refine .inr ⟨b, off, rfl, fun i t hi => ?_⟩
    obtain ⟨c0, c1⟩ := hc i t hi
    exact ⟨(hb.cell (cell_lt c0)).trans c0, (hb.cell (cell_lt c1)).trans c1⟩
theorem KS.empty {w : World} (a : Option Addr) : KS w a 0 [] := ⟨rfl, by omega, by simp, .inl rfl⟩
theorem KV.nil {w : World} : KV w (.slice none 0 0) [] := ⟨none, 0, 0, rfl, Nat.le_refl _, KS.empty _⟩
theorem KV.below {w w' : World} {v : Value} {ks : List Ky} (h : KV w v ks) (hb : Below w.heap.size w w') : KV w' v ks := by
  obtain ⟨a, n, c, e, hc, h⟩ := h
  exact ⟨a, n, c, e, hc, h.below hb⟩
theorem KS.at {w : World} {a : Option Addr} {n k : Nat} {ks : List Ky} {t : Ky} (h : KS w a n ks) (ht : ks[k]? = some t) : ∃ b off, a = some ⟨b, off, none⟩ ∧ w.cell? ⟨b, off + k * 2, none⟩ = some (.string t.n) ∧ w.cell? ⟨b, off + k * 2 + 1, none⟩ = some (.int .i64 t.v) ∧ b < w.heap.size := by
  rcases h.cells with h0 | ⟨b, off, e, hc⟩
  · have := (List.getElem?_eq_some_iff.1 ht).1
    have := h.len
    omega
  · obtain ⟨c0, c1⟩ := hc k t ht
    exact ⟨b, off, e, c0, c1, cell_lt c0⟩
theorem KS.zero {w : World} {a : Option Addr} {ks : List Ky} (h : KS w a 0 ks) : ks = [] := List.length_eq_zero_iff.1 h.len
theorem drop_cons {α : Type} {os : List α} {k : Nat} {o : α} (h : os[k]? = some o) : os.drop k = o :: os.drop (k + 1) := by
  obtain ⟨hk, rfl⟩ := List.getElem?_eq_some_iff.1 h
  exact List.drop_eq_getElem_cons hk
theorem take_snoc {α : Type} {os : List α} {k : Nat} {o : α} (h : os[k]? = some o) : os.take (k + 1) = os.take k ++ [o] := by
  obtain ⟨hk, rfl⟩ := List.getElem?_eq_some_iff.1 h
  exact List.take_succ_eq_append_getElem hk
theorem getK {α : Type} {os : List α} {k : Nat} (h : k < os.length) : ∃ o, os[k]? = some o := ⟨os[k], List.getElem?_eq_getElem h⟩
/-- The first key of a name. -/
def findK : List Ky → ByteArray → Option Int
  | [], _ => none
  | k :: r, s => bif k.n.toList == s.toList then some k.v else findK r s
def findV (ks : List Ky) (s : ByteArray) : Value := match findK ks s with
  | some v => .tuple #[.int .i64 v, .bool true]
  | none => .tuple #[.int .i64 0, .bool false]
/-- The first key of a number. -/
def nameK : List Ky → Int → Option ByteArray
  | [], _ => none
  | k :: r, s => if k.v = s then some k.n else nameK r s
def nameV (ks : List Ky) (s : Int) : Value := match nameK ks s with
  | some v => .tuple #[.string v, .bool true]
  | none => .tuple #[.string ⟨#[]⟩, .bool false]
theorem findV_nil (s : ByteArray) : findV [] s = .tuple #[.int .i64 0, .bool false] := rfl
theorem findV_yes {k : Ky} {r : List Ky} {s : ByteArray} (h : (k.n.toList == s.toList) = true) : findV (k :: r) s = .tuple #[.int .i64 k.v, .bool true] := by simp [findV, findK, h]
theorem findV_no {k : Ky} {r : List Ky} {s : ByteArray} (h : (k.n.toList == s.toList) = false) : findV (k :: r) s = findV r s := by simp [findV, findK, h]
theorem nameV_nil (s : Int) : nameV [] s = .tuple #[.string ⟨#[]⟩, .bool false] := rfl
theorem nameV_yes {k : Ky} {r : List Ky} {s : Int} (h : k.v = s) : nameV (k :: r) s = .tuple #[.string k.n, .bool true] := by simp [nameV, nameK, h]
theorem nameV_no {k : Ky} {r : List Ky} {s : Int} (h : ¬ k.v = s) : nameV (k :: r) s = nameV r s := by simp [nameV, nameK, h]
set_option maxHeartbeats 1000000 in
theorem find_any (a : Option Addr) (n c : Nat) (ks : List Ky) (s : ByteArray) (w : World) (h : KS w a n ks) :
    Calls Try.prog 13 #[.slice a n c, .string s] w fun e w' => e = .returned (findV ks s) ∧ Below w.heap.size w w' := by
  have hl := h.len
  have hr := h.room
  have H : Hid _ := h
  clear h
  go_enter Try.func13, Try.ntmps13
  go_wp2_with fail
  go_loopw [10] (fun i wr => ∃ k : Nat, k ≤ n ∧ i = .int .i64 k ∧ Hid (findV (ks.drop k) s = findV ks s) ∧ Below w.heap.size w wr) (fun i _ => n - (intOf i).toNat)
  case atStart => exact ⟨0, by omega, rfl, rfl, Below.refl _ _⟩
  case round =>
    obtain ⟨k, hk, rfl, hF, hb⟩ := hrel
    have HB : Hid _ := hb
    by_cases hlt : k < n
    · have hkI : (k : Int) < n := by omega
      obtain ⟨o, ho⟩ := getK (os := ks) (k := k) (by omega)
      obtain ⟨b, off, rfl, c0, c1, hbl⟩ := (H.out.below hb).at ho
      have hD := drop_cons ho
      have HB' : Hid (Below w.heap.size w (wr.alloc (.cells #[.string o.n, .int .i64 o.v] 37))) := hb.trans ((below1 wr _).mono hb.size)
      cases hc : (o.n.toList == s.toList)
      · have HF : Hid (findV (ks.drop (k + 1)) s = findV ks s) := by show _ = _; rw [← hF.out, hD, findV_no hc]
        clear hF hD ho hb
        generalize o.n = on at *
        generalize o.v = ov at *
        go_wp2
        go_roundw
        case rel => exact ⟨k + 1, by omega, by go_num, HF, HB'.out⟩
        case measure => simp [intOf]; omega
      · have HF : Hid (findV ks s = .tuple #[.int .i64 o.v, .bool true]) := by show _ = _; rw [← hF.out, hD, findV_yes hc]
        clear hF hD ho hb
        generalize o.n = on at *
        generalize o.v = ov at *
        go_wp2
        go_ret2
        exact ⟨by rw [HF.out]; rfl, HB'.out⟩
    · obtain rfl : k = n := by omega
      have HF : Hid (findV ks s = .tuple #[.int .i64 0, .bool false]) := by show _ = _; rw [← hF.out, List.drop_of_length_le (by omega)]; rfl
      clear hF hb
      go_wp2
      go_ret2
      exact ⟨by rw [HF.out]; rfl, HB.out⟩
set_option maxHeartbeats 1000000 in
theorem name_any (a : Option Addr) (n c : Nat) (ks : List Ky) (s : Int) (w : World) (h : KS w a n ks) :
    Calls Try.prog 15 #[.slice a n c, .int .i64 s] w fun e w' => e = .returned (nameV ks s) ∧ Below w.heap.size w w' := by
  have hl := h.len
  have hr := h.room
  have H : Hid _ := h
  clear h
  go_enter Try.func15, Try.ntmps15
  go_wp2_with fail
  go_loopw [10] (fun i wr => ∃ k : Nat, k ≤ n ∧ i = .int .i64 k ∧ Hid (nameV (ks.drop k) s = nameV ks s) ∧ Below w.heap.size w wr) (fun i _ => n - (intOf i).toNat)
  case atStart => exact ⟨0, by omega, rfl, rfl, Below.refl _ _⟩
  case round =>
    obtain ⟨k, hk, rfl, hF, hb⟩ := hrel
    have HB : Hid _ := hb
    by_cases hlt : k < n
    · have hkI : (k : Int) < n := by omega
      obtain ⟨o, ho⟩ := getK (os := ks) (k := k) (by omega)
      obtain ⟨b, off, rfl, c0, c1, hbl⟩ := (H.out.below hb).at ho
      have hD := drop_cons ho
      have HB' : Hid (Below w.heap.size w (wr.alloc (.cells #[.string o.n, .int .i64 o.v] 37))) := hb.trans ((below1 wr _).mono hb.size)
      by_cases hc : o.v = s
      rotate_left
      · have hc2 : (o.v == s) = false := by simp [hc]
        have HF : Hid (nameV (ks.drop (k + 1)) s = nameV ks s) := by show _ = _; rw [← hF.out, hD, nameV_no hc]
        clear hF hD ho hb hc
        generalize o.n = on at *
        generalize o.v = ov at *
        go_wp2
        go_roundw
        case rel => exact ⟨k + 1, by omega, by go_num, HF, HB'.out⟩
        case measure => simp [intOf]; omega
      · have hc2 : (o.v == s) = true := by simp [hc]
        have HF : Hid (nameV ks s = .tuple #[.string o.n, .bool true]) := by show _ = _; rw [← hF.out, hD, nameV_yes hc]
        clear hF hD ho hb hc
        generalize o.n = on at *
        generalize o.v = ov at *
        go_wp2
        go_ret2
        exact ⟨by rw [HF.out]; rfl, HB'.out⟩
    · obtain rfl : k = n := by omega
      have HF : Hid (nameV ks s = .tuple #[.string ⟨#[]⟩, .bool false]) := by show _ = _; rw [← hF.out, List.drop_of_length_le (by omega)]; rfl
      clear hF hb
      go_wp2
      go_ret2
      exact ⟨by rw [HF.out]; rfl, HB.out⟩
set_option maxHeartbeats 1000000 in
theorem rfind_any (a : Option Addr) (n c : Nat) (ks : List Ky) (s : ByteArray) (w : World) (h : KS w a n ks) :
    Calls Try.prog 14 #[.slice a n c, .string s] w fun e w' => e = .returned (findV ks s) ∧ Below w.heap.size w w' := by
  have hl := h.len
  have hr := h.room
  have H : Hid _ := h
  clear h
  go_enter Try.func14, Try.ntmps14
  go_wp2_with fail
  go_loopw [6] (fun i wr => ∃ k : Nat, k ≤ n ∧ i = .int .i64 k ∧ Hid (findV (ks.drop k) s = findV ks s) ∧ Below w.heap.size w wr) (fun i _ => n - (intOf i).toNat)
  case atStart => exact ⟨0, by omega, rfl, rfl, Below.refl _ _⟩
  case round =>
    obtain ⟨k, hk, rfl, hF, hb⟩ := hrel
    have HB : Hid _ := hb
    by_cases hlt : k < n
    · have hkI : (k : Int) < n := by omega
      obtain ⟨o, ho⟩ := getK (os := ks) (k := k) (by omega)
      obtain ⟨b, off, rfl, c0, c1, hbl⟩ := (H.out.below hb).at ho
      have hD := drop_cons ho
      cases hc : (o.n.toList == s.toList)
      · have HF : Hid (findV (ks.drop (k + 1)) s = findV ks s) := by show _ = _; rw [← hF.out, hD, findV_no hc]
        clear hF hD ho hb
        generalize o.n = on at *
        generalize o.v = ov at *
        go_wp2
        go_roundw
        case rel => exact ⟨k + 1, by omega, by go_num, HF, HB.out⟩
        case measure => simp [intOf]; omega
      · have HF : Hid (findV ks s = .tuple #[.int .i64 o.v, .bool true]) := by show _ = _; rw [← hF.out, hD, findV_yes hc]
        clear hF hD ho hb
        generalize o.n = on at *
        generalize o.v = ov at *
        go_wp2
        go_ret2
        exact ⟨by rw [HF.out]; rfl, HB.out⟩
    · obtain rfl : k = n := by omega
      have HF : Hid (findV ks s = .tuple #[.int .i64 0, .bool false]) := by show _ = _; rw [← hF.out, List.drop_of_length_le (by omega)]; rfl
      clear hF hb
      go_wp2
      go_ret2
      exact ⟨by rw [HF.out]; rfl, HB.out⟩
set_option maxHeartbeats 1000000 in
theorem rname_any (a : Option Addr) (n c : Nat) (ks : List Ky) (s : Int) (w : World) (h : KS w a n ks) :
    Calls Try.prog 16 #[.slice a n c, .int .i64 s] w fun e w' => e = .returned (nameV ks s) ∧ Below w.heap.size w w' := by
  have hl := h.len
  have hr := h.room
  have H : Hid _ := h
  clear h
  go_enter Try.func16, Try.ntmps16
  go_wp2_with fail
  go_loopw [6] (fun i wr => ∃ k : Nat, k ≤ n ∧ i = .int .i64 k ∧ Hid (nameV (ks.drop k) s = nameV ks s) ∧ Below w.heap.size w wr) (fun i _ => n - (intOf i).toNat)
  case atStart => exact ⟨0, by omega, rfl, rfl, Below.refl _ _⟩
  case round =>
    obtain ⟨k, hk, rfl, hF, hb⟩ := hrel
    have HB : Hid _ := hb
    by_cases hlt : k < n
    · have hkI : (k : Int) < n := by omega
      obtain ⟨o, ho⟩ := getK (os := ks) (k := k) (by omega)
      obtain ⟨b, off, rfl, c0, c1, hbl⟩ := (H.out.below hb).at ho
      have hD := drop_cons ho
      by_cases hc : o.v = s
      rotate_left
      · have hc2 : (o.v == s) = false := by simp [hc]
        have HF : Hid (nameV (ks.drop (k + 1)) s = nameV ks s) := by show _ = _; rw [← hF.out, hD, nameV_no hc]
        clear hF hD ho hb hc
        generalize o.n = on at *
        generalize o.v = ov at *
        go_wp2
        go_roundw
        case rel => exact ⟨k + 1, by omega, by go_num, HF, HB.out⟩
        case measure => simp [intOf]; omega
      · have hc2 : (o.v == s) = true := by simp [hc]
        have HF : Hid (nameV ks s = .tuple #[.string o.n, .bool true]) := by show _ = _; rw [← hF.out, hD, nameV_yes hc]
        clear hF hD ho hb hc
        generalize o.n = on at *
        generalize o.v = ov at *
        go_wp2
        go_ret2
        exact ⟨by rw [HF.out]; rfl, HB.out⟩
    · obtain rfl : k = n := by omega
      have HF : Hid (nameV ks s = .tuple #[.string ⟨#[]⟩, .bool false]) := by show _ = _; rw [← hF.out, List.drop_of_length_le (by omega)]; rfl
      clear hF hb
      go_wp2
      go_ret2
      exact ⟨by rw [HF.out]; rfl, HB.out⟩
end Go.Proofs.Ythejehbhjkmeeaa
