/- Join of both (lex.Join, the document's Join). Conditions: the tokens can be read, their Texts of at most 4096 bytes, at most 4097 of them. -/
import Derived.Test.YtajjffjnnjklnaaDoorPA
import Derived.Test.YtajjffjnnjklnaaDoorShelg
namespace Go.Proofs.YtajjffjnnjklnaaDoor
open Go.Shelf Go.RowKit
theorem infoStr : ∃ i : TypeInfo, Tryd.prog.info? 9 = some i ∧ i.zero = some (.string ⟨#[]⟩) ∧ i.size = 1 ∧ i.bytes = 16 := by
  obtain ⟨i, h1, h2, h3, h4⟩ := info_parts (show (Tryd.prog.info? 9).map (fun i => (i.zero, i.size, i.bytes)) = some (some (.string ⟨#[]⟩), 1, 16) from by kernel_rfl)
  exact ⟨i, h1, h2, h3, h4⟩
/-- One text behind a row of one's own. -/
theorem run_append_str9 (w : World) (base : Nat) (v : Value) (xs : List ByteArray) (hown : w.ownsRow base 9 1 v xs.length (xs.map Value.string)) (x : ByteArray) (hsum : xs.length ≤ 100000) (hbase : base ≤ w.heap.size) :
    ∃ v' w', (Builtin.append_ #[41, 41] 41 #[v, .slice (some ⟨w.heap.size, 0, none⟩) 1 1]).run Tryd.prog (w.alloc (.cells #[.string x] 9)) = .ok v' w' ∧ w'.ownsRow base 9 1 v' (xs ++ [x]).length ((xs ++ [x]).map Value.string) ∧ Below base w w' := by
  obtain ⟨i, hi, hz, hs, hby⟩ := infoStr
  have hb1 : Below w.heap.size w (w.alloc (.cells #[.string x] 9)) := (Below.refl _ _).alloc (Nat.le_refl _) _
  have hx := own_below hown hb1
  obtain ⟨v', w', h1, h2, h3, _⟩ := run_append_own (P := Tryd.prog) _ base 41 41 9 i _ 1 16 Tryd.underlying41 hi hz hs hby rfl (by decide) v xs.length _ hx ⟨w.heap.size, 0, none⟩ 1 1 [Value.string x] rfl (fun j u hj => by
    have hj1 : j < 1 := (List.getElem?_eq_some_iff.1 hj).1
    obtain rfl : j = 0 := by omega
    rw [plain_add4, Nat.zero_add, cell_row (heap_alloc_new _ _)]; exact hj) (fun u hu => by
      have : u = Value.string x := by simpa using hu
      subst this; rfl) (by unfold maxLen; omega) (by omega) (by simp; omega)
  refine ⟨v', w', h1, ?_, ?_⟩
  · rw [List.map_append, List.length_append]
    exact h2
  · exact (hb1.mono hbase).grown h3 (by simp; omega) (fun q hq => (World.ownsRow.lt hx q hq).1)
theorem own_strs9 {w : World} {base : Nat} {v : Value} {xs : List ByteArray} (h : w.ownsRow base 9 1 v xs.length (xs.map Value.string)) : (v = .slice none 0 0 ∧ xs = []) ∨ ∃ g cap, v = .slice (some ⟨g, 0, none⟩) xs.length cap ∧ xs.length ≤ cap ∧ g < w.heap.size ∧ ∀ (j : Nat) x, xs[j]? = some x → w.cell? ⟨g, 0 + j, none⟩ = some (.string x) := by
  rcases h.2 with ⟨h0, h1⟩ | ⟨g, cap', cur, e1, hb, hcells, hnc, _, hsz, htk⟩
  · exact .inl ⟨h0, List.length_eq_zero_iff.1 h1⟩
  · refine .inr ⟨g, cap', e1, hnc, lt_of_heap9 hcells, fun j x hj => ?_⟩
    subst e1
    have hjl := (List.getElem?_eq_some_iff.1 hj).1
    have := h.cellAt j (by omega)
    rw [Nat.zero_add, this, List.getElem?_map, hj]; rfl
theorem take_snoc9 {α : Type} {os : List α} {k : Nat} {o : α} (h : os[k]? = some o) : os.take (k + 1) = os.take k ++ [o] := by
  rw [List.take_add_one, h]; rfl
theorem reprs_len (L : List Tk) : (reprs L).length ≤ L.length := by
  induction L with
  | nil => exact Nat.le_refl _
  | cons x r ih =>
    show (if x.k = 7 then reprs r else repr9 x :: reprs r).length ≤ r.length + 1
    split
    · omega
    · simp; omega
theorem repr_size {x : Tk} (h : x.t.size ≤ 4096) : (repr9 x).size ≤ 4098 := by
  unfold repr9
  split
  · rw [size_app, size_app]
    have : quo.size = 1 := rfl
    omega
  · omega
theorem reprs_size {L : List Tk} (h : ∀ x ∈ L, x.t.size ≤ 4096) : ∀ y ∈ reprs L, y.size ≤ 4098 := by
  induction L with
  | nil => intro y hy; cases hy
  | cons x r ih =>
    intro y hy
    have hy : y ∈ (if x.k = 7 then reprs r else repr9 x :: reprs r) := hy
    split at hy
    · exact ih (fun z hz => h z (List.mem_cons_of_mem _ hz)) y hy
    · rcases List.mem_cons.1 hy with rfl | hy
      · exact repr_size (h x (List.mem_cons_self ..))
      · exact ih (fun z hz => h z (List.mem_cons_of_mem _ hz)) y hy
theorem joined_size {L : List Tk} (h : ∀ x ∈ L, x.t.size ≤ 4096) (hl : L.length ≤ 4097) : (jn (reprs L)).size ≤ 17000000 := by
  have h1 := jn_size (reprs L) (reprs_size h)
  have h2 := reprs_len L
  have : (reprs L).length * (4098 + 1) ≤ 4097 * 4099 := Nat.mul_le_mul (by omega) (Nat.le_refl _)
  omega
theorem reprs_one (x : Tk) : reprs [x] = if x.k = 7 then [] else [repr9 x] := rfl
theorem sjoin_any {w : World} {base : Nat} {v : Value} {xs : List ByteArray} (h : w.ownsRow base 9 1 v xs.length (xs.map Value.string)) (hl : xs.length ≤ 4097) (hz : (jn xs).size ≤ 17000000) :
    Calls Tryd.prog 16 #[v, .string ⟨#[32]⟩] w fun e w' => e = .returned (.string (jn xs)) ∧ Below w.heap.size w w' := by
  rcases own_strs9 h with ⟨rfl, rfl⟩ | ⟨g, cap, rfl, hc, hg, hcells⟩
  · refine (Tryd.strings_Join_none none 0 ⟨#[32]⟩ w).mono ?_
    rintro e w' ⟨rfl, rfl⟩
    exact ⟨rfl, Below.refl _ _⟩
  · have := jn_len xs
    refine (Tryd.strings_Join g 0 cap xs ⟨#[32]⟩ w hcells hg (by omega) hc (by show (Lib.join _ [32]).length ≤ _; omega)).mono ?_
    rintro e w' ⟨rfl, hb⟩
    exact ⟨by rw [show (⟨#[32]⟩ : ByteArray).data.toList = [32] from rfl, jn_lib], hb⟩
set_option maxRecDepth 20000 in
set_option maxHeartbeats 16000000 in
theorem join_any (a : Option Addr) (n cap : Nat) (L : List Tk) (w : World) (h : TKS w a n L) (hz : ∀ x ∈ L, x.t.size ≤ 4096) (hl : n ≤ 4097) :
    Calls Tryd.prog 9 #[.slice a n cap] w fun e w' => e = .returned (.string (jn (reprs L))) ∧ Below w.heap.size w w' := by
  have hlen := h.len
  have H : Hid _ := h
  have HZ := Lib.hid (fun x hx => hz x hx)
  have HJ := Lib.hid (joined_size hz (by omega))
  clear h hz
  obtain ⟨J, hJ⟩ : ∃ J, jn (reprs L) = J := ⟨_, rfl⟩
  rw [hJ]
  have HJE := Lib.hid hJ
  clear hJ
  go_enter Tryd.func9, Tryd.ntmps9
  go_wp2_with fail
  go_loopw [3, 8] (fun v i wr => ∃ (k : Nat) (q9 : Option Addr) (m9 c9 : Nat), k ≤ n ∧ v = .slice q9 m9 c9 ∧ i = .int .i64 k ∧ Hid (wr.ownsRow w.heap.size 9 1 (.slice q9 m9 c9) (reprs (L.take k)).length ((reprs (L.take k)).map Value.string)) ∧ Hid (Below w.heap.size w wr)) (fun _ i _ => n - (intOf i).toNat)
  case atStart => exact ⟨0, none, 0, 0, by omega, rfl, rfl, ⟨rfl, .inl ⟨rfl, rfl⟩⟩, Below.refl _ _⟩
  case round =>
    obtain ⟨k, q9, m9, c9, hk, rfl, rfl, HOW, HB⟩ := hrel
    by_cases hlt : k < n
    · have hkI : (k : Int) < n := by omega
      obtain ⟨x, hx⟩ := getK (os := L) (k := k) (by omega)
      obtain ⟨b, off, rfl, c0, c1, c2, c3, hbl⟩ := (H.out.below HB.out).at hx
      have hxz := HZ.out x (List.mem_of_getElem? hx)
      have hrl := reprs_len (L.take k)
      rw [List.length_take] at hrl
      have HTK : Hid (reprs (L.take (k + 1)) = reprs (L.take k) ++ (if x.k = 7 then [] else [repr9 x])) := by
        show _ = _
        rw [take_snoc9 hx, reprs_app, reprs_one]
      have hA0 := HB.out.alloc HB.out.size (.cells #[.int .i64 x.k, .string x.t, .int .u64 x.n, .int .i64 x.a] 32)
      have hown1 := own_below HOW.out (below1 wr (.cells #[.int .i64 x.k, .string x.t, .int .u64 x.n, .int .i64 x.a] 32))
      obtain ⟨xk, xt, xn, xa⟩ := x
      have c0 : wr.cell? ⟨b, off + k * 4, none⟩ = some (.int .i64 xk) := c0
      have c1 : wr.cell? ⟨b, off + k * 4 + 1, none⟩ = some (.string xt) := c1
      have c2 : wr.cell? ⟨b, off + k * 4 + 2, none⟩ = some (.int .u64 xn) := c2
      have c3 : wr.cell? ⟨b, off + k * 4 + 3, none⟩ = some (.int .i64 xa) := c3
      have hxz : xt.size ≤ 4096 := hxz
      by_cases h7 : xk = 7
      · subst h7
        have HOW2 : Hid ((wr.alloc (.cells #[.int .i64 7, .string xt, .int .u64 xn, .int .i64 xa] 32)).ownsRow w.heap.size 9 1 (.slice q9 m9 c9) (reprs (L.take (k + 1))).length ((reprs (L.take (k + 1))).map Value.string)) := by
          show World.ownsRow _ _ _ _ _ _ _
          rw [HTK.out]
          show World.ownsRow _ _ _ _ _ (reprs (L.take k) ++ []).length ((reprs (L.take k) ++ []).map Value.string)
          rw [List.append_nil]
          exact hown1
        have HB2 := Lib.hid hA0
        clear hown1 hA0 HOW hx HTK hxz hrl
        go_wp2
        go_roundw
        case rel => exact ⟨k + 1, _, _, _, by omega, rfl, by go_num, HOW2, HB2⟩
        case measure => simp [intOf]; omega
      · have h7b : (xk == 7) = false := by simp [h7]
        by_cases h6 : xk = 6
        · subst h6
          obtain ⟨v', w5, hap, hrow, hb5⟩ := run_append_str9 (wr.alloc (.cells #[.int .i64 6, .string xt, .int .u64 xn, .int .i64 xa] 32)) w.heap.size (.slice q9 m9 c9) (reprs (L.take k)) hown1 (⟨#[34]⟩ ++ xt ++ ⟨#[34]⟩) (by omega) (by have := HB.out.size; simp; omega)
          obtain ⟨q8, m8, c8, rfl⟩ : ∃ q m c, v' = .slice q m c := by
            obtain ⟨a, c, e, _⟩ := own_form4 hrow
            exact ⟨a, _, c, e⟩
          have hap : (Builtin.append_ #[41, 41] 41 #[(.slice q9 m9 c9), .slice (some ⟨wr.heap.size + 1, 0, none⟩) 1 1]).run Tryd.prog ((wr.alloc (.cells #[.int .i64 6, .string xt, .int .u64 xn, .int .i64 xa] 32)).alloc (.cells #[.string (⟨#[34]⟩ ++ xt ++ ⟨#[34]⟩)] 9)) = .ok (.slice q8 m8 c8) w5 := by
            rw [show wr.heap.size + 1 = (wr.alloc (.cells #[.int .i64 6, .string xt, .int .u64 xn, .int .i64 xa] 32)).heap.size by simp]; exact hap
          have HAP := Lib.hid hap
          have HOW2 : Hid (w5.ownsRow w.heap.size 9 1 (.slice q8 m8 c8) (reprs (L.take (k + 1))).length ((reprs (L.take (k + 1))).map Value.string)) := by
            show World.ownsRow _ _ _ _ _ _ _
            rw [HTK.out, if_neg (show ¬ (6 : Int) = 7 by decide), show repr9 ⟨6, xt, xn, xa⟩ = ⟨#[34]⟩ ++ xt ++ ⟨#[34]⟩ from if_pos rfl]
            exact hrow
          have HB2 := Lib.hid (hA0.trans hb5)
          have hcq1 : ¬ 9223372036854775807 < 1 + xt.size := by omega
          have hcq2 : ¬ 9223372036854775807 < 1 + xt.size + 1 := by omega
          clear hown1 hA0 HOW hx HTK hrl hap hrow hb5
          go_wp2_with (first | (at_builtin; refine wpList_append_run rfl _ _ 41 rfl _ _ rfl rfl _ HAP.out ?_) | fail)
          go_roundw
          case rel => exact ⟨k + 1, _, _, _, by omega, rfl, by go_num, HOW2, HB2⟩
          case measure => simp [intOf]; omega
        · have h6b : (xk == 6) = false := by simp [h6]
          obtain ⟨v', w5, hap, hrow, hb5⟩ := run_append_str9 (wr.alloc (.cells #[.int .i64 xk, .string xt, .int .u64 xn, .int .i64 xa] 32)) w.heap.size (.slice q9 m9 c9) (reprs (L.take k)) hown1 (xt) (by omega) (by have := HB.out.size; simp; omega)
          obtain ⟨q8, m8, c8, rfl⟩ : ∃ q m c, v' = .slice q m c := by
            obtain ⟨a, c, e, _⟩ := own_form4 hrow
            exact ⟨a, _, c, e⟩
          have hap : (Builtin.append_ #[41, 41] 41 #[(.slice q9 m9 c9), .slice (some ⟨wr.heap.size + 1, 0, none⟩) 1 1]).run Tryd.prog ((wr.alloc (.cells #[.int .i64 xk, .string xt, .int .u64 xn, .int .i64 xa] 32)).alloc (.cells #[.string (xt)] 9)) = .ok (.slice q8 m8 c8) w5 := by
            rw [show wr.heap.size + 1 = (wr.alloc (.cells #[.int .i64 xk, .string xt, .int .u64 xn, .int .i64 xa] 32)).heap.size by simp]; exact hap
          have HAP := Lib.hid hap
          have HOW2 : Hid (w5.ownsRow w.heap.size 9 1 (.slice q8 m8 c8) (reprs (L.take (k + 1))).length ((reprs (L.take (k + 1))).map Value.string)) := by
            show World.ownsRow _ _ _ _ _ _ _
            rw [HTK.out, if_neg (show ¬ xk = 7 from h7), show repr9 ⟨xk, xt, xn, xa⟩ = xt from if_neg h6]
            exact hrow
          have HB2 := Lib.hid (hA0.trans hb5)
          have hcq1 : ¬ 9223372036854775807 < 1 + xt.size := by omega
          have hcq2 : ¬ 9223372036854775807 < 1 + xt.size + 1 := by omega
          clear hown1 hA0 HOW hx HTK hrl hap hrow hb5
          go_wp2_with (first | (at_builtin; refine wpList_append_run rfl _ _ 41 rfl _ _ rfl rfl _ HAP.out ?_) | fail)
          go_roundw
          case rel => exact ⟨k + 1, _, _, _, by omega, rfl, by go_num, HOW2, HB2⟩
          case measure => simp [intOf]; omega
    · obtain rfl : n = k := by omega
      have HOW2 : Hid (wr.ownsRow w.heap.size 9 1 (.slice q9 m9 c9) (reprs L).length ((reprs L).map Value.string)) := by
        have := HOW.out
        rw [List.take_of_length_le (by omega)] at this
        exact this
      have HSJ := Lib.hid (sjoin_any HOW2.out (by have := reprs_len L; omega) (by rw [HJE.out]; have := HJ.out; rw [HJE.out] at this; exact this))
      rw [HJE.out] at HSJ
      clear HOW HOW2 H
      go_wp2_with fail
      refine HSJ.out.mono ?_
      rintro e W ⟨rfl, hb⟩
      have HB2 := Lib.hid (HB.out.trans (hb.mono HB.out.size))
      clear hb HSJ
      go_wp2
      go_ret
      exact ⟨rfl, HB2.out⟩
end Go.Proofs.YtajjffjnnjklnaaDoor
