/- container/heap's Remove where nothing moves. Conditions: as said. -/
import Derived.Test.YtjjehncnjcepkaaEB
import Derived.Lib.Hide
namespace Go.Proofs.Ytjjehncnjcepkaa
open Go.RowKit
theorem meth_swap {a : Addr} {W : World} {v : Value} (h : W.cell? a = some v) : (method 247 95 (.pointer (some a)) "Swap").run Try.prog W = .ok (91, v) W := run_meth "Swap" _ (by kernel_rfl) a W v (load_queue h)
/-- What taking an entry out leaves. -/
structure Rem (w w' : World) (tb zb qg qc : Nat) (room clock : Int) (E : List Nat) (e : Nat) (z : Int) (O : Nat → Tup) (ex : Int) : Prop where
  qb : ∃ Q' E', QB w' tb zb qg qc room clock Q' E' z O ex ∧ E'.length + 1 = E.length ∧ (∀ x ∈ E, x ≠ e → x ∈ E') ∧ ∀ x ∈ E', x ∈ E
  far : ∀ g, g ≠ tb → g ≠ qg → g ∉ E → w'.heap[g]? = w.heap[g]?
  size : w'.heap.size = w.heap.size
  low : ∀ B, B ≤ tb → B ≤ qg → (∀ x ∈ E, B ≤ x) → Below B w w'
theorem Rem.drewN {w w' : World} {tb zb qg qc : Nat} {room clock : Int} {E : List Nat} {e : Nat} {z : Int} {O : Nat → Tup} {ex : Int} (h : Rem w w' tb zb qg qc room clock E e z O ex) (k : Nat) : Rem w (w'.drewN k) tb zb qg qc room clock E e z O ex := by
  obtain ⟨⟨Q', E', a, b, c, d⟩, h2, h3, h4⟩ := h
  exact ⟨⟨Q', E', a.drewN k, b, c, d⟩, h2, h3, fun B x y s => let q := h4 B x y s; ⟨q.os, q.tape, q.output, q.size, q.block⟩⟩
theorem mem_get {E : List Nat} {x : Nat} : x ∈ E ↔ ∃ k : Nat, E[k]? = some x := List.mem_iff_getElem?
theorem popW_drewN (w : World) (tb qg qc n k : Nat) : popW (w.drewN k) tb qg qc n = (popW w tb qg qc n).drewN k := rfl
theorem rem_last {w : World} {tb zb qg qc : Nat} {room clock : Int} {Q : Array Value} {E : List Nat} {z : Int} {O : Nat → Tup} {ex : Int} (h : QB w tb zb qg qc room clock Q E z O ex) {n e : Nat} (hn : E.length = n + 1) (he : E[n]? = some e) :
    Rem w (popW w tb qg qc n) tb zb qg qc room clock E e z O ex := by
  refine ⟨⟨_, _, h.popped hn, by rw [List.length_take]; omega, ?_, fun x hx => List.mem_of_mem_take hx⟩, ?_, ?_, ?_⟩
  · intro x hx hne
    obtain ⟨k, hk⟩ := mem_get.1 hx
    have : k < E.length := (List.getElem?_eq_some_iff.1 hk).1
    have hkn : k ≠ n := fun q => by subst q; rw [he] at hk; cases hk; exact hne rfl
    exact mem_get.2 ⟨k, by rw [List.getElem?_take_of_lt (by omega)]; exact hk⟩
  · intro g a b _
    exact (Below.heap_setCell _ _ _ _ a).trans (Below.heap_setCell _ _ _ _ b)
  · simp [popW, World.setCell]
  · intro B a b _
    exact ((Below.refl B w).setCell b _).setCell a _
theorem rem_mid {w : World} {tb zb qg qc : Nat} {room clock : Int} {Q : Array Value} {E : List Nat} {z : Int} {O : Nat → Tup} {ex : Int} (h : QB w tb zb qg qc room clock Q E z O ex) {n i e l : Nat} (hn : E.length = n + 1) (hi : E[i]? = some e) (hl : E[n]? = some l) (hin : i ≠ n) :
    Rem w (popW (swapW w qg i n e l) tb qg qc n) tb zb qg qc room clock E e z O ex := by
  have hs := h.swapped hi hl hin
  have hlen : ((E.set i l).set n e).length = n + 1 := by simp [hn]
  have hil : i < E.length := (List.getElem?_eq_some_iff.1 hi).1
  have r := rem_last hs hlen (by rw [List.getElem?_set_self (by simp; omega)])
  obtain ⟨⟨Q', E', a, b, c, d⟩, h2, h3, h4⟩ := r
  have me : e ∈ E := mem_get.2 ⟨i, hi⟩
  have ml : l ∈ E := mem_get.2 ⟨n, hl⟩
  have up : ∀ x ∈ E, x ∈ (E.set i l).set n e := by
    intro x hx
    obtain ⟨k, hk⟩ := mem_get.1 hx
    by_cases kn : k = n
    · subst kn
      rw [hl] at hk; cases hk
      exact mem_get.2 ⟨i, by rw [List.getElem?_set_ne (Ne.symm hin), List.getElem?_set_self hil]⟩
    · by_cases ki : k = i
      · subst ki
        rw [hi] at hk; cases hk
        exact mem_get.2 ⟨n, by rw [List.getElem?_set_self (by simp; omega)]⟩
      · exact mem_get.2 ⟨k, by rw [List.getElem?_set_ne (Ne.symm kn), List.getElem?_set_ne (Ne.symm ki)]; exact hk⟩
  have down : ∀ x ∈ (E.set i l).set n e, x ∈ E := by
    intro x hx
    rcases List.mem_or_eq_of_mem_set hx with hx | rfl
    · rcases List.mem_or_eq_of_mem_set hx with hx | rfl
      · exact hx
      · exact ml
    · exact me
  refine ⟨⟨Q', E', a, by omega, fun x hx hne => c x (up x hx) hne, fun x hx => down x (d x hx)⟩, ?_, ?_, ?_⟩
  · intro g g1 g2 g3
    refine (h2 g g1 g2 (fun q => g3 (down g q))).trans ?_
    have ge : g ≠ e := fun q => g3 (q ▸ me)
    have gl : g ≠ l := fun q => g3 (q ▸ ml)
    exact (Below.heap_setCell _ _ _ _ ge).trans ((Below.heap_setCell _ _ _ _ gl).trans ((Below.heap_setCell _ _ _ _ g2).trans (Below.heap_setCell _ _ _ _ g2)))
  · rw [h3]; simp [swapW, World.setCell]
  · intro B b1 b2 b3
    refine Below.trans ?_ (h4 B b1 b2 (fun x hx => b3 x (down x hx)))
    exact ((((Below.refl B w).setCell b2 _).setCell b2 _).setCell (b3 l ml) _).setCell (b3 e me) _
set_option maxRecDepth 20000 in
set_option maxHeartbeats 4000000 in
theorem hRemove_eq {w : World} {tb zb qg qc : Nat} {room clock : Int} {Q : Array Value} {E : List Nat} {z : Int} {O : Nat → Tup} {ex : Int} (h : QB w tb zb qg qc room clock Q E z O ex) {i e : Nat} (hi : E[i]? = some e) :
    Calls Try.prog 43 #[.iface 95 (.pointer (some ⟨tb, 3, none⟩)), .int .i64 i] w fun x w' => (∃ y, x = .returned y) ∧ Rem w w' tb zb qg qc room clock E e z O ex := by
  have hil : i < E.length := (List.getElem?_eq_some_iff.1 hi).1
  have hr := h.room
  obtain ⟨n, hn⟩ : ∃ n, E.length = n + 1 := ⟨E.length - 1, by omega⟩
  obtain ⟨l, hl⟩ := get9 (show n < E.length by omega)
  have hw1 : wrap64 (n : Int) = (n : Int) := wrap64_small (by omega) (by omega)
  have H : Hid _ := h
  have c3 : w.cell? ⟨tb, 3, none⟩ = some (.slice (some ⟨qg, 0, none⟩) E.length qc) := cell_row h.t 3
  rw [hn] at c3
  have hm := meth_len c3
  by_cases hin : i = n
  · subst hin
    rw [hi] at hl; cases hl
    have HP : Hid _ := qPop_eq h hn hi
    have HR : Hid _ := rem_last h hn hi
    clear h c3
    go_enter Try.func43, Try.ntmps43
    go_wp2_with fail
    refine (qLen_any _ (i + 1) qc _).mono ?_
    rintro e W2 ⟨rfl, hw2⟩
    rw [hw2]
    clear hw2 hm
    go_wp2_with fail
    refine Calls.mono HP.out ?_
    rintro e W3 ⟨rfl, hw3⟩
    rw [hw3]
    clear hw3
    go_wp2
    go_ret
    exact ⟨⟨_, rfl⟩, HR.out⟩
  · have hinI : ¬ (n : Int) = (i : Int) := by omega
    have HS : Hid _ := swap_eq h hi hl hin
    have hs := h.swapped hi hl hin
    have hsl : ((E.set i l).set n e).length = n + 1 := by simp [hn]
    have he' : ((E.set i l).set n e)[n]? = some e := by rw [List.getElem?_set_self (by simp; omega)]
    have HD := Lib.hid (fun k => down_eq (hs.drewN k).at (i := i) (n := n) (by omega) (by omega))
    have HU := Lib.hid (fun k => up_eq (hs.drewN k).at (i := i) (by omega))
    have HP := Lib.hid (fun k => qPop_eq (hs.drewN k) hsl he')
    have HR : Hid _ := rem_mid h hn hi hl hin
    have hms := meth_swap c3
    have HN : Hid _ := hn
    clear h hs hsl he' c3
    go_enter Try.func43, Try.ntmps43
    go_wp2_with fail
    refine (qLen_any _ (n + 1) qc _).mono ?_
    rintro x W2 ⟨rfl, hw2⟩
    rw [hw2]
    clear hw2 hm
    go_wp2_with fail
    rw [HN.out] at HS
    refine Calls.mono HS.out ?_
    rintro x W3 ⟨rfl, k3, hw3⟩
    rw [show W3 = (swapW w qg i n e l).drewN k3 from hw3]
    clear hw3 hms
    go_wp2_with fail
    refine Calls.mono (HD.out k3) ?_
    rintro x W4 ⟨rfl, k4, hw4⟩
    rw [hw4, drewN_add]
    clear hw4
    generalize k3 + k4 = k5
    go_wp2_with fail
    refine Calls.mono (HU.out k5) ?_
    rintro x W5 ⟨rfl, k6, hw6⟩
    rw [hw6, drewN_add]
    clear hw6
    generalize k5 + k6 = k7
    go_wp2_with fail
    refine Calls.mono (HP.out k7) ?_
    rintro x W7 ⟨rfl, hw7⟩
    rw [popW_drewN] at hw7
    have HR7 : Hid _ := HR.out.drewN k7
    rw [← hw7] at HR7
    clear hw7 HP HU HD HS
    go_wp2
    go_ret
    exact ⟨⟨_, rfl⟩, HR7.out⟩
set_option maxRecDepth 20000 in
set_option maxHeartbeats 1000000 in
theorem qremove_eq {w : World} {tb zb qg qc : Nat} {room clock : Int} {Q : Array Value} {E : List Nat} {z : Int} {O : Nat → Tup} {ex : Int} (h : QB w tb zb qg qc room clock Q E z O ex) {e : Nat} (he : e ∈ E) :
    Calls Try.prog 29 #[.pointer (some ⟨tb, 3, none⟩), .pointer (some ⟨e, 0, none⟩)] w fun x w' => x = .returned (.tuple #[]) ∧ Rem w w' tb zb qg qc room clock E e z O ex := by
  obtain ⟨i, hi⟩ := mem_get.1 he
  have c13 : w.cell? ⟨e, 13, none⟩ = some (.int .i64 i) := cell_row (h.en i e hi) 13
  have HP : Hid _ := hRemove_eq h hi
  clear h
  go_enter Try.func29, Try.ntmps29
  go_wp2_with fail
  refine Calls.mono HP.out ?_
  rintro x W3 ⟨⟨y, rfl⟩, hw3⟩
  go_wp2
  go_end0
  exact ⟨rfl, hw3⟩
end Go.Proofs.Ytjjehncnjcepkaa
