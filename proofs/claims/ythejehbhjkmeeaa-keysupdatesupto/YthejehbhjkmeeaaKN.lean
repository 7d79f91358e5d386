/- Update: the walk. Conditions: keys and rows can be read. -/
import Derived.Test.YthejehbhjkmeeaaKM
namespace Go.Proofs.Ythejehbhjkmeeaa
open Go.RowKit
/-- Rows of one's own that were made one behind the other, apart from one another. -/
structure Made (w0 W : World) (us : List (Value × List Ky)) : Prop where
  bel : Below w0.heap.size w0 W
  own : ∀ u ∈ us, W.ownsRow w0.heap.size 37 2 u.1 u.2.length (rowK u.2)
  ap : us.Pairwise fun x y => ∀ k, x.1.ownBlock = some k → y.1.ownBlock ≠ some k
theorem Made.start (w0 : World) : Made w0 w0 [] := ⟨Below.refl _ _, by simp, by simp⟩
theorem Made.more {w0 W W' : World} {us : List (Value × List Ky)} (h : Made w0 W us) (hb : Below W.heap.size W W') : Made w0 W' us := ⟨h.bel.trans (hb.mono h.bel.size), fun u hu => own_below (h.own u hu) hb, h.ap⟩
theorem Made.push {w0 W W' : World} {us : List (Value × List Ky)} {v : Value} {ks : List Ky} (h : Made w0 W us) (ho : W'.ownsRow W.heap.size 37 2 v ks.length (rowK ks)) (hb : Below W.heap.size W W') : Made w0 W' (us ++ [(v, ks)]) := by
  have hm := h.more hb
  refine ⟨hm.bel, fun u hu => ?_, List.pairwise_append.2 ⟨hm.ap, by simp, fun x hx y hy => ?_⟩⟩
  · rcases List.mem_append.1 hu with hu | hu
    · exact hm.own u hu
    · simp at hu; rw [hu]; exact own_base ho h.bel.size
  · simp at hy; subst hy
    intro k hk hk2
    have h1 := World.ownsRow.lt (h.own x hx) k hk
    have h2 := World.ownsRow.lt ho k hk2
    omega
theorem size4k : (Try.prog.info? 24).map (·.size) = some 4 := by kernel_rfl
theorem results_keys {fn : Func} {p u : Tmp} (h : fn.results = #[.cell p 24, .tmp u]) (tmps : Array Value) (w : World) (g : Nat) (cs : Array Value)
    (hp : tmps.getD p undef = .pointer (some ⟨g, 0, none⟩)) (hg : w.heap[g]? = some (.cells cs 24 (0, 0))) (hs : cs.size = 4) :
    (results fn tmps).run Try.prog w = .ok (.tuple #[.agg cs, tmps.getD u undef]) w := by
  rw [results_cell_tmp h, hp]
  simp only [asAddr, Sem.run_pure, Result.andThen_ok, run_loadVar_row w g 24 24 cs (0, 0) _ hg Try.underlying24 rfl (show (Try.prog.info? 24).map (·.size) = some cs.size by rw [hs]; exact size4k)]
/-- What Update answers: the four lists, or none. -/
def updS (a b c d : List Ky) (rs : List Rw) : Option (List Ky × List Ky × List Ky × List Ky) :=
  if chkE a b c d = 0 then (accF 16777215 (two (keptS a 1 rs) (keptS b 3 rs)) 2).bind fun x => (accF 65535 (two (keptS c 2 rs) (keptS d 4 rs)) 2).map fun y => (x.2.2 0, x.2.2 1, y.2.2 0, y.2.2 1)
  else none
def nilK : Array Value := #[.slice none 0 0, .slice none 0 0, .slice none 0 0, .slice none 0 0]
def UpdPost (w : World) (r : Option (List Ky × List Ky × List Ky × List Ky)) (e : Ending) (w' : World) : Prop :=
  Below w.heap.size w w' ∧ match r with
  | none => e = .returned (.tuple #[.agg nilK, .int .i64 190])
  | some x => ∃ u1 u2 u3 u4, e = .returned (.tuple #[.agg #[u1, u2, u3, u4], .int .i64 0]) ∧ KV w' u1 x.1 ∧ KV w' u2 x.2.1 ∧ KV w' u3 x.2.2.1 ∧ KV w' u4 x.2.2.2
theorem fill_names {most : Int} : ∀ {ks : List Ky} {L : Int} {H : List Int} {x : Int × List Int × List Ky}, fill most L H ks = some x → x.2.2.map (·.n) = ks.map (·.n)
  | [], L, H, x, h => by simp [fill] at h; rw [← h]
  | k :: r, L, H, x, h => by
    unfold fill at h
    split at h
    · split at h
      · cases h
      · obtain ⟨y, hy, rfl⟩ := Option.map_eq_some_iff.1 h
        simp [fill_names hy]
    · obtain ⟨y, hy, rfl⟩ := Option.map_eq_some_iff.1 h
      simp [fill_names hy]
theorem accF_names {most : Int} {A B : List Ky} {x : Int × List Int × (Nat → List Ky)} (h : accF most (two A B) 2 = some x) : (x.2.2 0).map (·.n) = A.map (·.n) ∧ (x.2.2 1).map (·.n) = B.map (·.n) := by
  simp only [accF, Option.bind_eq_some_iff, Option.map_eq_some_iff] at h
  obtain ⟨y, ⟨z, hz, p, hp, rfl⟩, q, hq, rfl⟩ := h
  cases hz
  have h1 := fill_names hp
  have h2 := fill_names hq
  simp only [updM]
  exact ⟨by simpa [two] using h1, by simpa [two] using h2⟩
theorem keptS_ok (ks : List Ky) (kind : Int) {a : Option Addr} {n : Nat} {rs : List Rw} {w : World} (h : RS w a n rs) : (keptS ks kind rs).length ≤ 1034834473201 ∧ ∀ k ∈ keptS ks kind rs, k.n.size ≤ maxLen := by
  have hl := h.len
  have hr := h.room
  constructor
  · unfold keptS
    rw [List.length_map, srt_length]
    have := namesOf_len kind rs
    omega
  · intro k hk
    unfold keptS at hk
    obtain ⟨nm, hnm, rfl⟩ := List.mem_map.1 hk
    have hmem := srt_mem.1 hnm
    suffices hq : ∀ (rs : List Rw) (D : List ByteArray), (∀ r ∈ rs, RwOk r) → (∀ n ∈ D, n.size ≤ maxLen) → ∀ n ∈ rs.foldl (fun D r => if r.k = kind then addN D r.n else D) D, n.size ≤ maxLen from hq rs [] h.ok (by simp) nm hmem
    intro rs
    induction rs with
    | nil => intro D _ hD n hn; exact hD n hn
    | cons r t ih =>
      intro D hok hD
      refine ih _ (fun r hr => hok r (by simp [hr])) (fun m hm => ?_)
      dsimp only at hm
      split at hm
      · unfold addN at hm
        split at hm
        · exact hD m hm
        · rcases List.mem_append.1 hm with hm | hm
          · exact hD m hm
          · simp at hm; rw [hm]; exact (hok r (by simp)).short
      · exact hD m hm
theorem kv_names {w : World} {B : Nat} {v : Value} {A A' : List Ky} (h : w.ownsRow B 37 2 v A.length (rowK A')) (hn : A'.map (·.n) = A.map (·.n)) (hl : A.length ≤ 11728124029610) (hs : ∀ k ∈ A, k.n.size ≤ maxLen) : KV w v A' := by
  have hlen : A'.length = A.length := by have := congrArg List.length hn; simpa using this
  rw [← hlen] at h
  refine own_kv h (by omega) (fun k hk => ?_)
  have : k.n ∈ A'.map (·.n) := List.mem_map_of_mem hk
  rw [hn] at this
  obtain ⟨k', hk', e⟩ := List.mem_map.1 this
  rw [← e]; exact hs k' hk'
def two2 (a b : Value) : Nat → Value := fun j => if j = 0 then a else b
def twoN (a b : Nat) : Nat → Nat := fun j => if j = 0 then a else b
theorem own2_of {w0 W : World} {u1 u2 : Value} {A B : List Ky} {g : Nat} (hg : W.heap[g]? = some (.cells #[u1, u2] 22 (0, 0))) (h1 : W.ownsRow w0.heap.size 37 2 u1 A.length (rowK A)) (h2 : W.ownsRow w0.heap.size 37 2 u2 B.length (rowK B)) (hap : ∀ k, u1.ownBlock = some k → u2.ownBlock ≠ some k) :
    Own2 W w0.heap.size g (two2 u1 u2) (twoN A.length B.length) (two A B) := by
  refine ⟨hg, fun j hj => ?_, fun hne e => ?_⟩
  · match j, hj with
    | 0, _ => exact h1
    | 1, _ => exact h2
  · have e' : u1.ownBlock = u2.ownBlock := e
    have hne' : u1.ownBlock ≠ none := hne
    cases hk : u1.ownBlock with
    | none => exact hne' hk
    | some k => exact hap k hk (by rw [← e', hk])
theorem Made.store {w0 W W' : World} {us : List (Value × List Ky)} (h : Made w0 W us) {p : Nat} {cs : Array Value} {T : TypeId} (hp : W.heap[p]? = some (.cells cs T (0, 0))) (hT : T ≠ 37) (hf : Fr p W W') (hw : w0.heap.size ≤ p) : Made w0 W' us := by
  refine ⟨hf.to h.bel hw, fun u hu => own_fr (h.own u hu) hf (fun e => ?_), h.ap⟩
  obtain ⟨cur, hc⟩ := own_type (h.own u hu) e
  rw [hp] at hc
  simp at hc
  exact hT hc.2
/-- Four rows of one's own, apart from one another. -/
structure F4 (B : Nat) (W : World) (u1 u2 u3 u4 : Value) (n1 n2 n3 n4 : Nat) (M1 M2 M3 M4 : List Ky) : Prop where
  o1 : W.ownsRow B 37 2 u1 n1 (rowK M1)
  o2 : W.ownsRow B 37 2 u2 n2 (rowK M2)
  o3 : W.ownsRow B 37 2 u3 n3 (rowK M3)
  o4 : W.ownsRow B 37 2 u4 n4 (rowK M4)
  p12 : ∀ k, u1.ownBlock = some k → u2.ownBlock ≠ some k
  p13 : ∀ k, u1.ownBlock = some k → u3.ownBlock ≠ some k
  p14 : ∀ k, u1.ownBlock = some k → u4.ownBlock ≠ some k
  p23 : ∀ k, u2.ownBlock = some k → u3.ownBlock ≠ some k
  p24 : ∀ k, u2.ownBlock = some k → u4.ownBlock ≠ some k
  p34 : ∀ k, u3.ownBlock = some k → u4.ownBlock ≠ some k
theorem Made.four {w0 W : World} {u1 u2 u3 u4 : Value} {A B C D : List Ky} (h : Made w0 W [(u1, A), (u2, B), (u3, C), (u4, D)]) : F4 w0.heap.size W u1 u2 u3 u4 A.length B.length C.length D.length A B C D := by
  have hap := h.ap
  simp only [List.pairwise_cons, List.mem_cons, List.not_mem_nil, or_false, forall_eq_or_imp, forall_eq, List.Pairwise.nil, and_true, false_implies, implies_true] at hap
  obtain ⟨⟨a1, a2, a3⟩, ⟨b1, b2⟩, c1⟩ := hap
  exact ⟨h.own (u1, A) (by simp), h.own (u2, B) (by simp), h.own (u3, C) (by simp), h.own (u4, D) (by simp), a1, a2, a3, b1, b2, c1⟩
theorem own_frp {w w' : World} {base : Nat} {P : Nat → Prop} {e : TypeId} {k : Nat} {v : Value} {n : Nat} {xs : List Value} (h : w.ownsRow base e k v n xs) (hf : FrP P w w') (hne : ∀ q, v.ownBlock = some q → ¬ P q) : w'.ownsRow base e k v n xs := by
  refine ⟨h.1, ?_⟩
  rcases h.2 with h' | ⟨g, cap, cur, e1, e2, e3, e4⟩
  · exact .inl h'
  · exact .inr ⟨g, cap, cur, e1, e2, (hf.block _ (lt_of_heap e3) (hne g (by rw [e1]; rfl))).trans e3, e4⟩
theorem F4.keep {B : Nat} {W W' : World} {u1 u2 u3 u4 : Value} {n1 n2 n3 n4 : Nat} {M1 M2 M3 M4 : List Ky} (h : F4 B W u1 u2 u3 u4 n1 n2 n3 n4 M1 M2 M3 M4) (hb : Below W.heap.size W W') : F4 B W' u1 u2 u3 u4 n1 n2 n3 n4 M1 M2 M3 M4 :=
  ⟨own_below h.o1 hb, own_below h.o2 hb, own_below h.o3 hb, own_below h.o4 hb, h.p12, h.p13, h.p14, h.p23, h.p24, h.p34⟩
theorem F4.not {B : Nat} {W : World} {u1 u2 u3 u4 : Value} {n1 n2 n3 n4 : Nat} {M1 M2 M3 M4 : List Ky} (h : F4 B W u1 u2 u3 u4 n1 n2 n3 n4 M1 M2 M3 M4) {p : Nat} {cs : Array Value} {T : TypeId} (hp : W.heap[p]? = some (.cells cs T (0, 0))) (hT : T ≠ 37) : ¬ RowB (two2 u1 u2) p ∧ ¬ RowB (two2 u3 u4) p := by
  have key : ∀ {v : Value} {n : Nat} {xs : List Value}, W.ownsRow B 37 2 v n xs → v.ownBlock ≠ some p := fun ho e => by
    obtain ⟨cur, hc⟩ := own_type ho e
    rw [hp] at hc
    simp at hc
    exact hT hc.2
  exact ⟨fun e => e.elim (key h.o1) (key h.o2), fun e => e.elim (key h.o3) (key h.o4)⟩
theorem F4.first {B g : Nat} {W W' : World} {u1 u2 u3 u4 : Value} {n1 n2 n3 n4 : Nat} {M1 M2 M3 M4 : List Ky} {M : Nat → List Ky} (h : F4 B W u1 u2 u3 u4 n1 n2 n3 n4 M1 M2 M3 M4) (hf : FrP (RowB (two2 u1 u2)) W W') (ho : Own2 W' B g (two2 u1 u2) (twoN n1 n2) M) : F4 B W' u1 u2 u3 u4 n1 n2 n3 n4 (M 0) (M 1) M3 M4 :=
  ⟨ho.own 0 (by omega), ho.own 1 (by omega), own_frp h.o3 hf (fun q hq e => e.elim (fun e => h.p13 q e hq) (fun e => h.p23 q e hq)), own_frp h.o4 hf (fun q hq e => e.elim (fun e => h.p14 q e hq) (fun e => h.p24 q e hq)), h.p12, h.p13, h.p14, h.p23, h.p24, h.p34⟩
theorem F4.second {B g : Nat} {W W' : World} {u1 u2 u3 u4 : Value} {n1 n2 n3 n4 : Nat} {M1 M2 M3 M4 : List Ky} {M : Nat → List Ky} (h : F4 B W u1 u2 u3 u4 n1 n2 n3 n4 M1 M2 M3 M4) (hf : FrP (RowB (two2 u3 u4)) W W') (ho : Own2 W' B g (two2 u3 u4) (twoN n3 n4) M) : F4 B W' u1 u2 u3 u4 n1 n2 n3 n4 M1 M2 (M 0) (M 1) :=
  ⟨own_frp h.o1 hf (fun q hq e => e.elim (fun e => h.p13 q hq e) (fun e => h.p14 q hq e)), own_frp h.o2 hf (fun q hq e => e.elim (fun e => h.p23 q hq e) (fun e => h.p24 q hq e)), ho.own 0 (by omega), ho.own 1 (by omega), h.p12, h.p13, h.p14, h.p23, h.p24, h.p34⟩
theorem F4.low {B : Nat} {W : World} {u1 u2 u3 u4 : Value} {n1 n2 n3 n4 : Nat} {M1 M2 M3 M4 : List Ky} (h : F4 B W u1 u2 u3 u4 n1 n2 n3 n4 M1 M2 M3 M4) : (∀ k, RowB (two2 u1 u2) k → B ≤ k) ∧ (∀ k, RowB (two2 u3 u4) k → B ≤ k) :=
  ⟨fun k e => e.elim (fun e => (World.ownsRow.lt h.o1 k e).1) (fun e => (World.ownsRow.lt h.o2 k e).1), fun k e => e.elim (fun e => (World.ownsRow.lt h.o3 k e).1) (fun e => (World.ownsRow.lt h.o4 k e).1)⟩
theorem F4.set {B p : Nat} {W W' : World} {u1 u2 u3 u4 : Value} {n1 n2 n3 n4 : Nat} {M1 M2 M3 M4 : List Ky} (h : F4 B W u1 u2 u3 u4 n1 n2 n3 n4 M1 M2 M3 M4) (hf : Fr p W W') (hn : ¬ RowB (two2 u1 u2) p ∧ ¬ RowB (two2 u3 u4) p) : F4 B W' u1 u2 u3 u4 n1 n2 n3 n4 M1 M2 M3 M4 :=
  ⟨own_fr h.o1 hf (fun e => hn.1 (.inl e)), own_fr h.o2 hf (fun e => hn.1 (.inr e)), own_fr h.o3 hf (fun e => hn.2 (.inl e)), own_fr h.o4 hf (fun e => hn.2 (.inr e)), h.p12, h.p13, h.p14, h.p23, h.p24, h.p34⟩
end Go.Proofs.Ythejehbhjkmeeaa
