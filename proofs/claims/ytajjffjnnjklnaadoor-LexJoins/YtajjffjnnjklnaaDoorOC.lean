/- The tokens of a text with blanks ahead and one behind (plain facts). Conditions: none. -/
import Derived.Test.YtajjffjnnjklnaaDoorOB
import Derived.Test.YtajjffjnnjklnaaDoorOA
namespace Go.Proofs.YtajjffjnnjklnaaDoor
open Go.Shelf Go.RowKit
def core (x : Tk) : Int × ByteArray × Int := (x.k, x.t, x.n)
def AlikeC (L M : List Tk) : Prop := L.map core = M.map core
theorem AlikeC.alike {L M : List Tk} (h : AlikeC L M) : Alike L M := by
  have hl : L.length = M.length := by have := congrArg List.length h; simpa using this
  refine ⟨hl, fun i x y hx hy => ?_⟩
  have h1 : (L.map core)[i]? = some (core x) := by rw [List.getElem?_map, hx]; rfl
  have h2 : (M.map core)[i]? = some (core y) := by rw [List.getElem?_map, hy]; rfl
  rw [h, h2] at h1
  have h3 : core y = core x := Option.some.inj h1
  have a1 : y.k = x.k := congrArg Prod.fst h3
  have a2 : y.t = x.t := congrArg (fun q => q.2.1) h3
  have a3 : y.n = x.n := congrArg (fun q => q.2.2) h3
  exact ⟨a1.symm, a2.symm, a3.symm⟩
theorem AlikeC.snoc {L M : List Tk} {x y : Tk} (h : AlikeC L M) (hc : core x = core y) : AlikeC (L ++ [x]) (M ++ [y]) := by
  unfold AlikeC at h ⊢
  rw [List.map_append, List.map_append, h, List.map_singleton, List.map_singleton, hc]
theorem ext_r2 (t v : ByteArray) (p n : Nat) (hn : n = (t ++ v).size) : (t ++ v).extract (t.size + p) n = v.extract p v.size := by
  subst hn
  apply ext_bytes
  · rw [ByteArray.size_extract, ByteArray.size_extract, size_app]; omega
  · intro i hi
    rw [ByteArray.size_extract, size_app] at hi
    rw [byt_x (by rw [size_app]; omega), byt_x (by omega), show t.size + p + i = t.size + (p + i) by omega, byt_r]
/-- What the longer text's answer is. -/
def SimAns (t W : ByteArray) (r r' : Option (List Tk) × Nat) : Prop := match r with
  | (some L, _) => ∃ L', r' = (some (L' ++ [⟨7, ⟨#[]⟩, 0, (W.size : Nat)⟩]), 0) ∧ AlikeC L (L' ++ [⟨7, ⟨#[]⟩, 0, (W.size : Nat)⟩])
  | (none, p) => r' = (none, t.size + p)
theorem tokF_succ (s : ByteArray) (f k : Nat) (acc : List Tk) : tokF s (f + 1) k acc =
    if k + blkS (s.extract k s.size) = s.size then (some (acc ++ [⟨7, ⟨#[]⟩, 0, (s.size : Nat)⟩]), 0)
    else if (longS (s.extract (k + blkS (s.extract k s.size)) s.size)).2 = 0 then (none, k + blkS (s.extract k s.size))
    else tokF s f (k + blkS (s.extract k s.size) + (longS (s.extract (k + blkS (s.extract k s.size)) s.size)).2) (acc ++ [{ (longS (s.extract (k + blkS (s.extract k s.size)) s.size)).1 with a := ((k + blkS (s.extract k s.size) : Nat) : Int) }]) := rfl
theorem tokF_sim (t s W : ByteArray) (hWW : t ++ (s ++ spc) = W) : ∀ (f f' k : Nat) (acc acc' : List Tk), k ≤ s.size → s.size - k < f → s.size + 1 - k < f' → AlikeC acc acc' → SimAns t W (tokF s f k acc) (tokF W f' (t.size + k) acc') := by
  have hW : W.size = t.size + (s.size + 1) := by rw [← hWW, size_app, size_app]; rfl
  have hx : ∀ p, p ≤ s.size → W.extract (t.size + p) W.size = s.extract p s.size ++ spc := fun p hp => by
    rw [← hWW, ext_r2 t (s ++ spc) p _ rfl, ext_r1 hp rfl]
  clear hWW
  intro f
  induction f with
  | zero => intro f' k acc acc' _ h; omega
  | succ f ih =>
    intro f' k acc acc' hk h1 h2 hA
    obtain ⟨f', rfl⟩ : ∃ g, f' = g + 1 := ⟨f' - 1, by omega⟩
    have hu : (s.extract k s.size).size = s.size - k := by rw [ByteArray.size_extract]; omega
    have hb := blkS_le (s.extract k s.size)
    have hbs := blkS_spc (s.extract k s.size)
    rw [← hx k hk] at hbs
    rw [hu] at hb hbs
    rw [tokF_succ s, tokF_succ W, hbs]
    clear hbs
    generalize blkS (s.extract k s.size) = b at *
    by_cases he : b = s.size - k
    · rw [if_pos (show k + b = s.size by omega), if_pos he, if_pos (show t.size + k + (s.size - k + 1) = W.size by omega)]
      exact ⟨acc', rfl, hA.snoc rfl⟩
    · rw [if_neg he]
      rw [if_neg (show ¬ k + b = s.size by omega), if_neg (show ¬ t.size + k + b = W.size by omega)]
      have hp : k + b ≤ s.size := by omega
      have hv : 0 < (s.extract (k + b) s.size).size := by rw [ByteArray.size_extract]; omega
      rw [show t.size + k + b = t.size + (k + b) by omega, hx _ hp, inv_long hv]
      have hfit := (fits_long (s.extract (k + b) s.size)).1
      rw [show (s.extract (k + b) s.size).size = s.size - (k + b) by rw [ByteArray.size_extract]; omega] at hfit
      generalize longS (s.extract (k + b) s.size) = x at *
      by_cases hm : x.2 = 0
      · rw [if_pos hm, if_pos hm]
        exact rfl
      · rw [if_neg hm, if_neg hm, show t.size + (k + b) + x.2 = t.size + (k + b + x.2) by omega]
        exact ih f' (k + b + x.2) _ _ (by omega) (by omega) (by omega) (hA.snoc rfl)
/-- The tokens of the longer text. -/
theorem toks_blank {t s : ByteArray} (h : Pre t) : SimAns t (t ++ (s ++ spc)) (tokS s) (tokS (t ++ (s ++ spc))) := by
  have hW : (t ++ (s ++ spc)).size = t.size + (s.size + 1) := by rw [size_app, size_app]; rfl
  have hb := blkS_pre h (s ++ spc)
  have e : tokS (t ++ (s ++ spc)) = tokF (t ++ (s ++ spc)) ((t ++ (s ++ spc)).size + 1) (t.size + 0) [] := by
    have hx : (t ++ (s ++ spc)).extract (t.size + 0) (t ++ (s ++ spc)).size = s ++ spc := by
      rw [ext_r2 t (s ++ spc) 0 _ rfl, ext_all]
    unfold tokS
    rw [tokF_succ, tokF_succ, ext_all, hb, hx]
    simp only [Nat.zero_add, Nat.add_zero]
  rw [e]
  exact tokF_sim t s _ rfl (s.size + 1) _ 0 [] [] (Nat.zero_le _) (by omega) (by omega) rfl
end Go.Proofs.YtajjffjnnjklnaaDoor
