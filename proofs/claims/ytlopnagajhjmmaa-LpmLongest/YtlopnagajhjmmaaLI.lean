/- A trie that grows: node.grow. Conditions: as said. -/
import Derived.Test.YtlopnagajhjmmaaLH
import Derived.Deep.RegionHeld3
namespace Go.Proofs.Ytlopnagajhjmmaa
open Go.RowKit Tr
/-- What a call may change: the blocks of a list; the rest stays. -/
structure Keeps (S : List Nat) (w w' : World) : Prop where
  os : w'.os = w.os
  tape : w'.tape = w.tape
  output : w'.output = w.output
  size : w.heap.size ≤ w'.heap.size
  block : ∀ k, k < w.heap.size → k ∉ S → w'.heap[k]? = w.heap[k]?
theorem Keeps.refl (S : List Nat) (w : World) : Keeps S w w := ⟨rfl, rfl, rfl, Nat.le_refl _, fun _ _ _ => rfl⟩
theorem Keeps.trans {S S' : List Nat} {w w' w'' : World} (h : Keeps S w w') (h' : Keeps S' w' w'') (hs : ∀ x ∈ S', x ∈ S ∨ w.heap.size ≤ x) : Keeps S w w'' :=
  ⟨h'.os.trans h.os, h'.tape.trans h.tape, h'.output.trans h.output, Nat.le_trans h.size h'.size, fun k hk hn =>
    (h'.block k (Nat.lt_of_lt_of_le hk h.size) (fun hx => by rcases hs k hx with g | g; exact hn g; omega)).trans (h.block k hk hn)⟩
theorem Keeps.of_below {w w' : World} (S : List Nat) (h : Below w.heap.size w w') : Keeps S w w' := ⟨h.os, h.tape, h.output, h.size, fun k hk _ => h.block k hk⟩
theorem Keeps.below {S : List Nat} {w w' : World} (h : Keeps S w w') {B : Nat} (hB : B ≤ w.heap.size) (hs : ∀ x ∈ S, B ≤ x) : Below B w w' :=
  ⟨h.os, h.tape, h.output, h.size, fun k hk => h.block k (by omega) (fun hx => by have := hs k hx; omega)⟩
theorem Keeps.mono {S S' : List Nat} {w w' : World} (h : Keeps S w w') (hs : ∀ x ∈ S, x ∈ S') : Keeps S' w w' := ⟨h.os, h.tape, h.output, h.size, fun k hk hn => h.block k hk (fun hx => hn (hs k hx))⟩
theorem Keeps.alloc (S : List Nat) (w : World) (A : Obj) : Keeps S w (w.alloc A) := Keeps.of_below S (below1 w A)
theorem Keeps.setCell (w : World) (b o : Nat) (v : Value) : Keeps [b] w (w.setCell ⟨b, o, none⟩ v) :=
  ⟨rfl, rfl, rfl, by simp [World.setCell], fun k _ hn => Below.heap_setCell _ _ _ _ (by simpa using hn)⟩
theorem Keeps.drewN (S : List Nat) (w : World) (n : Nat) : Keeps S w (w.drewN n) := ⟨rfl, rfl, rfl, Nat.le_refl _, fun _ _ _ => rfl⟩
/-- A node's cells with another kid. -/
def withKid (ps : BitVec 32) (ns : Nat) (vs : Int) (th : Bool) (l r : Option Nat) (s : Bool) (k : Option Nat) : Array Value := nodC ps ns vs th (kp (if s then l else k)) (kp (if s then k else r))
theorem set_kid (ps : BitVec 32) (ns : Nat) (vs : Int) (th : Bool) (l r : Option Nat) (ip : BitVec 32) (n : Nat) (k : Option Nat) : (nodC ps ns vs th (kp l) (kp r)).setIfInBounds (4 + bitN ip n) (kp k) = withKid ps ns vs th l r (ip.getMsbD n) k := by
  unfold bitN withKid
  cases ip.getMsbD n <;> rfl
theorem withKid_at (ps : BitVec 32) (ns : Nat) (vs : Int) (th : Bool) (l r : Option Nat) (ip : BitVec 32) (n : Nat) (k : Option Nat) : (withKid ps ns vs th l r (ip.getMsbD n) k)[4 + bitN ip n]? = some (kp k) := by
  unfold bitN withKid
  cases ip.getMsbD n <;> rfl
theorem set_withKid (ps : BitVec 32) (ns : Nat) (vs : Int) (th : Bool) (l r : Option Nat) (ip : BitVec 32) (n : Nat) (k k' : Option Nat) : (withKid ps ns vs th l r (ip.getMsbD n) k).setIfInBounds (4 + bitN ip n) (kp k') = withKid ps ns vs th l r (ip.getMsbD n) k' := by
  unfold bitN withKid
  cases ip.getMsbD n <;> rfl
theorem xor_lz (p p' : BitVec 32) : (32 : Int) - (Lib.bitLen ((p ^^^ p').toNat : Int).toNat : Int) = (lz p p' : Int) := by
  have := bl_le (p ^^^ p')
  unfold lz
  simp only [Int.toNat_natCast]
  omega
set_option maxRecDepth 20000 in
set_option maxHeartbeats 2000000 in
theorem grow_any {w : World} {b : Nat} {ps : BitVec 32} {ns : Nat} {vs : Int} {th : Bool} {l r : Tr} (h : Own w (node b ps ns vs th l r)) (hns : ns ≤ 32) (p : BitVec 32) (m : Nat) (hm : m ≤ 32) (hb : b ∉ (kidAt p ns l r).blocks) :
    Calls Try.prog 25 #[ptr b, .int .u32 p.toNat, .int .i64 m] w fun e w' => e = .returned (ptr w.heap.size) ∧ Own w' (grown p m (kidAt p ns l r) w.heap.size 0 false) ∧ w'.heap[b]? = some (.cells (withKid ps ns vs th l.bk r.bk (p.getMsbD ns) (grown p m (kidAt p ns l r) w.heap.size 0 false).bk) 57 (0, 0)) ∧ Keeps [b] w w' := by
  have hbl := lt_of_heap h.1
  have hbn : b ≠ w.heap.size := by omega
  obtain ⟨A, hA⟩ : ∃ A, A = Obj.cells (nodC p m 0 false (kp none) (kp none)) 57 := ⟨_, rfl⟩
  have hb1 : (w.alloc A).heap[b]? = _ := (heap_alloc_old _ _ hbl).trans h.1
  have HTW : Hid _ := toward_any hb1 hns p
  have HN : Hid _ := nodeOf_any p m w
  rw [← hA] at HN
  have HA : Hid _ := hA
  clear hA
  have ow : Own (w.alloc A) (node b ps ns vs th l r) := own_frame h fun x hx => heap_alloc_old _ _ (own_lt h x hx)
  have hkc := kid_cell ow p
  have hfz := frozen_of_row (w.alloc A) b (4 + bitN p ns) _ _ hb1
  have ok : Own w (kidAt p ns l r) := by
    unfold kidAt; split
    · exact h.2.2
    · exact h.2.1
  cases hk : kidAt p ns l r with
  | nil =>
    rw [hk] at hkc
    have hkc' : (w.alloc A).cell? ⟨b, 4 + bitN p ns, none⟩ = some (.pointer none) := hkc
    clear hkc
    go_enter Try.func25, Try.ntmps25
    go_wp2_with (first
      | (go_at_call 35; refine Calls.mono HN.out ?_; rintro e w9 ⟨rfl, rfl⟩; skip)
      | (go_at_call 33; refine Calls.mono HTW.out ?_; rintro e w9 ⟨rfl, kk, rfl⟩; skip)
      | fail)
    go_ret
    have hk0 := row_setCell (w := (w.alloc A).drewN kk) hb1 (4 + bitN p ns) (ptr w.heap.size)
    refine ⟨rfl, ?_, ?_, ?_⟩
    · refine ⟨(Below.heap_setCell _ _ _ _ (by exact fun e => hbn e.symm)).trans ((heap_alloc_new _ _).trans (by rw [HA.out]; rfl)), trivial, trivial⟩
    · rw [hk0]
      exact congrArg (fun z => some (Obj.cells z 57 (0, 0))) (set_kid ps ns vs th l.bk r.bk p ns (some w.heap.size))
    · exact ((Keeps.alloc [b] w A).trans (Keeps.drewN [] _ kk) (by simp)).trans (Keeps.setCell _ b _ _) (by simp)
  | node b' p' n' v' th' l' r' =>
    rw [hk] at hkc hb ok
    have hkc' : (w.alloc A).cell? ⟨b, 4 + bitN p ns, none⟩ = some (ptr b') := hkc
    have hbb : b ≠ b' := fun e => hb (by simp [blocks, e])
    have hb'l : b' < w.heap.size := lt_of_heap ok.1
    have hbn' : b' ≠ w.heap.size := by omega
    have hpc : (w.alloc A).cell? ⟨b', 0, none⟩ = some (.int .u32 p'.toNat) := (cell_row ((heap_alloc_old _ _ hb'l).trans ok.1) 0)
    clear hkc
    have HX : Hid (bits BinOp.xor IntKind.u32 p.toNat p'.toNat = ((p ^^^ p').toNat : Int)) := by
      show _ = _
      rw [bits_xor, bv_nat, bv_nat]
    have HLZ : Hid (∀ W, Calls Try.prog 36 #[.int .u32 (bits BinOp.xor IntKind.u32 p.toNat p'.toNat)] W fun e w' => e = .returned (.int .i64 (lz p p' : Int)) ∧ w' = W) := by
      intro W
      rw [HX.out, ← xor_lz]
      exact lz32_any _ W (nat_in _).1 (nat_in _).2
    have hlz := lz_le p p'
    by_cases hz : m ≤ lz p p'
    · have hz' : min (m : Int) (lz p p' : Int) = m := by omega
      have hz2 : (m : Int) ≤ (lz p p' : Int) := by omega
      go_enter Try.func25, Try.ntmps25
      go_wp2_with (first
        | (go_at_call 35; refine Calls.mono HN.out ?_; rintro e w9 ⟨rfl, rfl⟩; skip)
        | (go_at_call 33; refine Calls.mono HTW.out ?_; rintro e w9 ⟨rfl, kk, rfl⟩; skip)
        | (go_at_call 36; refine Calls.mono (HLZ.out _) ?_; rintro e w9 ⟨rfl, rfl⟩; skip)
        | fail)
      obtain ⟨W4, hW4⟩ : ∃ W4, W4 = ((w.alloc A).drewN kk).setCell ⟨b, 4 + bitN p ns, none⟩ (ptr w.heap.size) := ⟨_, rfl⟩
      rw [← hW4]
      have rb4 : W4.heap[b]? = some (.cells (withKid ps ns vs th l.bk r.bk (p.getMsbD ns) (some w.heap.size)) 57 (0, 0)) := by
        rw [hW4, row_setCell (w := (w.alloc A).drewN kk) hb1 (4 + bitN p ns) (ptr w.heap.size)]
        exact congrArg (fun z => some (Obj.cells z 57 (0, 0))) (set_kid ps ns vs th l.bk r.bk p ns (some w.heap.size))
      have rm4 : W4.heap[w.heap.size]? = some (.cells (nodC p m 0 false (kp none) (kp none)) 57 (0, 0)) := by
        rw [hW4]; exact (Below.heap_setCell _ _ _ _ (fun e => hbn e.symm)).trans ((heap_alloc_new _ _).trans (by rw [HA.out]))
      have K4 : Keeps [b] w W4 := by
        rw [hW4]; exact ((Keeps.alloc [b] w A).trans (Keeps.drewN [] _ kk) (by simp)).trans (Keeps.setCell _ b _ _) (by simp)
      have cW : W4.cell? ⟨b, 4 + bitN p ns, none⟩ = some (ptr w.heap.size) := by
        rw [cell_row rb4]; exact withKid_at _ _ _ _ _ _ _ _ _
      have pW : W4.cell? ⟨b', 0, none⟩ = some (.int .u32 p'.toNat) := cell_row ((K4.block b' hb'l (by simpa using hbb.symm)).trans ok.1) 0
      have HT2 : Hid (Calls Try.prog 33 #[ptr w.heap.size, .int .u32 p'.toNat] W4.drew fun e w' => e = .returned (.pointer (some ⟨w.heap.size, 4 + bitN p' m, none⟩)) ∧ ∃ j, w' = W4.drew.drewN j) := toward_any (w := W4.drew) rm4 hm p'
      have HT0 : Hid (Calls Try.prog 33 #[ptr w.heap.size, .int .u32 p'.toNat] W4 fun e w' => e = .returned (.pointer (some ⟨w.heap.size, 4 + bitN p' m, none⟩)) ∧ ∃ j, w' = W4.drewN j) := toward_any (w := W4) rm4 hm p'
      have cm := cell_row rm4 (4 + bitN p' m)
      have fm := frozen_of_row W4 _ (4 + bitN p' m) _ _ rm4
      have cm' : W4.cell? ⟨w.heap.size, 4 + bitN p' m, none⟩ = some (.pointer none) := by
        rw [cm]; unfold bitN; cases p'.getMsbD m <;> rfl
      clear HTW HN hkc' hfz hpc hb1 cm hW4
      go_region_held3 (fun V => V.cell? ⟨b, 4 + bitN p ns, none⟩ = some (ptr w.heap.size) ∧ V.cell? ⟨b', 0, none⟩ = some (.int .u32 p'.toNat))
        (first
          | exact ⟨cW, pW⟩
          | exact ⟨(World.cell?_setCell_other _ _ _ _ (fun e => hbn (congrArg Addr.block e))).trans cW, (World.cell?_setCell_other _ _ _ _ (fun e => hbn' (congrArg Addr.block e))).trans pW⟩
          | exact ⟨(World.cell?_setCell_other _ _ _ _ (fun e => hbn (congrArg Addr.block e).symm)).trans cW, (World.cell?_setCell_other _ _ _ _ (fun e => hbn' (congrArg Addr.block e).symm)).trans pW⟩
          | fail)
        (first
          | (go_at_call 33; refine Calls.mono HT0.out ?_; rintro e w9 ⟨rfl, k2, rfl⟩; skip)
          | (go_at_call 33; refine Calls.mono HT2.out ?_; rintro e w9 ⟨rfl, k2, rfl⟩; skip)
          | fail)
      go_wp2
      go_ret
      refine ⟨rfl, ?_, ?_, ?_⟩
      · rw [grown_le hz]
        have hrow := row_setCell (w := W4.drewN (1 + k2)) rm4 (4 + bitN p' m) (kp (some b'))
        rw [set_kid p m 0 false none none p' m (some b')] at hrow
        have okW : Own ((W4.drewN (1 + k2)).setCell ⟨w.heap.size, 4 + bitN p' m, none⟩ (ptr b')) (node b' p' n' v' th' l' r') := own_frame ok fun x hx => by
          have hxl := own_lt ok x hx
          exact (Below.heap_setCell _ _ _ _ (show x ≠ w.heap.size by omega)).trans (K4.block x hxl (by simp; intro e; exact hb (e ▸ hx)))
        unfold twoKids
        unfold withKid at hrow
        revert hrow
        cases p'.getMsbD m
        · exact fun hrow => ⟨hrow, okW, trivial⟩
        · exact fun hrow => ⟨hrow, trivial, okW⟩
      · rw [grown_le hz]
        exact (Below.heap_setCell _ _ _ _ hbn).trans rb4
      · exact (K4.trans (Keeps.drewN [] _ _) (by simp)).trans (Keeps.setCell _ w.heap.size _ _) (by simp)
    · have hz2 : (lz p p' : Int) < (m : Int) := by omega
      have hz3 : min (m : Int) (lz p p' : Int) = lz p p' := by omega
      have hs32 : lz p p' < 32 := by omega
      obtain ⟨fp, hfp⟩ : ∃ fp, fp = p &&& msk (lz p p') := ⟨_, rfl⟩
      have HBA : Hid (bits BinOp.and IntKind.u32 p.toNat (mskI (lz p p' : Int)).toNat = (fp.toNat : Int)) := by
        show _ = _
        rw [bits_and, bv_nat, bv_nat, mskI_mid _ (by omega), hfp]
      have HN2 : Hid (∀ W, Calls Try.prog 35 #[.int .u32 (bits BinOp.and IntKind.u32 p.toNat (mskI (lz p p' : Int)).toNat), .int .i64 (lz p p' : Int)] W fun e w' => e = .returned (ptr W.heap.size) ∧ w' = W.alloc (.cells (nodC fp (lz p p') 0 false (kp none) (kp none)) 57)) := by
        intro W
        rw [HBA.out]
        exact nodeOf_any fp (lz p p') W
      have HFP : Hid _ := hfp
      clear hfp
      go_enter Try.func25, Try.ntmps25
      go_wp2_with fail
      refine Calls.mono HN.out ?_
      rintro e w9 ⟨rfl, rfl⟩
      go_wp2_with (first
        | (go_at_call 33; refine Calls.mono HTW.out ?_; rintro e w9 ⟨rfl, kk, rfl⟩; skip)
        | (go_at_call 36; refine Calls.mono (HLZ.out _) ?_; rintro e w9 ⟨rfl, rfl⟩; skip)
        | (go_at_call 19; refine (mask_any _ _).mono ?_; rintro e w9 ⟨rfl, rfl⟩; skip)
        | fail)
      obtain ⟨W4, hW4⟩ : ∃ W4, W4 = ((w.alloc A).drewN kk).setCell ⟨b, 4 + bitN p ns, none⟩ (ptr w.heap.size) := ⟨_, rfl⟩
      rw [← hW4]
      have s4 : W4.heap.size = w.heap.size + 1 := by rw [hW4]; simp [World.setCell]
      have rb4 : W4.heap[b]? = some (.cells (withKid ps ns vs th l.bk r.bk (p.getMsbD ns) (some w.heap.size)) 57 (0, 0)) := by
        rw [hW4, row_setCell (w := (w.alloc A).drewN kk) hb1 (4 + bitN p ns) (ptr w.heap.size)]
        exact congrArg (fun z => some (Obj.cells z 57 (0, 0))) (set_kid ps ns vs th l.bk r.bk p ns (some w.heap.size))
      have rm4 : W4.heap[w.heap.size]? = some (.cells (nodC p m 0 false (kp none) (kp none)) 57 (0, 0)) := by
        rw [hW4]; exact (Below.heap_setCell _ _ _ _ (fun e => hbn e.symm)).trans ((heap_alloc_new _ _).trans (by rw [HA.out]))
      have K4 : Keeps [b] w W4 := by
        rw [hW4]; exact ((Keeps.alloc [b] w A).trans (Keeps.drewN [] _ kk) (by simp)).trans (Keeps.setCell _ b _ _) (by simp)
      clear hW4
      refine Calls.mono (HN2.out _) ?_
      rintro e w9 ⟨rfl, rfl⟩
      rw [s4]
      obtain ⟨W5, hW5⟩ : ∃ W5, W5 = W4.alloc (.cells (nodC fp (lz p p') 0 false (kp none) (kp none)) 57) := ⟨_, rfl⟩
      rw [← hW5]
      have rb5 : W5.heap[b]? = some (.cells (withKid ps ns vs th l.bk r.bk (p.getMsbD ns) (some w.heap.size)) 57 (0, 0)) := by rw [hW5]; exact (heap_alloc_old _ _ (by omega)).trans rb4
      have rm5 : W5.heap[w.heap.size]? = some (.cells (nodC p m 0 false (kp none) (kp none)) 57 (0, 0)) := by rw [hW5]; exact (heap_alloc_old _ _ (by omega)).trans rm4
      have rf5 : W5.heap[w.heap.size + 1]? = some (.cells (nodC fp (lz p p') 0 false (kp none) (kp none)) 57 (0, 0)) := by rw [hW5, ← s4]; exact heap_alloc_new _ _
      have K5 : Keeps [b] w W5 := by rw [hW5]; exact K4.trans (Keeps.alloc [] _ _) (by simp)
      clear hW5 K4 rm4 rb4 s4
      have HT5 : Hid _ := toward_any rf5 (by omega) p
      have cf5 : W5.cell? ⟨w.heap.size + 1, 4 + bitN p (lz p p'), none⟩ = some (.pointer none) := by
        rw [cell_row rf5]; unfold bitN; cases p.getMsbD (lz p p') <;> rfl
      have ff5 := frozen_of_row W5 _ (4 + bitN p (lz p p')) _ _ rf5
      have cb5 : W5.cell? ⟨b, 4 + bitN p ns, none⟩ = some (ptr w.heap.size) := by
        rw [cell_row rb5]; exact withKid_at _ _ _ _ _ _ _ _ _
      have fb5 := frozen_of_row W5 _ (4 + bitN p ns) _ _ rb5
      have hb2 : b ≠ w.heap.size + 1 := by omega
      have hb2' : b' ≠ w.heap.size + 1 := by omega
      clear HTW HN hkc' hfz hpc hb1 HLZ HN2
      go_wp2_with (first
        | (go_at_call 33; refine Calls.mono HT5.out ?_; rintro e w9 ⟨rfl, k5, rfl⟩; skip)
        | fail)
      obtain ⟨W6, hW6⟩ : ∃ W6, W6 = ((W5.drewN k5).setCell ⟨w.heap.size + 1, 4 + bitN p (lz p p'), none⟩ (ptr w.heap.size)).setCell ⟨b, 4 + bitN p ns, none⟩ (ptr (w.heap.size + 1)) := ⟨_, rfl⟩
      rw [← hW6]
      have h1 : ((W5.drewN k5).setCell ⟨w.heap.size + 1, 4 + bitN p (lz p p'), none⟩ (ptr w.heap.size)).heap[b]? = some (.cells (withKid ps ns vs th l.bk r.bk (p.getMsbD ns) (some w.heap.size)) 57 (0, 0)) := (Below.heap_setCell _ _ _ _ hb2).trans rb5
      have rb6 : W6.heap[b]? = some (.cells (withKid ps ns vs th l.bk r.bk (p.getMsbD ns) (some (w.heap.size + 1))) 57 (0, 0)) := by
        rw [hW6, row_setCell h1 (4 + bitN p ns) (ptr (w.heap.size + 1))]
        exact congrArg (fun z => some (Obj.cells z 57 (0, 0))) (set_withKid ps ns vs th l.bk r.bk p ns _ (some (w.heap.size + 1)))
      have rf6 : W6.heap[w.heap.size + 1]? = some (.cells (withKid fp (lz p p') 0 false none none (p.getMsbD (lz p p')) (some w.heap.size)) 57 (0, 0)) := by
        rw [hW6]
        refine (Below.heap_setCell _ _ _ _ (fun e => hb2 e.symm)).trans ?_
        rw [row_setCell (w := W5.drewN k5) rf5 (4 + bitN p (lz p p')) (ptr w.heap.size)]
        exact congrArg (fun z => some (Obj.cells z 57 (0, 0))) (set_kid fp (lz p p') 0 false none none p (lz p p') (some w.heap.size))
      have rm6 : W6.heap[w.heap.size]? = some (.cells (nodC p m 0 false (kp none) (kp none)) 57 (0, 0)) := by
        rw [hW6]
        exact (Below.heap_setCell _ _ _ _ (fun e => hbn e.symm)).trans ((Below.heap_setCell _ _ _ _ (by show w.heap.size ≠ w.heap.size + 1; omega)).trans rm5)
      have K6 : Keeps [b] w W6 := by
        rw [hW6]
        exact ((K5.trans (Keeps.drewN [] _ _) (by simp)).trans (Keeps.setCell _ (w.heap.size + 1) _ _) (by simp)).trans (Keeps.setCell _ b _ _) (by simp)
      clear hW6 h1 rb5 rm5 rf5 K5 cf5 ff5 cb5 fb5 HT5
      have cW : W6.cell? ⟨b, 4 + bitN p ns, none⟩ = some (ptr (w.heap.size + 1)) := by
        rw [cell_row rb6]; exact withKid_at _ _ _ _ _ _ _ _ _
      have pW : W6.cell? ⟨b', 0, none⟩ = some (.int .u32 p'.toNat) := cell_row ((K6.block b' hb'l (by simpa using hbb.symm)).trans ok.1) 0
      have HT2 : Hid (Calls Try.prog 33 #[ptr (w.heap.size + 1), .int .u32 p'.toNat] W6.drew fun e w' => e = .returned (.pointer (some ⟨w.heap.size + 1, 4 + bitN p' (lz p p'), none⟩)) ∧ ∃ j, w' = W6.drew.drewN j) := toward_any (w := W6.drew) rf6 (by omega) p'
      have hne := lz_other (a := p) (b := p') hs32
      have cm' : W6.cell? ⟨w.heap.size + 1, 4 + bitN p' (lz p p'), none⟩ = some (.pointer none) := by
        rw [cell_row rf6]; revert hne; unfold bitN withKid; cases p.getMsbD (lz p p') <;> cases p'.getMsbD (lz p p') <;> first | (intro h; exact absurd rfl h) | (intro; rfl)
      have fm := frozen_of_row W6 _ (4 + bitN p' (lz p p')) _ _ rf6
      go_region_held3 (fun V => V.cell? ⟨b, 4 + bitN p ns, none⟩ = some (ptr (w.heap.size + 1)) ∧ V.cell? ⟨b', 0, none⟩ = some (.int .u32 p'.toNat))
        (first
          | exact ⟨cW, pW⟩
          | exact ⟨(World.cell?_setCell_other _ _ _ _ (fun e => hb2 (congrArg Addr.block e))).trans cW, (World.cell?_setCell_other _ _ _ _ (fun e => hb2' (congrArg Addr.block e))).trans pW⟩
          | exact ⟨(World.cell?_setCell_other _ _ _ _ (fun e => hb2 (congrArg Addr.block e).symm)).trans cW, (World.cell?_setCell_other _ _ _ _ (fun e => hb2' (congrArg Addr.block e).symm)).trans pW⟩
          | fail)
        (first
          | (go_at_call 33; refine Calls.mono HT2.out ?_; rintro e w9 ⟨rfl, k2, rfl⟩; skip)
          | fail)
      go_wp2
      go_ret
      refine ⟨rfl, ?_, ?_, ?_⟩
      · rw [grown_gt hz, ← HFP.out]
        have hrow := row_setCell (w := W6.drewN (1 + k2)) rf6 (4 + bitN p' (lz p p')) (kp (some b'))
        have okW : Own ((W6.drewN (1 + k2)).setCell ⟨w.heap.size + 1, 4 + bitN p' (lz p p'), none⟩ (ptr b')) (node b' p' n' v' th' l' r') := own_frame ok fun x hx => by
          have hxl := own_lt ok x hx
          exact (Below.heap_setCell _ _ _ _ (show x ≠ w.heap.size + 1 by omega)).trans (K6.block x hxl (by simp; intro e; exact hb (e ▸ hx)))
        have omW : Own ((W6.drewN (1 + k2)).setCell ⟨w.heap.size + 1, 4 + bitN p' (lz p p'), none⟩ (ptr b')) (node w.heap.size p m 0 false nil nil) := ⟨(Below.heap_setCell _ _ _ _ (show w.heap.size ≠ w.heap.size + 1 by omega)).trans rm6, trivial, trivial⟩
        revert hrow hne
        unfold twoKids bitN withKid
        unfold bitN at okW omW
        revert okW omW
        cases p.getMsbD (lz p p') <;> cases p'.getMsbD (lz p p')
        · intro _ _ h _; exact absurd rfl h
        · intro okW omW _ hrow; exact ⟨hrow, omW, okW⟩
        · intro okW omW _ hrow; exact ⟨hrow, okW, omW⟩
        · intro _ _ h _; exact absurd rfl h
      · rw [grown_gt hz]
        exact (Below.heap_setCell _ _ _ _ hb2).trans rb6
      · exact (K6.trans (Keeps.drewN [] _ _) (by simp)).trans (Keeps.setCell _ (w.heap.size + 1) _ _) (by simp)
end Go.Proofs.Ytlopnagajhjmmaa
