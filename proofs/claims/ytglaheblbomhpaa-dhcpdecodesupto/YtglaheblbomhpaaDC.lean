/- What leaseOptions of package dhcp answers: the options of an answer, in new memory. Conditions: numbers of 32 bits, a kind of 8. -/
import Derived.Test.YtglaheblbomhpaaDB
import Derived.Deep.RegionHeld3
import Derived.Deep.RegionWith
import Derived.Deep.DrawnRows
import Derived.Deep.AppendLies
namespace Go.Proofs.Ytglaheblbomhpaa
open Go.RowKit
attribute [local go_sem ↓] Go.wp_at_zero Go.wp_at_succ

/-- The options of an answer. -/
def leaseOs (kind server time mask router : Int) : List Opt :=
  [⟨0, 53, strOfNums [kind]⟩, ⟨0, 54, fourS server⟩, ⟨0, 51, fourS time⟩, ⟨0, 1, fourS mask⟩] ++ (if router = 0 then [] else [⟨0, 3, fourS router⟩])

def leaseV (mac ip server mask router time : Int) : Value := .agg #[.int .u64 mac, .int .u32 ip, .int .u32 server, .int .u32 mask, .int .u32 router, .int .u32 time]

theorem own_below {w w' : World} {base : Nat} {e : TypeId} {size : Nat} {v : Value} {n : Nat} {xs : List Value} (h : w.ownsRow base e size v n xs) (hb : Below w.heap.size w w') : w'.ownsRow base e size v n xs :=
  h.kept (row := none) ⟨hb.os, hb.tape, hb.output, hb.size, fun k hk _ => hb.block k hk⟩ (by
    cases hv : v.ownBlock with
    | none => exact .inl rfl
    | some k => exact .inr (by simp))

/-- The cells of options, one behind the other. -/
def optCells : List Opt → List Value
  | [] => []
  | o :: r => .int .i64 o.cls :: .int .i64 o.code :: .string o.data :: optCells r
theorem optCells_len (os : List Opt) : (optCells os).length = os.length * 3 := by
  induction os with
  | nil => rfl
  | cons o r ih => simp only [optCells, List.length_cons, ih]; omega
theorem optCells_app (os ps : List Opt) : optCells (os ++ ps) = optCells os ++ optCells ps := by
  induction os with
  | nil => rfl
  | cons o r ih => simp [optCells, ih]
theorem optCells_get (os : List Opt) : ∀ (i : Nat) (o : Opt), os[i]? = some o → (optCells os)[i * 3]? = some (.int .i64 o.cls) ∧ (optCells os)[i * 3 + 1]? = some (.int .i64 o.code) ∧ (optCells os)[i * 3 + 2]? = some (.string o.data) := by
  induction os with
  | nil => intro i o h; simp at h
  | cons p r ih =>
    intro i o h
    match i with
    | 0 => simp at h; subst h; exact ⟨rfl, rfl, rfl⟩
    | i + 1 =>
      have := ih i o (by simpa using h)
      rw [show (i + 1) * 3 = i * 3 + 1 + 1 + 1 from by omega]
      simpa [optCells] using this
theorem os_own {w : World} {base g n cap : Nat} {os : List Opt} (h : w.ownsRow base 45 3 (.slice (some ⟨g, 0, none⟩) n cap) n (optCells os)) (hr : n ≤ 140737488355328) : OS w (some ⟨g, 0, none⟩) n os := by
  have hl := h.1
  rw [optCells_len] at hl
  refine ⟨by omega, hr, .inr ⟨g, 0, rfl, fun i o hi => ?_⟩⟩
  have hi' : i < os.length := (List.getElem?_eq_some_iff.1 hi).1
  obtain ⟨a, b, c⟩ := optCells_get os i o hi
  rw [Nat.zero_add, h.cellAt (i * 3) (by omega), h.cellAt (i * 3 + 1) (by omega), h.cellAt (i * 3 + 2) (by omega)]
  exact ⟨a, b, c⟩
theorem own_opts (w : World) (base : Nat) (os : List Opt) (hb : base ≤ w.heap.size) (n : Nat) (hn : os.length = n) (hm : n ≤ 1000000) : (w.alloc (.cells (optCells os).toArray 45)).ownsRow base 45 3 (.slice (some ⟨w.heap.size, 0, none⟩) n n) n (optCells os) := by
  have := World.ownsRow_lit (base := base) (e := 45) (size := 3) w (optCells os).toArray n hb (by unfold maxLen; omega) (by simp [optCells_len, hn])
  simpa using this
theorem infoOpt : (Try.prog.info? 45).map (fun i => (i.zero, i.size, i.bytes)) = some (some (.agg #[.int .i64 0, .int .i64 0, .string ⟨#[]⟩]), 3, 32) := by kernel_rfl

theorem wpAnyH_mono {P : Program} {md : Region.Mode} {ops : Array Oper} {Q : Exit → Act → World → Prop} {S S' : World → Prop} (hS : ∀ w, S' w → S w) : ∀ (fuel : Nat) (listed : Array Bool) (a : Act) (w : World), wpAnyH P md ops Q S' fuel listed a w → wpAnyH P md ops Q S fuel listed a w
  | 0, _, _, _, h => h
  | fuel + 1, _, _, _, h => ⟨h.1, fun i hi => wpOp_mono (fun a' w' h' => ⟨hS _ h'.1, wpAnyH_mono hS fuel _ a' w' h'.2⟩) (h.2 i hi)⟩

/-- What stands while the options are made. -/
def LZ (w w1 : World) (server mask time : Int) (W : World) : Prop := Below w1.heap.size w1 W ∧ W.cell? ⟨w.heap.size, 2, none⟩ = some (.int .u32 server) ∧ W.cell? ⟨w.heap.size, 3, none⟩ = some (.int .u32 mask) ∧ W.cell? ⟨w.heap.size, 5, none⟩ = some (.int .u32 time)
theorem lz_call {w w1 : World} {server mask time : Int} {W w' : World} (hlt : w.heap.size < w1.heap.size) (h : LZ w w1 server mask time W) (hb : Below W.heap.size W w') : LZ w w1 server mask time w' := by
  obtain ⟨h0, h1, h2, h3⟩ := h
  have hs := h0.size
  have hl : w.heap.size < W.heap.size := by omega
  exact ⟨h0.trans (hb.mono hs), (hb.cell (p := ⟨w.heap.size, 2, none⟩) hl).trans h1, (hb.cell (p := ⟨w.heap.size, 3, none⟩) hl).trans h2, (hb.cell (p := ⟨w.heap.size, 5, none⟩) hl).trans h3⟩
theorem lz_alloc {w w1 : World} {server mask time : Int} {W : World} (hlt : w.heap.size < w1.heap.size) (h : LZ w w1 server mask time W) (o : Obj) : LZ w w1 server mask time (W.alloc o) := lz_call hlt h (below1 W o)

/-- As LZ, and the kind's byte lies at g. -/
def LK (w w1 : World) (server mask time kind : Int) (g : Nat) (W : World) : Prop := Below w1.heap.size w1 W ∧ W.cell? ⟨w.heap.size, 2, none⟩ = some (.int .u32 server) ∧ W.cell? ⟨w.heap.size, 3, none⟩ = some (.int .u32 mask) ∧ W.cell? ⟨w.heap.size, 5, none⟩ = some (.int .u32 time) ∧ BS W (some ⟨g, 0, none⟩) 1 [kind] ∧ (convert 22 9 (.slice (some ⟨g, 0, none⟩) 1 1)).run Try.prog W = .ok (.string (strOfNums [kind])) W
theorem lk_mk {w w1 : World} {server mask time kind : Int} {g : Nat} {W : World} (h : LZ w w1 server mask time W) (hb : BS W (some ⟨g, 0, none⟩) 1 [kind]) : LK w w1 server mask time kind g W :=
  ⟨h.1, h.2.1, h.2.2.1, h.2.2.2, hb, run_conv_bs 1 hb 22 9 5 Try.underlying22 Try.underlying5 Try.underlying9⟩
theorem lk_lz {w w1 : World} {server mask time kind : Int} {g : Nat} (W : World) (h : LK w w1 server mask time kind g W) : LZ w w1 server mask time W := ⟨h.1, h.2.1, h.2.2.1, h.2.2.2.1⟩
theorem lk_call {w w1 : World} {server mask time kind : Int} {g : Nat} {W w' : World} (hlt : w.heap.size < w1.heap.size) (h : LK w w1 server mask time kind g W) (hb : Below W.heap.size W w') : LK w w1 server mask time kind g w' :=
  lk_mk (lz_call hlt (lk_lz W h) hb) (h.2.2.2.2.1.below hb)
theorem lk_alloc {w w1 : World} {server mask time kind : Int} {g : Nat} {W : World} (hlt : w.heap.size < w1.heap.size) (h : LK w w1 server mask time kind g W) (o : Obj) : LK w w1 server mask time kind g (W.alloc o) := lk_call hlt h (below1 W o)

set_option linter.unusedSimpArgs false in
set_option maxHeartbeats 4000000 in
theorem lease_any (kind mac ip server mask router time : Int) (hk : 0 ≤ kind ∧ kind ≤ 255) (h1 : 0 ≤ server ∧ server ≤ 4294967295) (h2 : 0 ≤ mask ∧ mask ≤ 4294967295) (h3 : 0 ≤ router ∧ router ≤ 4294967295) (h4 : 0 ≤ time ∧ time ≤ 4294967295) (w : World) :
    Calls Try.prog 30 #[.int .i64 kind, leaseV mac ip server mask router time] w fun e w' => ∃ g n cap, e = .returned (.slice (some ⟨g, 0, none⟩) n cap) ∧ w.heap.size ≤ g ∧ OS w' (some ⟨g, 0, none⟩) n (leaseOs kind server time mask router) ∧ Below w.heap.size w w' := by
  unfold leaseV
  have hw : IntKind.u8.wrap kind = kind := by rw [IntKind.wrap_u8]; omega
  obtain ⟨w1, hw1⟩ : ∃ w1, w1 = w.alloc (.cells #[.int .u64 mac, .int .u32 ip, .int .u32 server, .int .u32 mask, .int .u32 router, .int .u32 time] 38) := ⟨_, rfl⟩
  have c2 : w1.cell? ⟨w.heap.size, 2, none⟩ = some (.int .u32 server) := by rw [hw1]; simp [World.cell?_alloc_at]
  have c3 : w1.cell? ⟨w.heap.size, 3, none⟩ = some (.int .u32 mask) := by rw [hw1]; simp [World.cell?_alloc_at]
  have c5 : w1.cell? ⟨w.heap.size, 5, none⟩ = some (.int .u32 time) := by rw [hw1]; simp [World.cell?_alloc_at]
  have c4 : w1.cell? ⟨w.heap.size, 4, none⟩ = some (.int .u32 router) := by rw [hw1]; simp [World.cell?_alloc_at]
  have HB0 : Hid (Below w.heap.size w w1) := by rw [hw1]; exact below1 w _
  have hlt : w.heap.size < w1.heap.size := by rw [hw1]; simp
  have HW1 : Hid _ := hw1
  go_enter Try.func30, Try.ntmps30
  go_wp2_with fail
  rw [← hw1]
  clear hw1
  refine wp_region_held_drew (S := (fun W => Below w1.heap.size w1 W ∧ W.cell? ⟨w.heap.size, 2, none⟩ = some (.int .u32 server) ∧ W.cell? ⟨w.heap.size, 3, none⟩ = some (.int .u32 mask) ∧ W.cell? ⟨w.heap.size, 5, none⟩ = some (.int .u32 time))) (by kernel_rfl) ?_ (fun hHeld => ?_)
  · exact ⟨(Below.refl _ _).drew, c2, c3, c5⟩
  refine wpAnyH_take (i := 0) (v := ?_) rfl (by kernel_rfl) (by kernel_rfl) (by kernel_rfl) (fun _ _ _ h => h) (Or.inl ⟨by rfl, ?_⟩) (by assumption) ?_
  rotate_left
  · (intro w hSw; (try dsimp only at hSw); go_simp; try with_reducible rfl)
  try simp only [List.getElem_toArray, List.getElem_cons_zero, List.getElem_cons_succ, Act.put, List.setIfInBounds_toArray, List.set_cons_zero, List.set_cons_succ]
  refine wpAnyH_take (i := 1) (v := ?_) rfl (by kernel_rfl) (by kernel_rfl) (by kernel_rfl) (fun _ _ _ h => h) (Or.inl ⟨by rfl, ?_⟩) (by assumption) ?_
  rotate_left
  · (intro w hSw; (try dsimp only at hSw); go_simp; try with_reducible rfl)
  try simp only [List.getElem_toArray, List.getElem_cons_zero, List.getElem_cons_succ, Act.put, List.setIfInBounds_toArray, List.set_cons_zero, List.set_cons_succ]
  refine wpAnyH_take (i := 5) (v := ?_) rfl (by kernel_rfl) (by kernel_rfl) (by kernel_rfl) (fun _ _ _ h => h) (Or.inl ⟨by rfl, ?_⟩) (by assumption) ?_
  rotate_left
  · (intro w hSw; (try dsimp only at hSw); go_simp; try with_reducible rfl)
  try simp only [List.getElem_toArray, List.getElem_cons_zero, List.getElem_cons_succ, Act.put, List.setIfInBounds_toArray, List.set_cons_zero, List.set_cons_succ]
  refine wpAnyH_take (i := 6) (v := ?_) rfl (by kernel_rfl) (by kernel_rfl) (by kernel_rfl) (fun _ _ _ h => h) (Or.inl ⟨by rfl, ?_⟩) (by assumption) ?_
  rotate_left
  · (intro w hSw; (try dsimp only at hSw); go_simp; try with_reducible rfl)
  try simp only [List.getElem_toArray, List.getElem_cons_zero, List.getElem_cons_succ, Act.put, List.setIfInBounds_toArray, List.set_cons_zero, List.set_cons_succ]
  refine wpAnyH_take (i := 9) (v := ?_) rfl (by kernel_rfl) (by kernel_rfl) (by kernel_rfl) (fun _ _ _ h => h) (Or.inl ⟨by rfl, ?_⟩) (by assumption) ?_
  rotate_left
  · (intro w hSw; (try dsimp only at hSw); go_simp; try with_reducible rfl)
  try simp only [List.getElem_toArray, List.getElem_cons_zero, List.getElem_cons_succ, Act.put, List.setIfInBounds_toArray, List.set_cons_zero, List.set_cons_succ]
  refine wpAnyH_take (i := 10) (v := ?_) rfl (by kernel_rfl) (by kernel_rfl) (by kernel_rfl) (fun _ _ _ h => h) (Or.inl ⟨by rfl, ?_⟩) (by assumption) ?_
  rotate_left
  · (intro w hSw; (try dsimp only at hSw); go_simp; try with_reducible rfl)
  try simp only [List.getElem_toArray, List.getElem_cons_zero, List.getElem_cons_succ, Act.put, List.setIfInBounds_toArray, List.set_cons_zero, List.set_cons_succ]
  refine wpAnyH_take (i := 13) (v := ?_) rfl (by kernel_rfl) (by kernel_rfl) (by kernel_rfl) (fun _ _ _ h => h) (Or.inl ⟨by rfl, ?_⟩) (by assumption) ?_
  rotate_left
  · (intro w hSw; (try dsimp only at hSw); go_simp; try with_reducible rfl)
  try simp only [List.getElem_toArray, List.getElem_cons_zero, List.getElem_cons_succ, Act.put, List.setIfInBounds_toArray, List.set_cons_zero, List.set_cons_succ]
  refine wpAnyH_take (i := 14) (v := ?_) rfl (by kernel_rfl) (by kernel_rfl) (by kernel_rfl) (fun _ _ _ h => h) (Or.inl ⟨by rfl, ?_⟩) (by assumption) ?_
  rotate_left
  · (intro w hSw; (try dsimp only at hSw); go_simp; try with_reducible rfl)
  try simp only [List.getElem_toArray, List.getElem_cons_zero, List.getElem_cons_succ, Act.put, List.setIfInBounds_toArray, List.set_cons_zero, List.set_cons_succ]
  refine wpAnyH_ready (rs := [2, 7]) (by kernel_rfl) (by simp) ?_
  refine AllReadyH.cons (o := _) rfl (fun K hK => ?_) ?_
  · go_simp
    refine hK.out _ _ (by first | exact lz_alloc hlt hHeld _ | exact lz_alloc (W := World.drew _) hlt hHeld _) (fun hHeld2 => ?_)
    clear hK K hHeld
    try simp only [List.getElem_toArray, List.getElem_cons_zero, List.getElem_cons_succ, Act.put, List.setIfInBounds_toArray, List.set_cons_zero, List.set_cons_succ]
    refine wpAnyH_mono (S' := (fun W => Below w1.heap.size w1 W ∧ W.cell? ⟨w.heap.size, 2, none⟩ = some (.int .u32 server) ∧ W.cell? ⟨w.heap.size, 3, none⟩ = some (.int .u32 mask) ∧ W.cell? ⟨w.heap.size, 5, none⟩ = some (.int .u32 time) ∧ BS W (some ⟨w1.heap.size, 0, none⟩) 1 [kind] ∧ (convert 22 9 (.slice (some ⟨w1.heap.size, 0, none⟩) 1 1)).run Try.prog W = .ok (.string (strOfNums [kind])) W)) (fun W h => ⟨h.1, h.2.1, h.2.2.1, h.2.2.2.1⟩) _ _ _ _ ?_
    have hHeld := lk_mk hHeld2 (by first | exact bs_one _ kind _ rfl hk | exact (bs_one _ kind _ rfl hk).drew)
    clear hHeld2
    unfold LK at hHeld
    refine wpAnyH_take (i := 3) (v := ?_) rfl (by kernel_rfl) (by kernel_rfl) (by kernel_rfl) (fun _ _ _ h => h) (Or.inl ⟨by rfl, ?_⟩) (by assumption) ?_
    rotate_left
    · (intro w hSw; (try dsimp only at hSw); go_simp; try with_reducible rfl)
    try simp only [List.getElem_toArray, List.getElem_cons_zero, List.getElem_cons_succ, Act.put, List.setIfInBounds_toArray, List.set_cons_zero, List.set_cons_succ]
    refine wpAnyH_take (i := 4) (v := ?_) rfl (by kernel_rfl) (by kernel_rfl) (by kernel_rfl) (fun _ _ _ h => h) (Or.inl ⟨by rfl, ?_⟩) (by assumption) ?_
    rotate_left
    · (intro w hSw; (try dsimp only at hSw); go_simp; try with_reducible rfl)
    try simp only [List.getElem_toArray, List.getElem_cons_zero, List.getElem_cons_succ, Act.put, List.setIfInBounds_toArray, List.set_cons_zero, List.set_cons_succ]
    refine wpAnyH_ready (rs := [7]) (by kernel_rfl) (by simp) ?_
    refine AllReadyH.cons (o := _) rfl (fun K hK => ?_) AllReadyH.nil
    go_simp
    refine (numstr_any _ (by omega) _).mono ?_
    rintro e wa ⟨rfl, hb'⟩
    go_wp2_with fail
    refine hK.out _ _ (lk_call hlt hHeld hb') (fun hHeld2 => ?_)
    clear hK K hb'
    try simp only [List.getElem_toArray, List.getElem_cons_zero, List.getElem_cons_succ, Act.put, List.setIfInBounds_toArray, List.set_cons_zero, List.set_cons_succ]
    clear hHeld
    have hHeld := hHeld2
    clear hHeld2
    refine wpAnyH_take (i := 8) (v := ?_) rfl (by kernel_rfl) (by kernel_rfl) (by kernel_rfl) (fun _ _ _ h => h) (Or.inl ⟨by rfl, ?_⟩) (by assumption) ?_
    rotate_left
    · (intro w hSw; (try dsimp only at hSw); go_simp; try with_reducible rfl)
    try simp only [List.getElem_toArray, List.getElem_cons_zero, List.getElem_cons_succ, Act.put, List.setIfInBounds_toArray, List.set_cons_zero, List.set_cons_succ]
    refine wpAnyH_ready (rs := [11]) (by kernel_rfl) (by simp) ?_
    refine AllReadyH.cons (o := _) rfl (fun K hK => ?_) AllReadyH.nil
    go_simp
    refine (numstr_any _ (by omega) _).mono ?_
    rintro e wb ⟨rfl, hb'⟩
    go_wp2_with fail
    refine hK.out _ _ (lk_call hlt hHeld hb') (fun hHeld2 => ?_)
    clear hK K hb'
    try simp only [List.getElem_toArray, List.getElem_cons_zero, List.getElem_cons_succ, Act.put, List.setIfInBounds_toArray, List.set_cons_zero, List.set_cons_succ]
    clear hHeld
    have hHeld := hHeld2
    clear hHeld2
    refine wpAnyH_take (i := 12) (v := ?_) rfl (by kernel_rfl) (by kernel_rfl) (by kernel_rfl) (fun _ _ _ h => h) (Or.inl ⟨by rfl, ?_⟩) (by assumption) ?_
    rotate_left
    · (intro w hSw; (try dsimp only at hSw); go_simp; try with_reducible rfl)
    try simp only [List.getElem_toArray, List.getElem_cons_zero, List.getElem_cons_succ, Act.put, List.setIfInBounds_toArray, List.set_cons_zero, List.set_cons_succ]
    refine wpAnyH_ready (rs := [15]) (by kernel_rfl) (by simp) ?_
    refine AllReadyH.cons (o := _) rfl (fun K hK => ?_) AllReadyH.nil
    go_simp
    refine (numstr_any _ (by omega) _).mono ?_
    rintro e wc ⟨rfl, hb'⟩
    go_wp2_with fail
    refine hK.out _ _ (lk_call hlt hHeld hb') (fun hHeld2 => ?_)
    clear hK K hb'
    try simp only [List.getElem_toArray, List.getElem_cons_zero, List.getElem_cons_succ, Act.put, List.setIfInBounds_toArray, List.set_cons_zero, List.set_cons_succ]
    clear hHeld
    have hHeld := hHeld2
    clear hHeld2
    refine wpAnyH_take (i := 16) (v := ?_) rfl (by kernel_rfl) (by kernel_rfl) (by kernel_rfl) (fun _ _ _ h => h) (Or.inl ⟨by rfl, ?_⟩) (by assumption) ?_
    rotate_left
    · (intro w hSw; (try dsimp only at hSw); go_simp; try with_reducible rfl)
    try simp only [List.getElem_toArray, List.getElem_cons_zero, List.getElem_cons_succ, Act.put, List.setIfInBounds_toArray, List.set_cons_zero, List.set_cons_succ]
    refine wpAnyH_ready (rs := [17]) (by kernel_rfl) (by simp) ?_
    refine AllReadyH.cons (o := _) rfl (fun K hK => ?_) AllReadyH.nil
    go_simp
    refine hK.out _ _ (by first | exact lk_alloc hlt hHeld _ | exact lk_alloc (W := World.drew _) hlt hHeld _) (fun hHeld2 => ?_)
    clear hK K
    try simp only [List.getElem_toArray, List.getElem_cons_zero, List.getElem_cons_succ, Act.put, List.setIfInBounds_toArray, List.set_cons_zero, List.set_cons_succ]
    have hB := hHeld.1
    have hB2 := hHeld2
    clear hHeld
    refine wpAnyH_take (i := 18) (v := ?_) rfl (by kernel_rfl) (by kernel_rfl) (by kernel_rfl) (fun _ _ _ h => h) (Or.inl ⟨by rfl, ?_⟩) (by assumption) ?_
    rotate_left
    · (intro w hSw; (try dsimp only at hSw); go_simp; try with_reducible rfl)
    try simp only [List.getElem_toArray, List.getElem_cons_zero, List.getElem_cons_succ, Act.put, List.setIfInBounds_toArray, List.set_cons_zero, List.set_cons_succ]
    refine wpAnyH_done (by kernel_rfl) ?_ _
    have hcell4 := (hHeld2.1.cell (p := ⟨w.heap.size, 4, none⟩) hlt).trans c4
    have HB2 : Hid _ := hHeld2.1
    have hgA : w.heap.size ≤ wc.heap.size := by have h := hB.size; (try simp at h); omega
    have hown : Hid (World.ownsRow (wc.alloc (.cells #[.int .i64 0, .int .i64 53, .string (strOfNums [kind]), .int .i64 0, .int .i64 54, .string (fourS server), .int .i64 0, .int .i64 51, .string (fourS time), .int .i64 0, .int .i64 1, .string (fourS mask)] 45)) w1.heap.size 45 3 (.slice (some ⟨wc.heap.size, 0, none⟩) 4 4) 4 (optCells [⟨0, 53, strOfNums [kind]⟩, ⟨0, 54, fourS server⟩, ⟨0, 51, fourS time⟩, ⟨0, 1, fourS mask⟩])) := by
      have h := own_opts wc w1.heap.size [⟨0, 53, strOfNums [kind]⟩, ⟨0, 54, fourS server⟩, ⟨0, 51, fourS time⟩, ⟨0, 1, fourS mask⟩] hB.size 4 rfl (by omega)
      exact h
    clear hHeld2 hB hB2
    by_cases hr0 : router = 0
    · subst hr0
      go_wp2
      go_ret
      refine ⟨wc.heap.size, 4, 4, rfl, hgA, os_own hown.out (by omega), ?_⟩
      exact HB0.out.trans (HB2.out.mono (by omega))
    · have er0 : (router == 0) = false := by simp [hr0]
      go_wp2_with fail
      refine (numstr_any _ h3 _).mono ?_
      rintro e wd ⟨rfl, hb'⟩
      have hown2' : World.ownsRow (wd.alloc (.cells #[.int .i64 0, .int .i64 3, .string (fourS router)] 45)) w1.heap.size 45 3 (.slice (some ⟨wc.heap.size, 0, none⟩) 4 4) 4 (optCells [⟨0, 53, strOfNums [kind]⟩, ⟨0, 54, fourS server⟩, ⟨0, 51, fourS time⟩, ⟨0, 1, fourS mask⟩]) := World.ownsRow.alloc (own_below hown.out hb') (.cells #[.int .i64 0, .int .i64 3, .string (fourS router)] 45)
      have hown2 : Hid _ := hown2'
      clear hown2'
      have HB3 : Hid (Below w1.heap.size w1 wd) := HB2.out.trans (hb'.mono HB2.out.size)
      have hsz3 := HB3.out.size
      obtain ⟨i0, hi, hz0, hz1, hz2⟩ := info_parts infoOpt
      clear hb' hown HB2
      go_wp2_with (at_builtin; refine wpList_append_lies _ rfl (.tmp 27) (.tmp 32) 25 rfl w1.heap.size 45 i0 _ 3 32 Try.underlying25 hi hz0 hz1 hz2 rfl (by omega) _ 4 _ rfl hown2.out ⟨wd.heap.size, 0, none⟩ 1 1 [.int .i64 0, .int .i64 3, .string (fourS router)] rfl rfl (World.news_of_block (heap_alloc_new wd _)) (by simp [Value.oneCell']) (by omega) (by unfold maxLen; omega) (by omega) (by simp; omega) (wd.heap.size + 1) (by simp) ?_)
      intro g cap we h1' h2' h3' h4'
      have hE : OS we (some ⟨g, 0, none⟩) 5 (leaseOs kind server time mask router) := by
        refine os_own (cap := cap) (base := w1.heap.size) ?_ (by omega)
        have e : leaseOs kind server time mask router = [⟨0, 53, strOfNums [kind]⟩, ⟨0, 54, fourS server⟩, ⟨0, 51, fourS time⟩, ⟨0, 1, fourS mask⟩] ++ [⟨0, 3, fourS router⟩] := by unfold leaseOs; rw [if_neg hr0]
        rw [e, optCells_app]
        exact h1'
      have hF : Below w.heap.size w we := by
        have hc := HB3.out.alloc HB3.out.size (.cells #[.int .i64 0, .int .i64 3, .string (fourS router)] 45)
        have := hc.grown h2' (by simp; omega) (fun k hk => (World.ownsRow.lt hown2.out k hk).1)
        exact HB0.out.trans (this.mono (by omega))
      have hgG : w.heap.size ≤ g := by have h := (World.ownsRow.lt h1' g rfl).1; omega
      have HE : Hid _ := hE
      have HF : Hid _ := hF
      clear h1' h2' h3' h4' hE hF
      go_wp2
      go_ret
      exact ⟨g, 5, cap, rfl, hgG, HE.out, HF.out⟩
  refine AllReadyH.cons (o := _) rfl (fun K hK => ?_) AllReadyH.nil
  go_simp
  refine (numstr_any _ (by omega) _).mono ?_
  rintro e wa ⟨rfl, hb'⟩
  go_wp2_with fail
  refine hK.out _ _ (lz_call hlt hHeld hb') (fun hHeld2 => ?_)
  clear hK K hb' hHeld
  have hHeld := hHeld2
  clear hHeld2
  try simp only [List.getElem_toArray, List.getElem_cons_zero, List.getElem_cons_succ, Act.put, List.setIfInBounds_toArray, List.set_cons_zero, List.set_cons_succ]
  refine wpAnyH_take (i := 8) (v := ?_) rfl (by kernel_rfl) (by kernel_rfl) (by kernel_rfl) (fun _ _ _ h => h) (Or.inl ⟨by rfl, ?_⟩) (by assumption) ?_
  rotate_left
  · (intro w hSw; (try dsimp only at hSw); go_simp; try with_reducible rfl)
  try simp only [List.getElem_toArray, List.getElem_cons_zero, List.getElem_cons_succ, Act.put, List.setIfInBounds_toArray, List.set_cons_zero, List.set_cons_succ]
  refine wpAnyH_ready (rs := [2, 11]) (by kernel_rfl) (by simp) ?_
  refine AllReadyH.cons (o := _) rfl (fun K hK => ?_) ?_
  · go_simp
    refine hK.out _ _ (by first | exact lz_alloc hlt hHeld _ | exact lz_alloc (W := World.drew _) hlt hHeld _) (fun hHeld2 => ?_)
    clear hK K hHeld
    try simp only [List.getElem_toArray, List.getElem_cons_zero, List.getElem_cons_succ, Act.put, List.setIfInBounds_toArray, List.set_cons_zero, List.set_cons_succ]
    refine wpAnyH_mono (S' := (fun W => Below w1.heap.size w1 W ∧ W.cell? ⟨w.heap.size, 2, none⟩ = some (.int .u32 server) ∧ W.cell? ⟨w.heap.size, 3, none⟩ = some (.int .u32 mask) ∧ W.cell? ⟨w.heap.size, 5, none⟩ = some (.int .u32 time) ∧ BS W (some ⟨wa.heap.size, 0, none⟩) 1 [kind] ∧ (convert 22 9 (.slice (some ⟨wa.heap.size, 0, none⟩) 1 1)).run Try.prog W = .ok (.string (strOfNums [kind])) W)) (fun W h => ⟨h.1, h.2.1, h.2.2.1, h.2.2.2.1⟩) _ _ _ _ ?_
    have hHeld := lk_mk hHeld2 (by first | exact bs_one _ kind _ rfl hk | exact (bs_one _ kind _ rfl hk).drew)
    clear hHeld2
    unfold LK at hHeld
    refine wpAnyH_take (i := 3) (v := ?_) rfl (by kernel_rfl) (by kernel_rfl) (by kernel_rfl) (fun _ _ _ h => h) (Or.inl ⟨by rfl, ?_⟩) (by assumption) ?_
    rotate_left
    · (intro w hSw; (try dsimp only at hSw); go_simp; try with_reducible rfl)
    try simp only [List.getElem_toArray, List.getElem_cons_zero, List.getElem_cons_succ, Act.put, List.setIfInBounds_toArray, List.set_cons_zero, List.set_cons_succ]
    refine wpAnyH_take (i := 4) (v := ?_) rfl (by kernel_rfl) (by kernel_rfl) (by kernel_rfl) (fun _ _ _ h => h) (Or.inl ⟨by rfl, ?_⟩) (by assumption) ?_
    rotate_left
    · (intro w hSw; (try dsimp only at hSw); go_simp; try with_reducible rfl)
    try simp only [List.getElem_toArray, List.getElem_cons_zero, List.getElem_cons_succ, Act.put, List.setIfInBounds_toArray, List.set_cons_zero, List.set_cons_succ]
    refine wpAnyH_ready (rs := [11]) (by kernel_rfl) (by simp) ?_
    refine AllReadyH.cons (o := _) rfl (fun K hK => ?_) AllReadyH.nil
    go_simp
    refine (numstr_any _ (by omega) _).mono ?_
    rintro e wb ⟨rfl, hb'⟩
    go_wp2_with fail
    refine hK.out _ _ (lk_call hlt hHeld hb') (fun hHeld2 => ?_)
    clear hK K hb'
    try simp only [List.getElem_toArray, List.getElem_cons_zero, List.getElem_cons_succ, Act.put, List.setIfInBounds_toArray, List.set_cons_zero, List.set_cons_succ]
    clear hHeld
    have hHeld := hHeld2
    clear hHeld2
    refine wpAnyH_take (i := 12) (v := ?_) rfl (by kernel_rfl) (by kernel_rfl) (by kernel_rfl) (fun _ _ _ h => h) (Or.inl ⟨by rfl, ?_⟩) (by assumption) ?_
    rotate_left
    · (intro w hSw; (try dsimp only at hSw); go_simp; try with_reducible rfl)
    try simp only [List.getElem_toArray, List.getElem_cons_zero, List.getElem_cons_succ, Act.put, List.setIfInBounds_toArray, List.set_cons_zero, List.set_cons_succ]
    refine wpAnyH_ready (rs := [15]) (by kernel_rfl) (by simp) ?_
    refine AllReadyH.cons (o := _) rfl (fun K hK => ?_) AllReadyH.nil
    go_simp
    refine (numstr_any _ (by omega) _).mono ?_
    rintro e wc ⟨rfl, hb'⟩
    go_wp2_with fail
    refine hK.out _ _ (lk_call hlt hHeld hb') (fun hHeld2 => ?_)
    clear hK K hb'
    try simp only [List.getElem_toArray, List.getElem_cons_zero, List.getElem_cons_succ, Act.put, List.setIfInBounds_toArray, List.set_cons_zero, List.set_cons_succ]
    clear hHeld
    have hHeld := hHeld2
    clear hHeld2
    refine wpAnyH_take (i := 16) (v := ?_) rfl (by kernel_rfl) (by kernel_rfl) (by kernel_rfl) (fun _ _ _ h => h) (Or.inl ⟨by rfl, ?_⟩) (by assumption) ?_
    rotate_left
    · (intro w hSw; (try dsimp only at hSw); go_simp; try with_reducible rfl)
    try simp only [List.getElem_toArray, List.getElem_cons_zero, List.getElem_cons_succ, Act.put, List.setIfInBounds_toArray, List.set_cons_zero, List.set_cons_succ]
    refine wpAnyH_ready (rs := [17]) (by kernel_rfl) (by simp) ?_
    refine AllReadyH.cons (o := _) rfl (fun K hK => ?_) AllReadyH.nil
    go_simp
    refine hK.out _ _ (by first | exact lk_alloc hlt hHeld _ | exact lk_alloc (W := World.drew _) hlt hHeld _) (fun hHeld2 => ?_)
    clear hK K
    try simp only [List.getElem_toArray, List.getElem_cons_zero, List.getElem_cons_succ, Act.put, List.setIfInBounds_toArray, List.set_cons_zero, List.set_cons_succ]
    have hB := hHeld.1
    have hB2 := hHeld2
    clear hHeld
    refine wpAnyH_take (i := 18) (v := ?_) rfl (by kernel_rfl) (by kernel_rfl) (by kernel_rfl) (fun _ _ _ h => h) (Or.inl ⟨by rfl, ?_⟩) (by assumption) ?_
    rotate_left
    · (intro w hSw; (try dsimp only at hSw); go_simp; try with_reducible rfl)
    try simp only [List.getElem_toArray, List.getElem_cons_zero, List.getElem_cons_succ, Act.put, List.setIfInBounds_toArray, List.set_cons_zero, List.set_cons_succ]
    refine wpAnyH_done (by kernel_rfl) ?_ _
    have hcell4 := (hHeld2.1.cell (p := ⟨w.heap.size, 4, none⟩) hlt).trans c4
    have HB2 : Hid _ := hHeld2.1
    have hgA : w.heap.size ≤ wc.heap.size := by have h := hB.size; (try simp at h); omega
    have hown : Hid (World.ownsRow (wc.alloc (.cells #[.int .i64 0, .int .i64 53, .string (strOfNums [kind]), .int .i64 0, .int .i64 54, .string (fourS server), .int .i64 0, .int .i64 51, .string (fourS time), .int .i64 0, .int .i64 1, .string (fourS mask)] 45)) w1.heap.size 45 3 (.slice (some ⟨wc.heap.size, 0, none⟩) 4 4) 4 (optCells [⟨0, 53, strOfNums [kind]⟩, ⟨0, 54, fourS server⟩, ⟨0, 51, fourS time⟩, ⟨0, 1, fourS mask⟩])) := by
      have h := own_opts wc w1.heap.size [⟨0, 53, strOfNums [kind]⟩, ⟨0, 54, fourS server⟩, ⟨0, 51, fourS time⟩, ⟨0, 1, fourS mask⟩] hB.size 4 rfl (by omega)
      exact h
    clear hHeld2 hB hB2
    by_cases hr0 : router = 0
    · subst hr0
      go_wp2
      go_ret
      refine ⟨wc.heap.size, 4, 4, rfl, hgA, os_own hown.out (by omega), ?_⟩
      exact HB0.out.trans (HB2.out.mono (by omega))
    · have er0 : (router == 0) = false := by simp [hr0]
      go_wp2_with fail
      refine (numstr_any _ h3 _).mono ?_
      rintro e wd ⟨rfl, hb'⟩
      have hown2' : World.ownsRow (wd.alloc (.cells #[.int .i64 0, .int .i64 3, .string (fourS router)] 45)) w1.heap.size 45 3 (.slice (some ⟨wc.heap.size, 0, none⟩) 4 4) 4 (optCells [⟨0, 53, strOfNums [kind]⟩, ⟨0, 54, fourS server⟩, ⟨0, 51, fourS time⟩, ⟨0, 1, fourS mask⟩]) := World.ownsRow.alloc (own_below hown.out hb') (.cells #[.int .i64 0, .int .i64 3, .string (fourS router)] 45)
      have hown2 : Hid _ := hown2'
      clear hown2'
      have HB3 : Hid (Below w1.heap.size w1 wd) := HB2.out.trans (hb'.mono HB2.out.size)
      have hsz3 := HB3.out.size
      obtain ⟨i0, hi, hz0, hz1, hz2⟩ := info_parts infoOpt
      clear hb' hown HB2
      go_wp2_with (at_builtin; refine wpList_append_lies _ rfl (.tmp 27) (.tmp 32) 25 rfl w1.heap.size 45 i0 _ 3 32 Try.underlying25 hi hz0 hz1 hz2 rfl (by omega) _ 4 _ rfl hown2.out ⟨wd.heap.size, 0, none⟩ 1 1 [.int .i64 0, .int .i64 3, .string (fourS router)] rfl rfl (World.news_of_block (heap_alloc_new wd _)) (by simp [Value.oneCell']) (by omega) (by unfold maxLen; omega) (by omega) (by simp; omega) (wd.heap.size + 1) (by simp) ?_)
      intro g cap we h1' h2' h3' h4'
      have hE : OS we (some ⟨g, 0, none⟩) 5 (leaseOs kind server time mask router) := by
        refine os_own (cap := cap) (base := w1.heap.size) ?_ (by omega)
        have e : leaseOs kind server time mask router = [⟨0, 53, strOfNums [kind]⟩, ⟨0, 54, fourS server⟩, ⟨0, 51, fourS time⟩, ⟨0, 1, fourS mask⟩] ++ [⟨0, 3, fourS router⟩] := by unfold leaseOs; rw [if_neg hr0]
        rw [e, optCells_app]
        exact h1'
      have hF : Below w.heap.size w we := by
        have hc := HB3.out.alloc HB3.out.size (.cells #[.int .i64 0, .int .i64 3, .string (fourS router)] 45)
        have := hc.grown h2' (by simp; omega) (fun k hk => (World.ownsRow.lt hown2.out k hk).1)
        exact HB0.out.trans (this.mono (by omega))
      have hgG : w.heap.size ≤ g := by have h := (World.ownsRow.lt h1' g rfl).1; omega
      have HE : Hid _ := hE
      have HF : Hid _ := hF
      clear h1' h2' h3' h4' hE hF
      go_wp2
      go_ret
      exact ⟨g, 5, cap, rfl, hgG, HE.out, HF.out⟩
  refine AllReadyH.cons (o := _) rfl (fun K hK => ?_) AllReadyH.nil
  go_simp
  refine (numstr_any _ (by omega) _).mono ?_
  rintro e wb ⟨rfl, hb'⟩
  go_wp2_with fail
  refine hK.out _ _ (lz_call hlt hHeld hb') (fun hHeld2 => ?_)
  clear hK K hb' hHeld
  have hHeld := hHeld2
  clear hHeld2
  try simp only [List.getElem_toArray, List.getElem_cons_zero, List.getElem_cons_succ, Act.put, List.setIfInBounds_toArray, List.set_cons_zero, List.set_cons_succ]
  refine wpAnyH_take (i := 12) (v := ?_) rfl (by kernel_rfl) (by kernel_rfl) (by kernel_rfl) (fun _ _ _ h => h) (Or.inl ⟨by rfl, ?_⟩) (by assumption) ?_
  rotate_left
  · (intro w hSw; (try dsimp only at hSw); go_simp; try with_reducible rfl)
  try simp only [List.getElem_toArray, List.getElem_cons_zero, List.getElem_cons_succ, Act.put, List.setIfInBounds_toArray, List.set_cons_zero, List.set_cons_succ]
  refine wpAnyH_ready (rs := [2, 15]) (by kernel_rfl) (by simp) ?_
  refine AllReadyH.cons (o := _) rfl (fun K hK => ?_) ?_
  · go_simp
    refine hK.out _ _ (by first | exact lz_alloc hlt hHeld _ | exact lz_alloc (W := World.drew _) hlt hHeld _) (fun hHeld2 => ?_)
    clear hK K hHeld
    try simp only [List.getElem_toArray, List.getElem_cons_zero, List.getElem_cons_succ, Act.put, List.setIfInBounds_toArray, List.set_cons_zero, List.set_cons_succ]
    refine wpAnyH_mono (S' := (fun W => Below w1.heap.size w1 W ∧ W.cell? ⟨w.heap.size, 2, none⟩ = some (.int .u32 server) ∧ W.cell? ⟨w.heap.size, 3, none⟩ = some (.int .u32 mask) ∧ W.cell? ⟨w.heap.size, 5, none⟩ = some (.int .u32 time) ∧ BS W (some ⟨wb.heap.size, 0, none⟩) 1 [kind] ∧ (convert 22 9 (.slice (some ⟨wb.heap.size, 0, none⟩) 1 1)).run Try.prog W = .ok (.string (strOfNums [kind])) W)) (fun W h => ⟨h.1, h.2.1, h.2.2.1, h.2.2.2.1⟩) _ _ _ _ ?_
    have hHeld := lk_mk hHeld2 (by first | exact bs_one _ kind _ rfl hk | exact (bs_one _ kind _ rfl hk).drew)
    clear hHeld2
    unfold LK at hHeld
    refine wpAnyH_take (i := 3) (v := ?_) rfl (by kernel_rfl) (by kernel_rfl) (by kernel_rfl) (fun _ _ _ h => h) (Or.inl ⟨by rfl, ?_⟩) (by assumption) ?_
    rotate_left
    · (intro w hSw; (try dsimp only at hSw); go_simp; try with_reducible rfl)
    try simp only [List.getElem_toArray, List.getElem_cons_zero, List.getElem_cons_succ, Act.put, List.setIfInBounds_toArray, List.set_cons_zero, List.set_cons_succ]
    refine wpAnyH_take (i := 4) (v := ?_) rfl (by kernel_rfl) (by kernel_rfl) (by kernel_rfl) (fun _ _ _ h => h) (Or.inl ⟨by rfl, ?_⟩) (by assumption) ?_
    rotate_left
    · (intro w hSw; (try dsimp only at hSw); go_simp; try with_reducible rfl)
    try simp only [List.getElem_toArray, List.getElem_cons_zero, List.getElem_cons_succ, Act.put, List.setIfInBounds_toArray, List.set_cons_zero, List.set_cons_succ]
    refine wpAnyH_ready (rs := [15]) (by kernel_rfl) (by simp) ?_
    refine AllReadyH.cons (o := _) rfl (fun K hK => ?_) AllReadyH.nil
    go_simp
    refine (numstr_any _ (by omega) _).mono ?_
    rintro e wc ⟨rfl, hb'⟩
    go_wp2_with fail
    refine hK.out _ _ (lk_call hlt hHeld hb') (fun hHeld2 => ?_)
    clear hK K hb'
    try simp only [List.getElem_toArray, List.getElem_cons_zero, List.getElem_cons_succ, Act.put, List.setIfInBounds_toArray, List.set_cons_zero, List.set_cons_succ]
    clear hHeld
    have hHeld := hHeld2
    clear hHeld2
    refine wpAnyH_take (i := 16) (v := ?_) rfl (by kernel_rfl) (by kernel_rfl) (by kernel_rfl) (fun _ _ _ h => h) (Or.inl ⟨by rfl, ?_⟩) (by assumption) ?_
    rotate_left
    · (intro w hSw; (try dsimp only at hSw); go_simp; try with_reducible rfl)
    try simp only [List.getElem_toArray, List.getElem_cons_zero, List.getElem_cons_succ, Act.put, List.setIfInBounds_toArray, List.set_cons_zero, List.set_cons_succ]
    refine wpAnyH_ready (rs := [17]) (by kernel_rfl) (by simp) ?_
    refine AllReadyH.cons (o := _) rfl (fun K hK => ?_) AllReadyH.nil
    go_simp
    refine hK.out _ _ (by first | exact lk_alloc hlt hHeld _ | exact lk_alloc (W := World.drew _) hlt hHeld _) (fun hHeld2 => ?_)
    clear hK K
    try simp only [List.getElem_toArray, List.getElem_cons_zero, List.getElem_cons_succ, Act.put, List.setIfInBounds_toArray, List.set_cons_zero, List.set_cons_succ]
    have hB := hHeld.1
    have hB2 := hHeld2
    clear hHeld
    refine wpAnyH_take (i := 18) (v := ?_) rfl (by kernel_rfl) (by kernel_rfl) (by kernel_rfl) (fun _ _ _ h => h) (Or.inl ⟨by rfl, ?_⟩) (by assumption) ?_
    rotate_left
    · (intro w hSw; (try dsimp only at hSw); go_simp; try with_reducible rfl)
    try simp only [List.getElem_toArray, List.getElem_cons_zero, List.getElem_cons_succ, Act.put, List.setIfInBounds_toArray, List.set_cons_zero, List.set_cons_succ]
    refine wpAnyH_done (by kernel_rfl) ?_ _
    have hcell4 := (hHeld2.1.cell (p := ⟨w.heap.size, 4, none⟩) hlt).trans c4
    have HB2 : Hid _ := hHeld2.1
    have hgA : w.heap.size ≤ wc.heap.size := by have h := hB.size; (try simp at h); omega
    have hown : Hid (World.ownsRow (wc.alloc (.cells #[.int .i64 0, .int .i64 53, .string (strOfNums [kind]), .int .i64 0, .int .i64 54, .string (fourS server), .int .i64 0, .int .i64 51, .string (fourS time), .int .i64 0, .int .i64 1, .string (fourS mask)] 45)) w1.heap.size 45 3 (.slice (some ⟨wc.heap.size, 0, none⟩) 4 4) 4 (optCells [⟨0, 53, strOfNums [kind]⟩, ⟨0, 54, fourS server⟩, ⟨0, 51, fourS time⟩, ⟨0, 1, fourS mask⟩])) := by
      have h := own_opts wc w1.heap.size [⟨0, 53, strOfNums [kind]⟩, ⟨0, 54, fourS server⟩, ⟨0, 51, fourS time⟩, ⟨0, 1, fourS mask⟩] hB.size 4 rfl (by omega)
      exact h
    clear hHeld2 hB hB2
    by_cases hr0 : router = 0
    · subst hr0
      go_wp2
      go_ret
      refine ⟨wc.heap.size, 4, 4, rfl, hgA, os_own hown.out (by omega), ?_⟩
      exact HB0.out.trans (HB2.out.mono (by omega))
    · have er0 : (router == 0) = false := by simp [hr0]
      go_wp2_with fail
      refine (numstr_any _ h3 _).mono ?_
      rintro e wd ⟨rfl, hb'⟩
      have hown2' : World.ownsRow (wd.alloc (.cells #[.int .i64 0, .int .i64 3, .string (fourS router)] 45)) w1.heap.size 45 3 (.slice (some ⟨wc.heap.size, 0, none⟩) 4 4) 4 (optCells [⟨0, 53, strOfNums [kind]⟩, ⟨0, 54, fourS server⟩, ⟨0, 51, fourS time⟩, ⟨0, 1, fourS mask⟩]) := World.ownsRow.alloc (own_below hown.out hb') (.cells #[.int .i64 0, .int .i64 3, .string (fourS router)] 45)
      have hown2 : Hid _ := hown2'
      clear hown2'
      have HB3 : Hid (Below w1.heap.size w1 wd) := HB2.out.trans (hb'.mono HB2.out.size)
      have hsz3 := HB3.out.size
      obtain ⟨i0, hi, hz0, hz1, hz2⟩ := info_parts infoOpt
      clear hb' hown HB2
      go_wp2_with (at_builtin; refine wpList_append_lies _ rfl (.tmp 27) (.tmp 32) 25 rfl w1.heap.size 45 i0 _ 3 32 Try.underlying25 hi hz0 hz1 hz2 rfl (by omega) _ 4 _ rfl hown2.out ⟨wd.heap.size, 0, none⟩ 1 1 [.int .i64 0, .int .i64 3, .string (fourS router)] rfl rfl (World.news_of_block (heap_alloc_new wd _)) (by simp [Value.oneCell']) (by omega) (by unfold maxLen; omega) (by omega) (by simp; omega) (wd.heap.size + 1) (by simp) ?_)
      intro g cap we h1' h2' h3' h4'
      have hE : OS we (some ⟨g, 0, none⟩) 5 (leaseOs kind server time mask router) := by
        refine os_own (cap := cap) (base := w1.heap.size) ?_ (by omega)
        have e : leaseOs kind server time mask router = [⟨0, 53, strOfNums [kind]⟩, ⟨0, 54, fourS server⟩, ⟨0, 51, fourS time⟩, ⟨0, 1, fourS mask⟩] ++ [⟨0, 3, fourS router⟩] := by unfold leaseOs; rw [if_neg hr0]
        rw [e, optCells_app]
        exact h1'
      have hF : Below w.heap.size w we := by
        have hc := HB3.out.alloc HB3.out.size (.cells #[.int .i64 0, .int .i64 3, .string (fourS router)] 45)
        have := hc.grown h2' (by simp; omega) (fun k hk => (World.ownsRow.lt hown2.out k hk).1)
        exact HB0.out.trans (this.mono (by omega))
      have hgG : w.heap.size ≤ g := by have h := (World.ownsRow.lt h1' g rfl).1; omega
      have HE : Hid _ := hE
      have HF : Hid _ := hF
      clear h1' h2' h3' h4' hE hF
      go_wp2
      go_ret
      exact ⟨g, 5, cap, rfl, hgG, HE.out, HF.out⟩
  refine AllReadyH.cons (o := _) rfl (fun K hK => ?_) AllReadyH.nil
  go_simp
  refine (numstr_any _ (by omega) _).mono ?_
  rintro e wc ⟨rfl, hb'⟩
  go_wp2_with fail
  refine hK.out _ _ (lz_call hlt hHeld hb') (fun hHeld2 => ?_)
  clear hK K hb' hHeld
  have hHeld := hHeld2
  clear hHeld2
  try simp only [List.getElem_toArray, List.getElem_cons_zero, List.getElem_cons_succ, Act.put, List.setIfInBounds_toArray, List.set_cons_zero, List.set_cons_succ]
  refine wpAnyH_take (i := 16) (v := ?_) rfl (by kernel_rfl) (by kernel_rfl) (by kernel_rfl) (fun _ _ _ h => h) (Or.inl ⟨by rfl, ?_⟩) (by assumption) ?_
  rotate_left
  · (intro w hSw; (try dsimp only at hSw); go_simp; try with_reducible rfl)
  try simp only [List.getElem_toArray, List.getElem_cons_zero, List.getElem_cons_succ, Act.put, List.setIfInBounds_toArray, List.set_cons_zero, List.set_cons_succ]
  refine wpAnyH_ready (rs := [2]) (by kernel_rfl) (by simp) ?_
  refine AllReadyH.cons (o := _) rfl (fun K hK => ?_) ?_
  · go_simp
    refine hK.out _ _ (by first | exact lz_alloc hlt hHeld _ | exact lz_alloc (W := World.drew _) hlt hHeld _) (fun hHeld2 => ?_)
    clear hK K hHeld
    try simp only [List.getElem_toArray, List.getElem_cons_zero, List.getElem_cons_succ, Act.put, List.setIfInBounds_toArray, List.set_cons_zero, List.set_cons_succ]
    refine wpAnyH_mono (S' := (fun W => Below w1.heap.size w1 W ∧ W.cell? ⟨w.heap.size, 2, none⟩ = some (.int .u32 server) ∧ W.cell? ⟨w.heap.size, 3, none⟩ = some (.int .u32 mask) ∧ W.cell? ⟨w.heap.size, 5, none⟩ = some (.int .u32 time) ∧ BS W (some ⟨wc.heap.size, 0, none⟩) 1 [kind] ∧ (convert 22 9 (.slice (some ⟨wc.heap.size, 0, none⟩) 1 1)).run Try.prog W = .ok (.string (strOfNums [kind])) W)) (fun W h => ⟨h.1, h.2.1, h.2.2.1, h.2.2.2.1⟩) _ _ _ _ ?_
    have hHeld := lk_mk hHeld2 (by first | exact bs_one _ kind _ rfl hk | exact (bs_one _ kind _ rfl hk).drew)
    clear hHeld2
    unfold LK at hHeld
    refine wpAnyH_take (i := 3) (v := ?_) rfl (by kernel_rfl) (by kernel_rfl) (by kernel_rfl) (fun _ _ _ h => h) (Or.inl ⟨by rfl, ?_⟩) (by assumption) ?_
    rotate_left
    · (intro w hSw; (try dsimp only at hSw); go_simp; try with_reducible rfl)
    try simp only [List.getElem_toArray, List.getElem_cons_zero, List.getElem_cons_succ, Act.put, List.setIfInBounds_toArray, List.set_cons_zero, List.set_cons_succ]
    refine wpAnyH_take (i := 4) (v := ?_) rfl (by kernel_rfl) (by kernel_rfl) (by kernel_rfl) (fun _ _ _ h => h) (Or.inl ⟨by rfl, ?_⟩) (by assumption) ?_
    rotate_left
    · (intro w hSw; (try dsimp only at hSw); go_simp; try with_reducible rfl)
    try simp only [List.getElem_toArray, List.getElem_cons_zero, List.getElem_cons_succ, Act.put, List.setIfInBounds_toArray, List.set_cons_zero, List.set_cons_succ]
    refine wpAnyH_ready (rs := [17]) (by kernel_rfl) (by simp) ?_
    refine AllReadyH.cons (o := _) rfl (fun K hK => ?_) AllReadyH.nil
    go_simp
    refine hK.out _ _ (by first | exact lk_alloc hlt hHeld _ | exact lk_alloc (W := World.drew _) hlt hHeld _) (fun hHeld2 => ?_)
    clear hK K
    try simp only [List.getElem_toArray, List.getElem_cons_zero, List.getElem_cons_succ, Act.put, List.setIfInBounds_toArray, List.set_cons_zero, List.set_cons_succ]
    have hB := hHeld.1
    have hB2 := hHeld2
    clear hHeld
    refine wpAnyH_take (i := 18) (v := ?_) rfl (by kernel_rfl) (by kernel_rfl) (by kernel_rfl) (fun _ _ _ h => h) (Or.inl ⟨by rfl, ?_⟩) (by assumption) ?_
    rotate_left
    · (intro w hSw; (try dsimp only at hSw); go_simp; try with_reducible rfl)
    try simp only [List.getElem_toArray, List.getElem_cons_zero, List.getElem_cons_succ, Act.put, List.setIfInBounds_toArray, List.set_cons_zero, List.set_cons_succ]
    refine wpAnyH_done (by kernel_rfl) ?_ _
    have hcell4 := (hHeld2.1.cell (p := ⟨w.heap.size, 4, none⟩) hlt).trans c4
    have HB2 : Hid _ := hHeld2.1
    have hgA : w.heap.size ≤ wc.heap.size + 1 := by have h := hB.size; (try simp at h); omega
    have hown : Hid (World.ownsRow ((wc.alloc (.cells #[.int .u8 kind] 5)).alloc (.cells #[.int .i64 0, .int .i64 53, .string (strOfNums [kind]), .int .i64 0, .int .i64 54, .string (fourS server), .int .i64 0, .int .i64 51, .string (fourS time), .int .i64 0, .int .i64 1, .string (fourS mask)] 45)) w1.heap.size 45 3 (.slice (some ⟨wc.heap.size + 1, 0, none⟩) 4 4) 4 (optCells [⟨0, 53, strOfNums [kind]⟩, ⟨0, 54, fourS server⟩, ⟨0, 51, fourS time⟩, ⟨0, 1, fourS mask⟩])) := by
      have h := own_opts (wc.alloc (.cells #[.int .u8 kind] 5)) w1.heap.size [⟨0, 53, strOfNums [kind]⟩, ⟨0, 54, fourS server⟩, ⟨0, 51, fourS time⟩, ⟨0, 1, fourS mask⟩] hB.size 4 rfl (by omega)
      rw [show (wc.alloc (.cells #[.int .u8 kind] 5)).heap.size = wc.heap.size + 1 from by simp] at h
      exact h
    clear hHeld2 hB hB2
    by_cases hr0 : router = 0
    · subst hr0
      go_wp2
      go_ret
      refine ⟨wc.heap.size + 1, 4, 4, rfl, hgA, os_own hown.out (by omega), ?_⟩
      exact HB0.out.trans (HB2.out.mono (by omega))
    · have er0 : (router == 0) = false := by simp [hr0]
      go_wp2_with fail
      refine (numstr_any _ h3 _).mono ?_
      rintro e wd ⟨rfl, hb'⟩
      have hown2' : World.ownsRow (wd.alloc (.cells #[.int .i64 0, .int .i64 3, .string (fourS router)] 45)) w1.heap.size 45 3 (.slice (some ⟨wc.heap.size + 1, 0, none⟩) 4 4) 4 (optCells [⟨0, 53, strOfNums [kind]⟩, ⟨0, 54, fourS server⟩, ⟨0, 51, fourS time⟩, ⟨0, 1, fourS mask⟩]) := World.ownsRow.alloc (own_below hown.out hb') (.cells #[.int .i64 0, .int .i64 3, .string (fourS router)] 45)
      have hown2 : Hid _ := hown2'
      clear hown2'
      have HB3 : Hid (Below w1.heap.size w1 wd) := HB2.out.trans (hb'.mono HB2.out.size)
      have hsz3 := HB3.out.size
      obtain ⟨i0, hi, hz0, hz1, hz2⟩ := info_parts infoOpt
      clear hb' hown HB2
      go_wp2_with (at_builtin; refine wpList_append_lies _ rfl (.tmp 27) (.tmp 32) 25 rfl w1.heap.size 45 i0 _ 3 32 Try.underlying25 hi hz0 hz1 hz2 rfl (by omega) _ 4 _ rfl hown2.out ⟨wd.heap.size, 0, none⟩ 1 1 [.int .i64 0, .int .i64 3, .string (fourS router)] rfl rfl (World.news_of_block (heap_alloc_new wd _)) (by simp [Value.oneCell']) (by omega) (by unfold maxLen; omega) (by omega) (by simp; omega) (wd.heap.size + 1) (by simp) ?_)
      intro g cap we h1' h2' h3' h4'
      have hE : OS we (some ⟨g, 0, none⟩) 5 (leaseOs kind server time mask router) := by
        refine os_own (cap := cap) (base := w1.heap.size) ?_ (by omega)
        have e : leaseOs kind server time mask router = [⟨0, 53, strOfNums [kind]⟩, ⟨0, 54, fourS server⟩, ⟨0, 51, fourS time⟩, ⟨0, 1, fourS mask⟩] ++ [⟨0, 3, fourS router⟩] := by unfold leaseOs; rw [if_neg hr0]
        rw [e, optCells_app]
        exact h1'
      have hF : Below w.heap.size w we := by
        have hc := HB3.out.alloc HB3.out.size (.cells #[.int .i64 0, .int .i64 3, .string (fourS router)] 45)
        have := hc.grown h2' (by simp; omega) (fun k hk => (World.ownsRow.lt hown2.out k hk).1)
        exact HB0.out.trans (this.mono (by omega))
      have hgG : w.heap.size ≤ g := by have h := (World.ownsRow.lt h1' g rfl).1; omega
      have HE : Hid _ := hE
      have HF : Hid _ := hF
      clear h1' h2' h3' h4' hE hF
      go_wp2
      go_ret
      exact ⟨g, 5, cap, rfl, hgG, HE.out, HF.out⟩
  exact AllReadyH.nil
end Go.Proofs.Ytglaheblbomhpaa
