/- Rows of options; the number that an option says. Conditions: the options can be read. -/
import Derived.Test.YtgonckbdkgiddaaL4e
import Derived.Lib.ConvBytes
namespace Go.Proofs.Ytgonckbdkgiddaa
open Go.RowKit
theorem from_loop {P : Program} {Q : Exit → Act → World → Prop} {c rest : Code} {l : Nat} (hf : findLabel c l = some (Code.skip.seq rest)) (J : Act → World → Prop) (μ : Act → World → Nat)
    (pass : ∀ a w, J a w → (∀ a' w', J a' w' → μ a' w' < μ a w → FromLabel P c Q l a' w') → rest.wp P (Exit.jumpTo P c Q) a w) : ∀ a w, J a w → FromLabel P c Q l a w := by
  have key : ∀ n a w, μ a w = n → J a w → FromLabel P c Q l a w := by
    intro n
    induction n using Nat.strongRecOn with
    | _ n ih =>
      intro a w hn hJ
      exact from_label hf (pass a w hJ fun a' w' hJ' hlt => ih _ (hn ▸ hlt) a' w' rfl hJ')
  exact fun a w => key _ a w rfl
/-- A scope with several labels, of which l heads a loop. -/
theorem scope_loop {P : Program} {a : Act} {w : World} {Q : Exit → Act → World → Prop} {c rest : Code} (l : Nat) (J : Act → World → Prop) (μ : Act → World → Nat) (hf : findLabel c l = some (Code.skip.seq rest))
    (pass : ∀ a w, J a w → Hid (∀ a' w', J a' w' → μ a' w' < μ a w → FromLabel P c Q l a' w') → rest.wp P (Exit.jumpTo P c Q) a w)
    (first : Hid (∀ a w, J a w → rest.wp P (Exit.jumpTo P c Q) a w) → c.wp P (Exit.jumpTo P c Q) a w) : (Code.scope c).wp P Q a w :=
  scope_from (first (fun a w hJ => pass a w hJ (fun a' w' hJ' _ => from_loop hf J μ pass a' w' hJ')))
/-- Bytes as numbers. -/
def Fit (zs : List Int) : Prop := ∀ i, 0 ≤ zs.getD i 0 ∧ zs.getD i 0 ≤ 255
/-- An option: its class, its code, its data. -/
structure Opt where
  cls : Int
  code : Int
  data : List Int
def Opt.cs (o : Opt) : Array Value := #[.int .i64 o.cls, .int .i64 o.code, .string (strOfNums o.data)]
/-- A slice of n options that can be read. -/
structure OS (w : World) (a : Option Addr) (n : Nat) (os : List Opt) : Prop where
  len : os.length = n
  room : n ≤ 140737488355328
  fits : ∀ o ∈ os, Fit o.data ∧ True
  cells : n = 0 ∨ ∃ b off, a = some ⟨b, off, none⟩ ∧ ∀ i o, os[i]? = some o → w.cell? ⟨b, off + i * 3, none⟩ = some (.int .i64 o.cls) ∧ w.cell? ⟨b, off + i * 3 + 1, none⟩ = some (.int .i64 o.code) ∧ w.cell? ⟨b, off + i * 3 + 2, none⟩ = some (.string (strOfNums o.data))
theorem OS.below {w w' : World} {a : Option Addr} {n : Nat} {os : List Opt} (h : OS w a n os) (hb : Below w.heap.size w w') : OS w' a n os := by
  refine ⟨h.len, h.room, h.fits, ?_⟩
  rcases h.cells with h0 | ⟨b, off, rfl, hc⟩
  · exact .inl h0
  · refine .inr ⟨b, off, rfl, fun i o hi => ?_⟩
    obtain ⟨c0, c1, c2⟩ := hc i o hi
    exact ⟨(hb.cell (cell_lt c0)).trans c0, (hb.cell (cell_lt c1)).trans c1, (hb.cell (cell_lt c2)).trans c2⟩
theorem OS.empty {w : World} (a : Option Addr) : OS w a 0 [] := ⟨rfl, by omega, (fun _ h => by cases h), .inl rfl⟩
theorem drop_cons {os : List Opt} {k : Nat} {o : Opt} (h : os[k]? = some o) : os.drop k = o :: os.drop (k + 1) := by
  obtain ⟨hk, rfl⟩ := List.getElem?_eq_some_iff.1 h
  exact List.drop_eq_getElem_cons hk
theorem os_cell {w : World} {a : Option Addr} {n k : Nat} {os : List Opt} (h : OS w a n os) (hk : k < n) : ∃ o b off, os[k]? = some o ∧ a = some ⟨b, off, none⟩ ∧ w.cell? ⟨b, off + k * 3, none⟩ = some (.int .i64 o.cls) ∧ w.cell? ⟨b, off + k * 3 + 1, none⟩ = some (.int .i64 o.code) ∧ w.cell? ⟨b, off + k * 3 + 2, none⟩ = some (.string (strOfNums o.data)) ∧ b < w.heap.size ∧ Fit o.data ∧ True := by
  have hl := h.len
  have ho : os[k]? = some (os[k]'(by omega)) := List.getElem?_eq_getElem (by omega)
  rcases h.cells with h0 | ⟨b, off, e, hc⟩
  · omega
  · obtain ⟨c0, c1, c2⟩ := hc k _ ho
    exact ⟨_, b, off, ho, e, c0, c1, c2, cell_lt c0, h.fits _ (List.mem_of_getElem? ho)⟩
theorem bytesWorld_bel (w : World) (e : TypeId) (s : ByteArray) : Below w.heap.size w (Lib.bytesWorld w e s) :=
  ⟨by rfl, by rfl, by rfl, by rw [Lib.bytesWorld_size]; omega, fun k hk => Lib.bytesWorld_at_old w e s k hk⟩
theorem bytesWorld_bs (w : World) (e : TypeId) (ds : List Int) (hf : ∀ i, 0 ≤ ds.getD i 0 ∧ ds.getD i 0 ≤ 255) (hr : ds.length ≤ 140737488355328) : BS (Lib.bytesWorld w e (strOfNums ds)) (some ⟨w.heap.size, 0, none⟩) ds.length ds := by
  refine ⟨rfl, hf, hr, .inr ⟨w.heap.size, 0, rfl, fun i hi => ?_⟩⟩
  have h1 := Lib.bytesWorld_cell w e (strOfNums ds) i (by rw [strOfNums_size]; exact hi)
  rw [Nat.zero_add, h1]
  have h2 := strCells_nums hf
  unfold Lib.strCells at h2
  have h3 := congrArg (fun l => l[i]?) h2
  simp only [List.getElem?_map] at h3
  have h4 : (strOfNums ds).data.toList.length = ds.length := strOfNums_size ds
  rw [List.getElem?_eq_getElem (by omega), List.getElem?_eq_getElem hi] at h3
  simp only [Option.map_some, Option.some.injEq] at h3
  rw [List.getD_eq_getElem?_getD, List.getElem?_eq_getElem (by omega), List.getD_eq_getElem?_getD, List.getElem?_eq_getElem hi]
  simpa using h3
/-- A text as new bytes. -/
theorem conv_text (w : World) (ds : List Int) (hf : Fit ds) (hr : ds.length ≤ 140737488355328) : ∃ cap W, (convert 9 26 (.string (strOfNums ds))).run Try.prog w = .ok (.slice (some ⟨w.heap.size, 0, none⟩) ds.length cap) W ∧ BS W (some ⟨w.heap.size, 0, none⟩) ds.length ds ∧ Below w.heap.size w W ∧ ds.length ≤ cap ∧ cap ≤ 9223372036854775807 := by
  have h := Lib.run_convert_string_bytes (P := Try.prog) w 9 26 5 (strOfNums ds) Try.underlying9 Try.underlying26 Try.underlying5
  have hs := strOfNums_size ds
  have hg := grownCap_ge w (strOfNums ds).size 0 5
  have hc : grownCap w (strOfNums ds).size 0 5 ≤ maxLen := grownCap_le_maxLen w _ 0 5 (by unfold maxLen; omega)
  rw [hs] at h hg hc
  exact ⟨_, _, h, bytesWorld_bs w 5 ds hf hr, bytesWorld_bel w 5 _, hg, by unfold maxLen at hc; omega⟩
/-- The data of the first option of a class and a code that says a number. -/
def keyO : List Opt → Int → Int → Option (List Int)
  | [], _, _ => none
  | o :: r, c, d => if o.cls = c ∧ o.code = d ∧ o.data.length = 4 then some o.data else keyO r c d
def keyV (os : List Opt) (c d : Int) : Value := match keyO os c d with
  | some s => .tuple #[.int .u32 (num s), .bool true]
  | none => .tuple #[.int .u32 0, .bool false]
theorem num_lt4 {ds : List Int} (hf : Fit ds) (h : ds.length = 4) : 0 ≤ num ds ∧ num ds ≤ 4294967295 := by
  have := num_bd ds hf 4
  rw [List.take_of_length_le (by omega)] at this
  omega
def KeyAt (c d : Int) (a : Option Addr) (n cap : Nat) (os : List Opt) (w : World) (a' : Act) (w' : World) : Prop :=
  ∃ (k : Nat) (u9 u10 u11 u12 u13 u14 u15 u16 u17 u18 u19 u20 u21 u22 u23 u24 u25 u26 u27 u28 u29 u30 u31 u32 u33 u34 u35 u36 u37 u38 u39 u40 u41 u42 u43 u44 u45 u46 u47 : Value), w' = w ∧ a' = { tmps := #[.slice a n cap, .int .i64 c, .int .i64 d, undef, undef, undef, .int .u32 0, .bool false, .int .i64 (k : Nat), u9, u10, u11, u12, u13, u14, u15, u16, u17, u18, u19, u20, u21, u22, u23, u24, u25, u26, u27, u28, u29, u30, u31, u32, u33, u34, u35, u36, u37, u38, u39, u40, u41, u42, u43, u44, u45, u46, u47], defers := [] } ∧ k ≤ n ∧ Hid (keyV (os.drop k) c d = keyV os c d)
set_option maxHeartbeats 2000000 in
theorem key_any (c d : Int) (a : Option Addr) (n cap : Nat) (os : List Opt) (w : World) (h : OS w a n os) :
    Calls Try.prog 15 #[.slice a n cap, .int .i64 c, .int .i64 d] w fun e w' => e = .returned (keyV os c d) ∧ Below w.heap.size w w' := by
  have hl := h.len
  have hr := h.room
  have H : Hid _ := h
  clear h
  go_enter Try.func15, Try.ntmps15
  go_wp2_with fail
  refine scope_loop 0 (KeyAt c d a n cap os w) (fun a' w' => n - slotAt 8 a' w') rfl ?_ ?_
  · rintro a' w' ⟨k, u9, u10, u11, u12, u13, u14, u15, u16, u17, u18, u19, u20, u21, u22, u23, u24, u25, u26, u27, u28, u29, u30, u31, u32, u33, u34, u35, u36, u37, u38, u39, u40, u41, u42, u43, u44, u45, u46, u47, rfl, rfl, hk, hF⟩ IH
    by_cases hlt : k = n
    · have HF : Hid (keyV os c d = .tuple #[.int .u32 0, .bool false]) := by
        show _ = _
        rw [← hF.out, List.drop_of_length_le (by omega)]; rfl
      have e0 : ((k : Int) == (n : Int)) = true := by simp [hlt]
      clear hF hlt IH
      go_wp2
      simp only [Exit.jumpTo]
      go_ret2
      exact ⟨(congrArg Ending.returned HF.out).symm, Below.refl _ _⟩
    · have hkI : (k : Int) < (n : Int) := by omega
      have e0 : ((k : Int) == (n : Int)) = false := by simp; omega
      obtain ⟨o, b, off, ho, rfl, c0, c1, c2, hbl, hfit, hlen⟩ := os_cell H.out (show k < n by omega)
      have hD := drop_cons ho
      have hs := strOfNums_size o.data
      by_cases hcl : o.cls = c
      · have e1 : (o.cls != c) = false := by simp [hcl]
        by_cases hco : o.code = d
        · have e2 : (o.code != d) = false := by simp [hco]
          by_cases h4 : o.data.length = 4
          · have HF : Hid (keyV os c d = .tuple #[.int .u32 (num o.data), .bool true]) := by
              show _ = _
              rw [← hF.out, hD]; simp [keyV, keyO, hcl, hco, h4]
            obtain ⟨cp, W1, hrun, hB, hbel, _, _⟩ := conv_text w' o.data hfit (by omega)
            have hnb := num_lt4 hfit h4
            generalize o.cls = oc at *
            generalize o.code = od at *
            generalize o.data = ds at *
            rw [h4] at hs hrun hB
            have HB : Hid _ := hB
            have HL : Hid _ := hbel
            have e3 : (((strOfNums ds).size : Int) != 4) = false := by rw [hs]; rfl
            clear hF hlt IH ho H hD hcl hco hB hbel hfit hlen h4
            go_wp2_with fail
            refine (number_any cp HB.out (by omega)).mono ?_
            rintro e W2 ⟨rfl, rfl⟩
            have hw : IntKind.u32.wrap (num ds) = num ds := by simp [IntKind.wrap, IntKind.bits, IntKind.signed]; omega
            go_wp2
            simp only [Exit.jumpTo]
            go_ret2
            exact ⟨(congrArg Ending.returned HF.out).symm, HL.out⟩
          · have HF : Hid (keyV (os.drop (k + 1)) c d = keyV os c d) := by
              show _ = _
              rw [← hF.out, hD]; simp [keyV, keyO, h4]
            have e3 : (((strOfNums o.data).size : Int) != 4) = true := by rw [hs]; simp; omega
            clear hF hlt ho H hD hcl hco h4 hs hfit hlen
            generalize o.cls = oc at *
            generalize o.code = od at *
            generalize o.data = ds at *
            go_wp2_with fail
            go_step3
            show FromLabel _ _ _ _ _ _
            refine IH.out _ _ ⟨k + 1, _, _, _, _, _, _, _, _, _, _, _, _, _, _, _, _, _, _, _, _, _, _, _, _, _, _, _, _, _, _, _, _, _, _, _, _, _, _, _, rfl, by first | rfl | go_num, by omega, HF⟩ ?_
            simp [slotAt, intOf]; omega
        · have HF : Hid (keyV (os.drop (k + 1)) c d = keyV os c d) := by
            show _ = _
            rw [← hF.out, hD]; simp [keyV, keyO, hco]
          have e2 : (o.code != d) = true := by simp [hco]
          clear hF hlt ho H hD hcl hco hs hfit hlen
          generalize o.cls = oc at *
          generalize o.code = od at *
          generalize o.data = ds at *
          go_wp2_with fail
          go_step3
          show FromLabel _ _ _ _ _ _
          refine IH.out _ _ ⟨k + 1, _, _, _, _, _, _, _, _, _, _, _, _, _, _, _, _, _, _, _, _, _, _, _, _, _, _, _, _, _, _, _, _, _, _, _, _, _, _, _, rfl, by first | rfl | go_num, by omega, HF⟩ ?_
          simp [slotAt, intOf]; omega
      · have HF : Hid (keyV (os.drop (k + 1)) c d = keyV os c d) := by
          show _ = _
          rw [← hF.out, hD]; simp [keyV, keyO, hcl]
        have e1 : (o.cls != c) = true := by simp [hcl]
        clear hF hlt ho H hD hcl hs hfit hlen
        generalize o.cls = oc at *
        generalize o.code = od at *
        generalize o.data = ds at *
        go_wp2_with fail
        go_step3
        show FromLabel _ _ _ _ _ _
        refine IH.out _ _ ⟨k + 1, _, _, _, _, _, _, _, _, _, _, _, _, _, _, _, _, _, _, _, _, _, _, _, _, _, _, _, _, _, _, _, _, _, _, _, _, _, _, _, rfl, by first | rfl | go_num, by omega, HF⟩ ?_
        simp [slotAt, intOf]; omega
  · intro HG
    go_wp2_with fail
    go_step3
    rename_i K hK
    exact hK _ _ (HG.out _ _ ⟨0, _, _, _, _, _, _, _, _, _, _, _, _, _, _, _, _, _, _, _, _, _, _, _, _, _, _, _, _, _, _, _, _, _, _, _, _, _, _, _, rfl, rfl, by omega, rfl⟩)
end Go.Proofs.Ytgonckbdkgiddaa
