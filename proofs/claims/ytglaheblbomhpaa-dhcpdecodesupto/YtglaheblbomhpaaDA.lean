/- Rows of options of DHCP messages, and what Find of package dhcp and of the reference answers. Conditions: the options can be read. -/
import Derived.Test.YtglaheblbomhpaaLOct
namespace Go.Proofs.Ytglaheblbomhpaa
open Go.RowKit

theorem scope_jumps {P : Program} {a : Act} {w : World} {Q : Exit → Act → World → Prop} {c rest : Code} (l : Nat) (J : Act → World → Prop) (μ : Act → World → Nat) (hf : findLabel c l = some (Code.skip.seq rest))
    (pass : ∀ a w, J a w → rest.wp P (Exit.jump l (fun a' w' => J a' w' ∧ μ a' w' < μ a w) Q) a w)
    (first : Hid (∀ a w, J a w → rest.wp P (Exit.jump l J Q) a w) → c.wp P (Exit.jump l J Q) a w) : (Code.scope c).wp P Q a w := by
  refine wp_scope_jumps l J μ hf (first ?_) (fun a w hJ => wp_seq (wp_skip (pass a w hJ)))
  intro a w hJ
  refine Code.wp_mono ?_ (pass a w hJ)
  intro e a' w' h
  cases e <;> first | exact h | exact ⟨h.1, h.2.1⟩

/-- An option: its class, its code, its data. -/
structure Opt where
  cls : Int
  code : Int
  data : ByteArray

/-- A slice of n options that can be read. -/
structure OS (w : World) (a : Option Addr) (n : Nat) (os : List Opt) : Prop where
  len : os.length = n
  room : n ≤ 140737488355328
  cells : n = 0 ∨ ∃ b off, a = some ⟨b, off, none⟩ ∧ ∀ i o, os[i]? = some o → w.cell? ⟨b, off + i * 3, none⟩ = some (.int .i64 o.cls) ∧ w.cell? ⟨b, off + i * 3 + 1, none⟩ = some (.int .i64 o.code) ∧ w.cell? ⟨b, off + i * 3 + 2, none⟩ = some (.string o.data)

theorem OS.below {w w' : World} {a : Option Addr} {n : Nat} {os : List Opt} (h : OS w a n os) (hb : Below w.heap.size w w') : OS w' a n os := by
  refine ⟨h.len, h.room, ?_⟩
  rcases h.cells with h0 | ⟨b, off, rfl, hc⟩
  · exact .inl h0
  · refine .inr ⟨b, off, rfl, fun i o hi => ?_⟩
    obtain ⟨c0, c1, c2⟩ := hc i o hi
    exact ⟨(hb.cell (cell_lt c0)).trans c0, (hb.cell (cell_lt c1)).trans c1, (hb.cell (cell_lt c2)).trans c2⟩

theorem OS.empty {w : World} (a : Option Addr) : OS w a 0 [] := ⟨rfl, by omega, .inl rfl⟩

/-- A message. -/
def dhcpV (op xid secs flags ci yi si gi ch : Int) (s : Value) : Value := .agg #[.int .i64 op, .int .u32 xid, .int .i64 secs, .int .i64 flags, .int .u32 ci, .int .u32 yi, .int .u32 si, .int .u32 gi, .int .u64 ch, s]

/-- The first option of a code. -/
def findO : List Opt → Int → Option ByteArray
  | [], _ => none
  | o :: r, c => if o.code = c then some o.data else findO r c
def findV (os : List Opt) (c : Int) : Value := match findO os c with
  | some s => .tuple #[.string s, .bool true]
  | none => .tuple #[.string ⟨#[]⟩, .bool false]

theorem drop_cons {os : List Opt} {k : Nat} {o : Opt} (h : os[k]? = some o) : os.drop k = o :: os.drop (k + 1) := by
  obtain ⟨hk, rfl⟩ := List.getElem?_eq_some_iff.1 h
  exact List.drop_eq_getElem_cons hk

/-- What holds at Find's label: the first k options are of other codes. -/
def FindAt (op xid secs flags ci yi si gi ch code : Int) (a : Option Addr) (n cap : Nat) (os : List Opt) (w : World) (a' : Act) (w' : World) : Prop :=
  ∃ (k : Nat) (u7 u8 u9 u10 u11 u12 u13 u14 u15 u16 u17 u18 u19 u20 u21 u22 u23 u24 u25 u26 u27 : Value), w' = w.alloc (.cells #[.int .i64 op, .int .u32 xid, .int .i64 secs, .int .i64 flags, .int .u32 ci, .int .u32 yi, .int .u32 si, .int .u32 gi, .int .u64 ch, .slice a n cap] 27) ∧ a' = { tmps := #[.agg #[.int .i64 op, .int .u32 xid, .int .i64 secs, .int .i64 flags, .int .u32 ci, .int .u32 yi, .int .u32 si, .int .u32 gi, .int .u64 ch, .slice a n cap], .int .i64 code, .pointer (some ⟨w.heap.size, 0, none⟩), undef, .string ⟨#[]⟩, .bool false, .int .i64 (k : Nat), u7, u8, u9, u10, u11, u12, u13, u14, u15, u16, u17, u18, u19, u20, u21, u22, u23, u24, u25, u26, u27], defers := [] } ∧ k ≤ n ∧ Hid (findV (os.drop k) code = findV os code)

set_option maxHeartbeats 1000000 in
theorem find_any (op xid secs flags ci yi si gi ch code : Int) (a : Option Addr) (n cap : Nat) (os : List Opt) (w : World) (h : OS w a n os) :
    Calls Try.prog 15 #[dhcpV op xid secs flags ci yi si gi ch (.slice a n cap), .int .i64 code] w fun e w' => e = .returned (findV os code) ∧ w' = w.alloc (.cells #[.int .i64 op, .int .u32 xid, .int .i64 secs, .int .i64 flags, .int .u32 ci, .int .u32 yi, .int .u32 si, .int .u32 gi, .int .u64 ch, .slice a n cap] 27) := by
  unfold dhcpV
  have hl := h.len
  have hr := h.room
  have H : Hid _ := h
  clear h
  go_enter Try.func15, Try.ntmps15
  go_wp2_with fail
  refine scope_jumps 0 (FindAt op xid secs flags ci yi si gi ch code a n cap os w) (fun a' w' => n - slotAt 6 a' w') rfl ?_ ?_
  · rintro a' w' ⟨k, u7, u8, u9, u10, u11, u12, u13, u14, u15, u16, u17, u18, u19, u20, u21, u22, u23, u24, u25, u26, u27, rfl, rfl, hk, hF⟩
    by_cases hlt : k = n
    · have HF : Hid (findV os code = .tuple #[.string ⟨#[]⟩, .bool false]) := by
        show _ = _
        rw [← hF.out, List.drop_of_length_le (by omega)]; rfl
      have e0 : ((k : Int) == (n : Int)) = true := by simp [hlt]
      clear hF hlt
      go_wp2
      simp only [Exit.jump]
      go_ret2
      exact ⟨(congrArg Ending.returned HF.out).symm, rfl⟩
    · have hkn : k < n := by omega
      have hkI : (k : Int) < (n : Int) := by omega
      have e0 : ((k : Int) == (n : Int)) = false := by simp; omega
      obtain ⟨o, ho⟩ : ∃ o, os[k]? = some o := ⟨os[k]'(by omega), List.getElem?_eq_getElem (by omega)⟩
      obtain ⟨b, off, rfl, c0, c1, c2⟩ : ∃ b off, a = some ⟨b, off, none⟩ ∧ w.cell? ⟨b, off + k * 3, none⟩ = some (.int .i64 o.cls) ∧ w.cell? ⟨b, off + k * 3 + 1, none⟩ = some (.int .i64 o.code) ∧ w.cell? ⟨b, off + k * 3 + 2, none⟩ = some (.string o.data) := by
        rcases H.out.cells with h0 | ⟨b, off, e, hc⟩
        · omega
        · exact ⟨b, off, e, hc k o ho⟩
      have hbl := cell_lt c0
      have hne : ¬ w.heap.size = b := by simp at hbl; omega
      have hD := drop_cons ho
      by_cases hc : o.code = code
      · have HF : Hid (findV os code = .tuple #[.string o.data, .bool true]) := by
          show _ = _
          rw [← hF.out, hD]; simp [findV, findO, hc]
        have e1 : (o.code == code) = true := by simp [hc]
        clear hF hlt ho H hD hc
        generalize o.code = oc at *
        generalize o.data = od at *
        go_wp2
        simp only [Exit.jump]
        go_ret2
        exact ⟨(congrArg Ending.returned HF.out).symm, rfl⟩
      · have HF : Hid (findV (os.drop (k + 1)) code = findV os code) := by
          show _ = _
          rw [← hF.out, hD]; simp [findV, findO, hc]
        have e1 : (o.code == code) = false := by simp [hc]
        clear hF hlt ho H hD hc
        generalize o.code = oc at *
        generalize o.data = od at *
        go_wp2
        go_step3
        refine ⟨rfl, ⟨k + 1, _, _, _, _, _, _, _, _, _, _, _, _, _, _, _, _, _, _, _, _, _, rfl, by first | rfl | go_num, by omega, HF⟩, ?_⟩
        simp [slotAt, intOf]; omega
  · intro HG
    go_wp2_with fail
    go_step3
    rename_i K hK
    exact hK _ _ (HG.out _ _ ⟨0, _, _, _, _, _, _, _, _, _, _, _, _, _, _, _, _, _, _, _, _, _, rfl, rfl, by omega, rfl⟩)
end Go.Proofs.Ytglaheblbomhpaa
