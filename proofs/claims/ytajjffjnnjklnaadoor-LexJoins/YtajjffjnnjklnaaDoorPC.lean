/- The document's Join; LexJoins. Conditions: the library's two errors lie where the program's text lays them. -/
import Derived.Test.YtajjffjnnjklnaaDoorPB
namespace Go.Proofs.YtajjffjnnjklnaaDoor
open Go.Shelf Go.RowKit
theorem jn_len9 {L : List Tk} (h : ∀ x ∈ L, x.t.size ≤ 4096) (hl : L.length ≤ 4097) (k : Nat) : (jn (reprs (L.take k))).size ≤ 17000000 :=
  joined_size (fun x hx => h x (List.mem_of_mem_take hx)) (by rw [List.length_take]; omega)
set_option linter.unusedSimpArgs false
def isNil {α : Type} (l : List α) : Bool := match l with | [] => true | _ => false
theorem isNil_iff {α : Type} {l : List α} : isNil l = true ↔ l = [] := by cases l <;> simp [isNil]
theorem isNil_snoc {α : Type} (l : List α) (x : α) : isNil (l ++ [x]) = false := by cases l <;> rfl
set_option maxRecDepth 20000 in
set_option maxHeartbeats 32000000 in
theorem rjoin_any (a : Option Addr) (n cap : Nat) (L : List Tk) (w : World) (h : TKS w a n L) (_hc : n ≤ cap) (hz : ∀ x ∈ L, x.t.size ≤ 4096) (hl : n ≤ 4097) :
    Calls Tryd.prog 10 #[.slice a n cap] w fun e w' => e = .returned (.string (jn (reprs L))) ∧ Below w.heap.size w w' := by
  have hlen := h.len
  have H : Hid _ := h
  have HZ := Lib.hid (fun x hx => hz x hx)
  have HJ := Lib.hid (fun k => jn_len9 hz (by omega) k)
  clear h hz
  obtain ⟨J, hJ⟩ : ∃ J, jn (reprs L) = J := ⟨_, rfl⟩
  rw [hJ]
  have HJE := Lib.hid hJ
  clear hJ
  go_enter Tryd.func10, Tryd.ntmps10
  go_wp2_with fail
  go_loopw [3, 4, 5] (fun vs vf i wr => ∃ (k : Nat) (s : ByteArray) (b : Bool), k ≤ n ∧ vs = .string s ∧ vf = .bool b ∧ i = .int .i64 k ∧ Hid (b = isNil (reprs (L.take k))) ∧ Hid (s = jn (reprs (L.take k))) ∧ s.size ≤ 17000000 ∧ Hid (Below w.heap.size w wr)) (fun _ _ i _ => n - (intOf i).toNat)
  case atStart => exact ⟨0, non, true, by omega, rfl, rfl, rfl, rfl, rfl, Nat.zero_le _, Below.refl _ _⟩
  case round =>
    obtain ⟨k, s, fb, hk, rfl, rfl, rfl, HFB, HS, hss, HB⟩ := hrel
    by_cases hlt : k < n
    · have hkI : (k : Int) < n := by omega
      obtain ⟨x, hx⟩ := getK (os := L) (k := k) (by omega)
      obtain ⟨b, off, rfl, c0, c1, c2, c3, hbl⟩ := (H.out.below HB.out).at hx
      have hxz := HZ.out x (List.mem_of_getElem? hx)
      have HTK : Hid (reprs (L.take (k + 1)) = reprs (L.take k) ++ (if x.k = 7 then [] else [repr9 x])) := by
        show _ = _
        rw [take_snoc9 hx, reprs_app, reprs_one]
      have hJ1 := HJ.out (k + 1)
      obtain ⟨xk, xt, xn, xa⟩ := x
      have c0 : wr.cell? ⟨b, off + k * 4, none⟩ = some (.int .i64 xk) := c0
      have c1 : wr.cell? ⟨b, off + k * 4 + 1, none⟩ = some (.string xt) := c1
      have hxz : xt.size ≤ 4096 := hxz
      clear hx c2 c3
      by_cases h7 : xk = 7
      · subst h7
        have e1 : reprs (L.take (k + 1)) = reprs (L.take k) := by
          rw [HTK.out]
          show reprs (L.take k) ++ [] = _
          rw [List.append_nil]
        have HFB2 : Hid (fb = isNil (reprs (L.take (k + 1)))) := by show _ = _; rw [e1]; exact HFB.out
        have HS2 : Hid (s = jn (reprs (L.take (k + 1)))) := by show _ = _; rw [e1]; exact HS.out
        clear e1 HFB HS HTK hJ1
        go_wp2
        go_roundw
        case rel => exact ⟨k + 1, s, fb, by omega, rfl, rfl, by go_num, HFB2, HS2, hss, HB⟩
        case measure => simp [intOf]; omega
      have h7b : (xk == 7) = false := by simp [h7]
      have hjs := jn_snoc (reprs (L.take k)) (repr9 ⟨xk, xt, xn, xa⟩)
      have e1 : reprs (L.take (k + 1)) = reprs (L.take k) ++ [repr9 ⟨xk, xt, xn, xa⟩] := by
        rw [HTK.out, if_neg h7]
      rw [e1] at hJ1
      have HFB2 : Hid (false = isNil (reprs (L.take (k + 1)))) := by show _ = _; rw [e1, isNil_snoc]
      clear HTK
      cases hfb : fb with
      | true =>
        by_cases h6 : xk = 6
        · have er : repr9 ⟨xk, xt, xn, xa⟩ = quo ++ xt ++ quo := if_pos h6
          rw [er] at hjs hJ1 e1
          have hb9 : fb = true := hfb
          subst hb9
          have hnil : reprs (L.take k) = [] := isNil_iff.1 HFB.out.symm
          rw [if_pos hnil] at hjs
          have hs0 : s = non := by rw [HS.out, hnil]; rfl
          subst hs0
          have hnew : non ++ ⟨#[34]⟩ ++ xt ++ ⟨#[34]⟩ = jn (reprs (L.take (k + 1))) := by
            rw [e1, hjs]
            apply ByteArray.ext
            simp only [data_app, Array.append_assoc]
            simp [non, quo]
          have hsz9 : (non ++ ⟨#[34]⟩ ++ xt ++ ⟨#[34]⟩).size ≤ 17000000 := by rw [hnew, e1]; exact hJ1
          have HN := Lib.hid hnew
          have HSZ := Lib.hid hsz9
          have hq1 : ¬ 9223372036854775807 < 0 + 1 := by omega
          have hq2 : ¬ 9223372036854775807 < 1 + xt.size := by omega
          have hq3 : ¬ 9223372036854775807 < 1 + xt.size + 1 := by omega
          subst h6
          have hnn : (⟨#[]⟩ : ByteArray) = non := rfl
          clear hnew hsz9 hjs e1 hJ1 HS HFB er hnil
          go_wp2
          go_roundw
          case rel => exact ⟨k + 1, _, false, by omega, rfl, rfl, by go_num, HFB2, HN, HSZ.out, HB⟩
          case measure => simp [intOf]; omega
        · have er : repr9 ⟨xk, xt, xn, xa⟩ = xt := if_neg h6
          rw [er] at hjs hJ1 e1
          have hb9 : fb = true := hfb
          subst hb9
          have hnil : reprs (L.take k) = [] := isNil_iff.1 HFB.out.symm
          rw [if_pos hnil] at hjs
          have hs0 : s = non := by rw [HS.out, hnil]; rfl
          subst hs0
          have hnew : non ++ xt = jn (reprs (L.take (k + 1))) := by
            rw [e1, hjs]
            apply ByteArray.ext
            simp only [data_app, Array.append_assoc]
            simp [non]
          have hsz9 : (non ++ xt).size ≤ 17000000 := by rw [hnew, e1]; exact hJ1
          have HN := Lib.hid hnew
          have HSZ := Lib.hid hsz9
          have hq1 : ¬ 9223372036854775807 < xt.size := by omega
          have h6b : (xk == 6) = false := by simp [h6]
          have hnn : (⟨#[]⟩ : ByteArray) = non := rfl
          clear hnew hsz9 hjs e1 hJ1 HS HFB er hnil
          go_wp2
          go_roundw
          case rel => exact ⟨k + 1, _, false, by omega, rfl, rfl, by go_num, HFB2, HN, HSZ.out, HB⟩
          case measure => simp [intOf]; omega
      | false =>
        by_cases h6 : xk = 6
        · have er : repr9 ⟨xk, xt, xn, xa⟩ = quo ++ xt ++ quo := if_pos h6
          rw [er] at hjs hJ1 e1
          have hb9 : fb = false := hfb
          subst hb9
          have hnil : ¬ reprs (L.take k) = [] := fun q => by have := HFB.out; rw [q] at this; cases this
          rw [if_neg hnil, ← HS.out] at hjs
          have hnew : (s ++ ⟨#[32]⟩) ++ ⟨#[34]⟩ ++ xt ++ ⟨#[34]⟩ = jn (reprs (L.take (k + 1))) := by
            rw [e1, hjs]
            apply ByteArray.ext
            simp only [data_app, Array.append_assoc]
            rfl
          have hsz9 : ((s ++ ⟨#[32]⟩) ++ ⟨#[34]⟩ ++ xt ++ ⟨#[34]⟩).size ≤ 17000000 := by rw [hnew, e1]; exact hJ1
          have HN := Lib.hid hnew
          have HSZ := Lib.hid hsz9
          have hq0 : ¬ 9223372036854775807 < s.size + 1 := by omega
          have hq1 : ¬ 9223372036854775807 < s.size + 1 + 1 := by omega
          have hq2 : ¬ 9223372036854775807 < s.size + 1 + 1 + xt.size := by omega
          have hq3 : ¬ 9223372036854775807 < s.size + 1 + 1 + xt.size + 1 := by omega
          subst h6

          clear hnew hsz9 hjs e1 hJ1 HS HFB er hnil
          go_wp2
          go_roundw
          case rel => exact ⟨k + 1, _, false, by omega, rfl, rfl, by go_num, HFB2, HN, HSZ.out, HB⟩
          case measure => simp [intOf]; omega
        · have er : repr9 ⟨xk, xt, xn, xa⟩ = xt := if_neg h6
          rw [er] at hjs hJ1 e1
          have hb9 : fb = false := hfb
          subst hb9
          have hnil : ¬ reprs (L.take k) = [] := fun q => by have := HFB.out; rw [q] at this; cases this
          rw [if_neg hnil, ← HS.out] at hjs
          have hnew : (s ++ ⟨#[32]⟩) ++ xt = jn (reprs (L.take (k + 1))) := by
            rw [e1, hjs]
            apply ByteArray.ext
            simp only [data_app, Array.append_assoc]
            rfl
          have hsz9 : ((s ++ ⟨#[32]⟩) ++ xt).size ≤ 17000000 := by rw [hnew, e1]; exact hJ1
          have HN := Lib.hid hnew
          have HSZ := Lib.hid hsz9
          have hq0 : ¬ 9223372036854775807 < s.size + 1 := by omega
          have hq1 : ¬ 9223372036854775807 < s.size + 1 + xt.size := by omega
          have h6b : (xk == 6) = false := by simp [h6]

          clear hnew hsz9 hjs e1 hJ1 HS HFB er hnil
          go_wp2
          go_roundw
          case rel => exact ⟨k + 1, _, false, by omega, rfl, rfl, by go_num, HFB2, HN, HSZ.out, HB⟩
          case measure => simp [intOf]; omega
    · obtain rfl : n = k := by omega
      have HX : Hid (s = J) := by
        show _ = _
        rw [HS.out, ← HJE.out, List.take_of_length_le (by omega)]
      have hX := HX.out
      subst hX
      clear HX HS HFB HZ HJ H HJE
      go_wp2
      go_ret
      exact ⟨rfl, HB.out⟩
end Go.Proofs.YtajjffjnnjklnaaDoor
