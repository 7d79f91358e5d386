/- Plain laws on ARP packets as bytes. No condition of the program. -/
import Derived.Test.YtfjhahofmmbleaaREncArp
namespace Go.Proofs.Ytfjhahofmmbleaa
open Go.RowKit

theorem arpBytes_bd (op sha spa tha tpa : Int) : ∀ i, 0 ≤ (arpBytes op sha spa tha tpa).getD i 0 ∧ (arpBytes op sha spa tha tpa).getD i 0 ≤ 255 := by
  have h6 : ∀ i, 0 ≤ ([0, 1, 8, 0, 6, 4] : List Int).getD i 0 ∧ ([0, 1, 8, 0, 6, 4] : List Int).getD i 0 ≤ 255 := by
    intro i
    match i with
    | 0 | 1 | 2 | 3 | 4 | 5 => simp
    | i + 6 => simp
  exact fits_append (fits_append (fits_append (fits_append (fits_append h6 (be_bd _ _)) (be_bd _ _)) (be_bd _ _)) (be_bd _ _)) (be_bd _ _)
theorem arpBytes_len (op sha spa tha tpa : Int) : (arpBytes op sha spa tha tpa).length = 28 := by simp [arpBytes, be_len]

/-- What an ARP packet that is read is good for. -/
theorem arp_cases (zs : List Int) (h : ∀ i, 0 ≤ zs.getD i 0 ∧ zs.getD i 0 ≤ 255) :
    (∃ e, (e = 20 ∨ e = 21) ∧ arpOf zs = arpV 0 0 0 0 0 e) ∨
    ∃ op sha spa tha tpa, arpOf zs = arpV op sha spa tha tpa 0 ∧ arpFits op sha tha = true ∧ 0 ≤ sha ∧ (0 ≤ spa ∧ spa ≤ 4294967295) ∧ 0 ≤ tha ∧ (0 ≤ tpa ∧ tpa ≤ 4294967295) ∧ arpBytes op sha spa tha tpa = zs.take 28 ∧ 28 ≤ zs.length := by
  unfold arpOf
  by_cases h2 : zs.length < 28
  · rw [if_pos h2]; exact .inl ⟨20, .inl rfl, rfl⟩
  rw [if_neg h2]
  by_cases h3 : num (zs.take 6) ≠ 4429186564
  · rw [if_pos h3]; exact .inl ⟨21, .inr rfl, rfl⟩
  rw [if_neg h3]
  have nk : ∀ l k, l + k ≤ zs.length → 0 ≤ num ((zs.drop l).take k) ∧ num ((zs.drop l).take k) < 256 ^ k := fun l k hl => by
    have := num_lt _ (fits_take (fits_drop h l) k)
    rwa [show ((zs.drop l).take k).length = k from by simp; omega] at this
  have bk : ∀ l k, l + k ≤ zs.length → be (num ((zs.drop l).take k)) k = (zs.drop l).take k := fun l k hl => be_num_k _ (fits_take (fits_drop h l) k) k (by simp; omega)
  have p2 : (256 : Int) ^ 2 = 65536 := by decide
  have p4 : (256 : Int) ^ 4 = 4294967296 := by decide
  have p6 : (256 : Int) ^ 6 = 281474976710656 := by decide
  have d6 := nk 6 2 (by omega)
  have d8 := nk 8 6 (by omega)
  have d14 := nk 14 4 (by omega)
  have d18 := nk 18 6 (by omega)
  have d24 := nk 24 4 (by omega)
  rw [p2] at d6
  rw [p4] at d14 d24
  rw [p6] at d8 d18
  have e0 : ([0, 1, 8, 0, 6, 4] : List Int) = zs.take 6 := ((form_iff (zs.take 6) (fits_take h 6) (by simp; omega)).1 (Classical.not_not.1 h3)).symm
  refine .inr ⟨_, _, _, _, _, rfl, ?_, d8.1, ⟨d14.1, by omega⟩, d18.1, ⟨d24.1, by omega⟩, ?_, by omega⟩
  · simp only [arpFits, wordB, Bool.and_eq_true, decide_eq_true_eq]
    omega
  · simp only [arpBytes, bk 6 2 (by omega), bk 8 6 (by omega), bk 14 4 (by omega), bk 18 6 (by omega), bk 24 4 (by omega), e0]
    rw [show zs.take 28 = zs.take (6 + 2 + 6 + 4 + 6 + 4) from rfl, List.take_add, List.take_add, List.take_add, List.take_add, List.take_add]

theorem arp_back (op sha spa tha tpa : Int) (behind : List Int) (h1 : 0 ≤ sha) (h2 : 0 ≤ spa ∧ spa ≤ 4294967295) (h3 : 0 ≤ tha) (h4 : 0 ≤ tpa ∧ tpa ≤ 4294967295) (hf : arpFits op sha tha = true) :
    arpOf (arpBytes op sha spa tha tpa ++ behind) = arpV op sha spa tha tpa 0 := by
  simp only [arpFits, Bool.and_eq_true, decide_eq_true_eq] at hf
  obtain ⟨⟨f1, f2⟩, f3⟩ := hf
  have f3' := wordB_yes f3
  have l6 : ∀ v, (be v 6).length = 6 := fun v => be_len v 6
  have l4 : ∀ v, (be v 4).length = 4 := fun v => be_len v 4
  have l2 : ∀ v, (be v 2).length = 2 := fun v => be_len v 2
  have cut : ∀ (A B C : List Int) (l k : Nat), A.length = l → B.length = k → ((A ++ B ++ C).drop l).take k = B := fun A B C l k hl hk => by
    rw [List.append_assoc, List.drop_append, List.drop_of_length_le (by omega), List.nil_append, show l - A.length = 0 from by omega, List.drop_zero, List.take_append, List.take_of_length_le (by omega), show k - B.length = 0 from by omega]
    simp
  have t0 : (arpBytes op sha spa tha tpa ++ behind).take 6 = [0, 1, 8, 0, 6, 4] := by simp [arpBytes]
  have t6 : ((arpBytes op sha spa tha tpa ++ behind).drop 6).take 2 = be op 2 := by
    rw [show arpBytes op sha spa tha tpa ++ behind = [0, 1, 8, 0, 6, 4] ++ be op 2 ++ (be sha 6 ++ be spa 4 ++ be tha 6 ++ be tpa 4 ++ behind) from by simp [arpBytes]]
    exact cut _ _ _ _ _ rfl (l2 _)
  have t8 : ((arpBytes op sha spa tha tpa ++ behind).drop 8).take 6 = be sha 6 := by
    rw [show arpBytes op sha spa tha tpa ++ behind = ([0, 1, 8, 0, 6, 4] ++ be op 2) ++ be sha 6 ++ (be spa 4 ++ be tha 6 ++ be tpa 4 ++ behind) from by simp [arpBytes]]
    exact cut _ _ _ _ _ (by simp [l2]) (l6 _)
  have t14 : ((arpBytes op sha spa tha tpa ++ behind).drop 14).take 4 = be spa 4 := by
    rw [show arpBytes op sha spa tha tpa ++ behind = ([0, 1, 8, 0, 6, 4] ++ be op 2 ++ be sha 6) ++ be spa 4 ++ (be tha 6 ++ be tpa 4 ++ behind) from by simp [arpBytes]]
    exact cut _ _ _ _ _ (by simp [l2, l6]) (l4 _)
  have t18 : ((arpBytes op sha spa tha tpa ++ behind).drop 18).take 6 = be tha 6 := by
    rw [show arpBytes op sha spa tha tpa ++ behind = ([0, 1, 8, 0, 6, 4] ++ be op 2 ++ be sha 6 ++ be spa 4) ++ be tha 6 ++ (be tpa 4 ++ behind) from by simp [arpBytes]]
    exact cut _ _ _ _ _ (by simp [l2, l6, l4]) (l6 _)
  have t24 : ((arpBytes op sha spa tha tpa ++ behind).drop 24).take 4 = be tpa 4 := by
    rw [show arpBytes op sha spa tha tpa ++ behind = ([0, 1, 8, 0, 6, 4] ++ be op 2 ++ be sha 6 ++ be spa 4 ++ be tha 6) ++ be tpa 4 ++ behind from by simp [arpBytes]]
    exact cut _ _ _ _ _ (by simp [l2, l6, l4]) (l4 _)
  unfold arpOf
  rw [List.length_append, arpBytes_len, if_neg (by omega), t0, t6, t8, t14, t18, t24, num_be2 op f3'.1 f3'.2, num_be6 sha h1 f1, num_be4 spa h2.1 h2.2, num_be6 tha h3 f2, num_be4 tpa h4.1 h4.2, if_neg (by decide)]
end Go.Proofs.Ytfjhahofmmbleaa
