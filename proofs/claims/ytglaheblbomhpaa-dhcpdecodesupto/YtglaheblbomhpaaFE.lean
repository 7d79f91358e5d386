/- What Encode's bytes read as: a message whose fields and options are the ones that were written. -/
import Derived.Test.YtglaheblbomhpaaFD
import Derived.Test.YtglaheblbomhpaaRE
namespace Go.Proofs.Ytglaheblbomhpaa
open Go.RowKit

theorem str_dnums (s : ByteArray) : strOfNums (dnums s) = s := by
  obtain ⟨d⟩ := s
  unfold strOfNums dnums
  congr 1
  rw [List.map_map]
  have : ((fun n : Int => UInt8.ofNat n.toNat) ∘ fun x : UInt8 => (x.toNat : Int)) = id := by
    funext x
    simp
  rw [this]
  simp

/-- Reading the options that were written yields them. -/
theorem parse_written (os : List Opt) (rest : List Int) (h : os.all optB = true) : parseO (optBytes os ++ 255 :: rest) = some os := by
  induction os with
  | nil => exact parse_end rest
  | cons o r ih =>
    rw [List.all_cons, Bool.and_eq_true] at h
    obtain ⟨ho, hr⟩ := h
    have ih := ih hr
    obtain ⟨cls, code, data⟩ := o
    unfold optB at ho
    simp only [Bool.and_eq_true, decide_eq_true_eq, beq_iff_eq] at ho
    obtain ⟨h1, h2, h3, h4⟩ := ho
    have hl : (dnums data).length = data.size := dnums_len data
    show parseO (code :: (data.size : Int) :: (dnums data ++ optBytes r) ++ 255 :: rest) = _
    rw [List.cons_append, List.cons_append, List.append_assoc]
    rw [parse_opt _ _ _ (by omega) (by omega) (by rw [Int.toNat_natCast, List.length_append]; omega)]
    rw [Int.toNat_natCast, List.drop_left' hl, List.take_left' hl, ih, str_dnums]
    subst h1
    rfl

theorem num_be2 (v : Int) (h : 0 ≤ v ∧ v ≤ 65535) : num (be v 2) = v := by
  have q0 : (2 : Int) ^ (8 * 0) = 1 := by decide
  have q1 : (2 : Int) ^ (8 * 1) = 256 := by decide
  simp only [be, num, List.foldl, q0, q1]
  omega
theorem num_be4 (v : Int) (h : 0 ≤ v ∧ v ≤ 4294967295) : num (be v 4) = v := by
  have q0 : (2 : Int) ^ (8 * 0) = 1 := by decide
  have q1 : (2 : Int) ^ (8 * 1) = 256 := by decide
  have q2 : (2 : Int) ^ (8 * 2) = 65536 := by decide
  have q3 : (2 : Int) ^ (8 * 3) = 16777216 := by decide
  simp only [be, num, List.foldl, q0, q1, q2, q3]
  have d2 : v / 65536 = v / 256 / 256 := by omega
  have d3 : v / 16777216 = v / 65536 / 256 := by omega
  omega
theorem num_be6 (v : Int) (h : 0 ≤ v ∧ v ≤ 281474976710655) : num (be v 6) = v := by
  have q0 : (2 : Int) ^ (8 * 0) = 1 := by decide
  have q1 : (2 : Int) ^ (8 * 1) = 256 := by decide
  have q2 : (2 : Int) ^ (8 * 2) = 65536 := by decide
  have q3 : (2 : Int) ^ (8 * 3) = 16777216 := by decide
  have q4 : (2 : Int) ^ (8 * 4) = 4294967296 := by decide
  have q5 : (2 : Int) ^ (8 * 5) = 1099511627776 := by decide
  simp only [be, num, List.foldl, q0, q1, q2, q3, q4, q5]
  have d2 : v / 65536 = v / 256 / 256 := by omega
  have d3 : v / 16777216 = v / 65536 / 256 := by omega
  have d4 : v / 4294967296 = v / 16777216 / 256 := by omega
  have d5 : v / 1099511627776 = v / 4294967296 / 256 := by omega
  omega

/-- The first 34 bytes. -/
def headBytes (op xid secs flags ci yi si gi ch : Int) : List Int := op :: 1 :: 6 :: 0 :: (be xid 4 ++ (be secs 2 ++ (be flags 2 ++ (be ci 4 ++ (be yi 4 ++ (be si 4 ++ (be gi 4 ++ be ch 6)))))))
theorem headBytes_len (op xid secs flags ci yi si gi ch : Int) : (headBytes op xid secs flags ci yi si gi ch).length = 34 := by
  unfold headBytes
  simp only [List.length_cons, List.length_append, be_len]
theorem fix_cut (op xid secs flags ci yi si gi ch : Int) (h : 0 ≤ op ∧ op ≤ 255) : fixBytes op xid secs flags ci yi si gi ch = headBytes op xid secs flags ci yi si gi ch ++ noughts ++ [99, 130, 83, 99] := by
  have e1 : be op 1 = [op] := by
    have q0 : (2 : Int) ^ (8 * 0) = 1 := by decide
    simp only [be, q0, Int.ediv_one]
    rw [show op % 256 = op from by omega]
  have e2 : dnums ⟨#[1, 6, 0]⟩ = [1, 6, 0] := rfl
  have e3 : dnums ⟨#[99, 130, 83, 99]⟩ = [99, 130, 83, 99] := rfl
  unfold fixBytes headBytes
  rw [show (1 : Int).toNat = 1 from rfl, show (2 : Int).toNat = 2 from rfl, show (4 : Int).toNat = 4 from rfl, show (6 : Int).toNat = 6 from rfl, e1, e2, e3]
  simp only [List.nil_append, List.append_assoc, List.cons_append]

theorem wr_tail (op xid secs flags ci yi si gi ch : Int) (h : 0 ≤ op ∧ op ≤ 255) (T : List Int) : (fixBytes op xid secs flags ci yi si gi ch ++ T).drop 236 = [99, 130, 83, 99] ++ T := by
  rw [fix_cut _ _ _ _ _ _ _ _ _ h, List.append_assoc, List.drop_left' (by rw [List.length_append, headBytes_len, noughts_len])]

theorem wr_isMsg (op xid secs flags ci yi si gi ch : Int) (h : op = 1 ∨ op = 2) (T : List Int) : isMsgB (fixBytes op xid secs flags ci yi si gi ch ++ T) = true := by
  have ho : 0 ≤ op ∧ op ≤ 255 := by omega
  unfold isMsgB
  rw [wr_tail op xid secs flags ci yi si gi ch ho T]
  have e0 : (fixBytes op xid secs flags ci yi si gi ch ++ T).getD 0 0 = op := by rw [fix_cut _ _ _ _ _ _ _ _ _ ho]; rfl
  have e1 : ((fixBytes op xid secs flags ci yi si gi ch ++ T).drop 1).take 3 = [1, 6, 0] := by rw [fix_cut _ _ _ _ _ _ _ _ _ ho]; rfl
  have e2 : (([99, 130, 83, 99] : List Int) ++ T).take 4 = [99, 130, 83, 99] := rfl
  have e3 : strOfNums [1, 6, 0] = ⟨#[1, 6, 0]⟩ := rfl
  have e4 : strOfNums [99, 130, 83, 99] = ⟨#[99, 130, 83, 99]⟩ := rfl
  rw [e0, e1, e2, e3, e4, List.length_append, fixBytes_len]
  simp only [BEq.rfl, Bool.and_true]
  rw [show decide (240 ≤ 240 + T.length) = true from by simp, Bool.true_and]
  rcases h with rfl | rfl <;> rfl

theorem wr_drop (op xid secs flags ci yi si gi ch : Int) (T : List Int) : (fixBytes op xid secs flags ci yi si gi ch ++ T).drop 240 = T := List.drop_left' (fixBytes_len op xid secs flags ci yi si gi ch)

theorem cut_at (A B C : List Int) (k s : Nat) (hA : A.length = k) (hB : B.length = s) : ((A ++ (B ++ C)).drop k).take s = B := by
  rw [List.drop_left' hA, List.take_left' hB]

theorem wr_fields (op xid secs flags ci yi si gi ch : Int) (h : op = 1 ∨ op = 2) (hx : 0 ≤ xid ∧ xid ≤ 4294967295) (hs : 0 ≤ secs ∧ secs ≤ 65535) (hf : 0 ≤ flags ∧ flags ≤ 65535) (hci : 0 ≤ ci ∧ ci ≤ 4294967295) (hyi : 0 ≤ yi ∧ yi ≤ 4294967295) (hsi : 0 ≤ si ∧ si ≤ 4294967295) (hgi : 0 ≤ gi ∧ gi ≤ 4294967295) (hch : 0 ≤ ch ∧ ch ≤ 281474976710655) (T : List Int) (s : Value) :
    fixV2 (fixBytes op xid secs flags ci yi si gi ch ++ T) s = dhcpV op xid secs flags ci yi si gi ch s := by
  have ho : 0 ≤ op ∧ op ≤ 255 := by omega
  unfold fixV2
  rw [fix_cut _ _ _ _ _ _ _ _ _ ho, List.append_assoc, List.append_assoc]
  generalize noughts ++ ([99, 130, 83, 99] ++ T) = U
  have l (v : Int) (k : Nat) : (be v k).length = k := be_len v k
  have e0 : (headBytes op xid secs flags ci yi si gi ch ++ U).getD 0 0 = op := rfl
  have e1 : ((headBytes op xid secs flags ci yi si gi ch ++ U).drop 4).take 4 = be xid 4 := rfl
  have e2 : ((headBytes op xid secs flags ci yi si gi ch ++ U).drop 8).take 2 = be secs 2 := rfl
  have e3 : ((headBytes op xid secs flags ci yi si gi ch ++ U).drop 10).take 2 = be flags 2 := rfl
  have e4 : ((headBytes op xid secs flags ci yi si gi ch ++ U).drop 12).take 4 = be ci 4 := rfl
  have e5 : ((headBytes op xid secs flags ci yi si gi ch ++ U).drop 16).take 4 = be yi 4 := rfl
  have e6 : ((headBytes op xid secs flags ci yi si gi ch ++ U).drop 20).take 4 = be si 4 := rfl
  have e7 : ((headBytes op xid secs flags ci yi si gi ch ++ U).drop 24).take 4 = be gi 4 := rfl
  have e8 : ((headBytes op xid secs flags ci yi si gi ch ++ U).drop 28).take 6 = be ch 6 := rfl
  rw [e0, e1, e2, e3, e4, e5, e6, e7, e8, num_be4 _ hx, num_be2 _ hs, num_be2 _ hf, num_be4 _ hci, num_be4 _ hyi, num_be4 _ hsi, num_be4 _ hgi, num_be6 _ hch]

/-- The two tests agree. -/
theorem fit16_eq (v : Int) : fitN 16 v = decide (0 ≤ v ∧ v ≤ 65535) := by
  unfold fitN fit16
  simp
theorem tests_agree (op secs flags ch : Int) (os : List Opt) : (fixB op secs flags ch && optsB os) = (rfixB op secs flags ch os.length && os.all optB) := by
  unfold fixB optsB rfixB
  rw [fit16_eq, fit16_eq, show decide (ch ≤ 281474976710655) = decide (ch < 281474976710656) from by rw [decide_eq_decide]; omega]
  cases (op == 1 || op == 2) <;> cases decide (0 ≤ secs ∧ secs ≤ 65535) <;> cases decide (0 ≤ flags ∧ flags ≤ 65535) <;> cases decide (ch < 281474976710656) <;> cases decide (os.length ≤ 64) <;> cases os.all optB <;> rfl

end Go.Proofs.Ytglaheblbomhpaa
