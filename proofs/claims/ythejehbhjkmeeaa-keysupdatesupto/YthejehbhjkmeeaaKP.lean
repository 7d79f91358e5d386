/- lives. No condition. -/
import Derived.Test.YthejehbhjkmeeaaKN
namespace Go.Proofs.Ythejehbhjkmeeaa
open Go.RowKit
def nmA : ByteArray := ⟨#[97]⟩
def nmB : ByteArray := ⟨#[98]⟩
def nmR : ByteArray := ⟨#[114]⟩
def rowZ (k : Int) (n : ByteArray) : List Value := [.int .i64 k, .string n, .string ⟨#[]⟩, .string ⟨#[]⟩, .string ⟨#[]⟩, .int .u64 0, .int .u32 0, .int .u32 0, .int .i64 0, .int .i64 0, .bool false, .bool false, .slice none 0 0]
def rwZ (k : Int) (n : ByteArray) : Rw := ⟨rowZ k n, k, n⟩
def livesR : List Rw := [rwZ 1 nmB, rwZ 3 nmR, rwZ 1 nmA]
theorem rwZ_ok (k : Int) (n : ByteArray) (h : n.size ≤ maxLen) : RwOk (rwZ k n) := ⟨rfl, rfl, rfl, fun v hv => by
  simp only [rwZ, rowZ, List.mem_cons, List.not_mem_nil, or_false] at hv
  rcases hv with rfl | rfl | rfl | rfl | rfl | rfl | rfl | rfl | rfl | rfl | rfl | rfl | rfl <;> rfl, h⟩
theorem srt_one (a : ByteArray) : srt [a] = [a] := by cases a; simp [srt]
theorem srt_nil : srt [] = [] := by simp [srt]
theorem srt_ba : srt [nmB, nmA] = [nmA, nmB] := by
  have h : ([nmB, nmA].map (·.data.toList)).mergeSort Go.leB = [[97], [98]] := by
    show ([[98], [97]] : List (List UInt8)).mergeSort Go.leB = _
    rw [Go.mergeSort_of_perm (l' := [[97], [98]]) (List.Perm.swap _ _ _)]
    exact List.mergeSort_of_pairwise (by simp [Go.leB]; decide)
  unfold srt
  rw [h]; rfl
theorem names1 : namesOf 1 livesR = [nmB, nmA] := by decide +kernel
theorem names3 : namesOf 3 livesR = [nmR] := by decide +kernel
theorem names2 : namesOf 2 livesR = [] := by decide +kernel
theorem names4 : namesOf 4 livesR = [] := by decide +kernel
theorem lives_upd : updS [] [] [] [] livesR = some ([⟨nmA, 1⟩, ⟨nmB, 2⟩], [⟨nmR, 3⟩], [], []) := by
  have k1 : keptS [] 1 livesR = [⟨nmA, 0⟩, ⟨nmB, 0⟩] := by unfold keptS; rw [names1, srt_ba]; rfl
  have k3 : keptS [] 3 livesR = [⟨nmR, 0⟩] := by unfold keptS; rw [names3, srt_one]; rfl
  have k2 : keptS [] 2 livesR = [] := by unfold keptS; rw [names2, srt_nil]; rfl
  have k4 : keptS [] 4 livesR = [] := by unfold keptS; rw [names4, srt_nil]; rfl
  unfold updS
  rw [k1, k2, k3, k4]
  rfl
theorem lives_chk : chkE [] [] [⟨⟨#[120]⟩, 0⟩] [] = 190 := by decide +kernel
end Go.Proofs.Ythejehbhjkmeeaa
