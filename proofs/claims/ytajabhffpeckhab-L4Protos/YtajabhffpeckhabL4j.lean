/- What Decode of package l4 answers on a UDP packet that is right. Condition: more than 8 bytes. -/
import Derived.Test.YtajabhffpeckhabL4i
namespace Go.Proofs.Ytajabhffpeckhab
open Go.RowKit

theorem below5d (w : World) (q : Nat) (o a b c d : Obj) : Below w.heap.size w ((((((w.drewN q).alloc o).alloc a).alloc b).alloc c).alloc d) := by
  have hd : Below w.heap.size w (w.drewN q) := below_drewN (Below.refl _ _) _
  have h1 := hd.trans (below1 (w.drewN q) o)
  have h2 := h1.trans ((below4 ((w.drewN q).alloc o) a b c d).mono h1.size)
  exact h2

set_option maxHeartbeats 1000000 in
theorem decode_udp (src dst : Int) (hs : 0 ≤ src ∧ src ≤ 4294967295) (ht : 0 ≤ dst ∧ dst ≤ 4294967295) (w : World) (b off n cap : Nat) (zs : List Int) (h : BS w (some ⟨b, off, none⟩) n zs) (hcap : n ≤ cap) (h8 : 8 < n) (he : zs.getD 4 0 * 256 + zs.getD 5 0 = n) (hne : zs.getD 6 0 * 256 + zs.getD 7 0 ≠ 0) (hv : sumV src dst 2 zs = 65535) :
    Calls Try.prog 13 #[.int .u32 src, .int .u32 dst, .int .i64 17, .slice (some ⟨b, off, none⟩) n cap] w fun e w' => e = .returned (.tuple #[.agg #[.int .i64 2, .int .i64 0, .int .i64 0, .int .u32 0, .int .i64 (num ((zs.drop 0).take 2)), .int .i64 (num ((zs.drop 2).take 2)), .bool (num ((zs.drop 6).take 2) == 0), .int .u32 0, .int .u32 0, .int .i64 0, .int .i64 0, .int .i64 0, .string ⟨#[]⟩, .string (strOfNums (zs.drop 8))], .int .i64 0]) ∧ Below w.heap.size w w' := by
  have hk : kindV 17 = 2 := by decide
  have hb : (sumV src dst 2 zs == 65535) = true := by simp [hv]
  clear hv
  have H : Hid (BS (w.alloc (.cells #[.int .i64 0, .int .i64 0, .int .i64 0, .int .u32 0, .int .i64 0, .int .i64 0, .bool false, .int .u32 0, .int .u32 0, .int .i64 0, .int .i64 0, .int .i64 0, .string ⟨#[]⟩, .string ⟨#[]⟩] 24)) (some ⟨b, off, none⟩) n zs) := h.below (below1 w _)
  clear h
  go_enter Try.func13, Try.ntmps13
  go_wp2_with fail
  refine scope_from ?_
  go_wp2_with (first
    | (go_at_call 29; refine (kind_any _ _).mono ?_; rintro e w' ⟨rfl, rfl⟩; rw [hk])
    | (go_at_call 30; refine (measure_udp_ok _ b off n cap zs H.out hcap (by omega) he).mono ?_; rintro e w' ⟨rfl, rfl⟩)
    | (go_at_call 31; refine (right_udp src dst hs ht _ b off n cap zs H.out hcap (by omega) hne).mono ?_; rintro e w' ⟨rfl, nq, rfl⟩; rw [hb, show ((w.alloc (.cells #[.int .i64 0, .int .i64 0, .int .i64 0, .int .u32 0, .int .i64 0, .int .i64 0, .bool false, .int .u32 0, .int .u32 0, .int .i64 0, .int .i64 0, .int .i64 0, .string ⟨#[]⟩, .string ⟨#[]⟩] 24)).drewN nq) = (w.drewN nq).alloc (.cells #[.int .i64 0, .int .i64 0, .int .i64 0, .int .u32 0, .int .i64 0, .int .i64 0, .bool false, .int .u32 0, .int .u32 0, .int .i64 0, .int .i64 0, .int .i64 0, .string ⟨#[]⟩, .string ⟨#[]⟩] 24) from rfl])
    | (go_at_call 32; refine (read_udp _ b off n cap zs (H.out.drewN _) hcap h8).mono ?_; rintro e w1 ⟨rfl, A, B, C, D, rfl⟩)
    | fail)
  simp only [Exit.jumpTo]
  refine bodyPost_ret (v := .tuple #[.agg #[.int .i64 2, .int .i64 0, .int .i64 0, .int .u32 0, .int .i64 (num ((zs.drop 0).take 2)), .int .i64 (num ((zs.drop 2).take 2)), .bool (num ((zs.drop 6).take 2) == 0), .int .u32 0, .int .u32 0, .int .i64 0, .int .i64 0, .int .i64 0, .string ⟨#[]⟩, .string (strOfNums (zs.drop 8))], .int .i64 0]) ?_ rfl ⟨rfl, ?_⟩
  · simp [results, Try.results13, go_sem]
  · refine Below.alloc (Below.alloc (Below.alloc (Below.alloc ?_ ?_ _) ?_ _) ?_ _) ?_ _
    iterate 14 refine Below.setCell ?_ (show w.heap.size ≤ w.heap.size from Nat.le_refl _) _
    exact below_drewN (below1 w _) _
    all_goals (simp; try omega)
end Go.Proofs.Ytajabhffpeckhab
