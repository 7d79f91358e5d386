/- What Hash of package sum answers: the bytes of a flow, folded. No condition. -/
import Derived.Test.YtikbjckcnidimaaGreatDoorAD
import Derived.Laws.EntriesVeiled
import Derived.Laws.BitsAllLaws
namespace Go.Proofs.YtikbjckcnidimaaGreatDoor
open Go.RowKit

def mx (h b : Int) : Int := bits .xor .u32 h b * 16777619 % 4294967296
theorem mx_bd (h b : Int) : 0 ≤ mx h b ∧ mx h b ≤ 4294967295 := by unfold mx; omega

structure HS (w0 W : World) (h : Int) : Prop where
  bel : Below w0.heap.size w0 W
  c0 : W.cell? ⟨w0.heap.size, 0, none⟩ = some (.int .u32 h)
  f0 : W.frozen? ⟨w0.heap.size, 0, none⟩ = false
  c1 : W.cell? ⟨w0.heap.size + 1, 0, none⟩ = some (.func (.func 207) #[] #[.pointer (some ⟨w0.heap.size, 0, none⟩)])
  c2 : W.cell? ⟨w0.heap.size + 1 + 1, 0, none⟩ = some (.func (.func 208) #[] #[.pointer (some ⟨w0.heap.size + 1, 0, none⟩)])
  fits : 0 ≤ h ∧ h ≤ 4294967295

theorem mix_any (w0 W : World) (h b : Int) (hb : 0 ≤ b ∧ b ≤ 255) (hs : HS w0 W h) :
    Calls Tryz.prog 207 #[.int .u8 b, .pointer (some ⟨w0.heap.size, 0, none⟩)] W fun e w' => e = .returned (.tuple #[]) ∧ HS w0 w' (mx h b) := by
  obtain ⟨h0, h1, h2, h3, h4, h5⟩ := hs
  have hx : Hid _ := mx_bd h b
  have H3 : Hid _ := h3
  have H4 : Hid _ := h4
  clear h3 h4
  go_enter Tryz.func207, Tryz.ntmps207
  go_wp2
  go_end0
  refine ⟨rfl, h0.setCell (Nat.le_refl _) _, World.cell?_setCell_same _ _ _ h1, by simpa using h2, ?_, ?_, hx.out⟩
  · exact (World.cell?_setCell_other _ _ _ _ (by simp)).trans H3.out
  · exact (World.cell?_setCell_other _ _ _ _ (by simp)).trans H4.out

theorem mixWord_any (w0 W : World) (h v : Int) (hs : HS w0 W h) :
    Calls Tryz.prog 208 #[.int .i64 v, .pointer (some ⟨w0.heap.size + 1, 0, none⟩)] W fun e w' => e = .returned (.tuple #[]) ∧ HS w0 w' (mx (mx h (v / 256 % 256)) (v % 256)) := by
  have H : Hid (HS w0 W h) := hs
  have c1 := hs.c1
  clear hs
  go_enter Tryz.func208, Tryz.ntmps208
  go_wp2_with fail
  refine (mix_any w0 W h (v / 256 % 256) (by omega) H.out).mono ?_
  rintro e W1 ⟨rfl, hs1⟩
  have H1 : Hid _ := hs1
  have c1' := hs1.c1
  clear hs1 c1 H
  go_wp2_with fail
  refine (mix_any w0 W1 _ (v % 256) (by omega) H1.out).mono ?_
  rintro e W2 ⟨rfl, hs2⟩
  have H2 : Hid _ := hs2
  clear hs2 H1
  go_wp2
  go_end0
  exact ⟨rfl, H2.out⟩

theorem mixAddr_any (w0 W : World) (h v : Int) (hv : 0 ≤ v ∧ v ≤ 4294967295) (hs : HS w0 W h) :
    Calls Tryz.prog 209 #[.int .u32 v, .pointer (some ⟨w0.heap.size + 1 + 1, 0, none⟩)] W fun e w' => e = .returned (.tuple #[]) ∧ HS w0 w' (mx (mx (mx (mx h (v / 16777216)) (v / 65536 % 256)) (v / 256 % 256)) (v % 256)) := by
  have H : Hid (HS w0 W h) := hs
  have c1 := hs.c2
  have ha : bits .and .u32 v 65535 = v % 65536 := by
    rw [u32_and v 65535 hv.1 (by omega) (by omega) (by omega), show (65535 : Int).toNat = 65535 from rfl, nat_mask16]; omega
  clear hs
  go_enter Tryz.func209, Tryz.ntmps209
  go_wp2_with fail
  refine (mixWord_any w0 W h (v / 65536) H.out).mono ?_
  rintro e W1 ⟨rfl, hs1⟩
  rw [show v / 65536 / 256 % 256 = v / 16777216 from by omega] at hs1
  have H1 : Hid _ := hs1
  have c1' := hs1.c2
  clear hs1 c1 H
  go_wp2_with fail
  refine (mixWord_any w0 W1 _ (v % 65536) H1.out).mono ?_
  rintro e W2 ⟨rfl, hs2⟩
  rw [show v % 65536 / 256 % 256 = v / 256 % 256 from by omega, show v % 65536 % 256 = v % 256 from by omega] at hs2
  have H2 : Hid _ := hs2
  clear hs2 H1
  go_wp2
  go_end0
  exact ⟨rfl, H2.out⟩

def hashOf (src dst proto sport dport : Int) : Int :=
  [src / 16777216, src / 65536 % 256, src / 256 % 256, src % 256, dst / 16777216, dst / 65536 % 256, dst / 256 % 256, dst % 256, proto % 256, sport / 256 % 256, sport % 256, dport / 256 % 256, dport % 256].foldl mx 2166136261

set_option maxHeartbeats 1000000 in
theorem hash_any (w : World) (src dst proto sport dport : Int) (h1 : 0 ≤ src ∧ src ≤ 4294967295) (h2 : 0 ≤ dst ∧ dst ≤ 4294967295) :
    Calls Tryz.prog 146 #[.int .u32 src, .int .u32 dst, .int .i64 proto, .int .i64 sport, .int .i64 dport] w fun e w' => e = .returned (.int .u32 (hashOf src dst proto sport dport)) ∧ Below w.heap.size w w' := by
  go_enter Tryz.func146, Tryz.ntmps146
  go_wp2_with fail
  have hs0 : HS w (((w.alloc (Obj.cells #[Value.int IntKind.u32 2166136261] 25)).alloc
          (Obj.cells #[Value.func (Fn.func 207) #[] #[Value.pointer (some ⟨w.heap.size, 0, none⟩)]]
            179)).alloc
      (Obj.cells #[Value.func (Fn.func 208) #[] #[Value.pointer (some ⟨w.heap.size + 1, 0, none⟩)]] 180)) 2166136261 := by
    refine ⟨(((Below.refl _ _).alloc (Nat.le_refl _) _).alloc (by simp) _).alloc (by simp; omega) _, ?_, ?_, ?_, ?_, by omega⟩
    · simp [go_sem]
    · simp [go_sem]
    · simp [go_sem]
    · simp [go_sem]
  refine (mixAddr_any w _ _ src h1 hs0).mono ?_
  clear hs0
  rintro e W1 ⟨rfl, hs1⟩
  have H1 : Hid _ := hs1
  clear hs1
  go_wp2_with fail
  refine (mixAddr_any w _ _ dst h2 H1.out).mono ?_
  rintro e W2 ⟨rfl, hs2⟩
  have H2 : Hid _ := hs2
  have c1 := hs2.c1
  clear hs2 H1
  go_wp2_with fail
  refine (mix_any w _ _ (proto % 256) (by omega) H2.out).mono ?_
  rintro e W3 ⟨rfl, hs3⟩
  have H3 : Hid _ := hs3
  have c3 := hs3.c2
  clear hs3 H2 c1
  go_wp2_with fail
  refine (mixWord_any w _ _ sport H3.out).mono ?_
  rintro e W4 ⟨rfl, hs4⟩
  have H4 : Hid _ := hs4
  have c4 := hs4.c2
  clear hs4 H3 c3
  go_wp2_with fail
  refine (mixWord_any w _ _ dport H4.out).mono ?_
  rintro e W5 ⟨rfl, hs5⟩
  have H5 : Hid _ := hs5
  have c5 := hs5.c0
  clear hs5 H4 c4
  go_wp2
  go_ret
  exact ⟨rfl, H5.out.bel⟩
end Go.Proofs.YtikbjckcnidimaaGreatDoor
