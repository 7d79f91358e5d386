/- Parts of the proof, in one text. -/
import Derived.Test.YtpiokeidcnbmbaaPKi
import Derived.Test.YtpiokeidcnbmbaaPKg
import Derived.Test.YtpiokeidcnbmbaaPKd
import Derived.Test.YtpiokeidcnbmbaaIA
import Derived.Test.YtpiokeidcnbmbaaXM
import Derived.Test.YtpiokeidcnbmbaaPKk
namespace Go.Proofs.Ytpiokeidcnbmbaa
open Go.RowKit
set_option maxRecDepth 20000
def livePk : Array Value := #[.int .u64 1, .int .u64 2, .bool false, .int .i64 0, .int .i64 2048, .bool false, .int .i64 0, .int .u64 0, .int .u32 0, .int .u64 0, .int .u32 0, .bool true, .int .i64 0, .int .i64 0, .int .i64 0, .int .i64 9, .int .i64 1, .int .u32 167772161, .int .u32 167772162, .string (strOfNums []), .int .i64 1, .int .i64 8, .int .i64 0, .int .u32 458752, .int .i64 0, .int .i64 0, .bool false, .int .u32 0, .int .u32 0, .int .i64 0, .int .i64 0, .int .i64 0, .string (strOfNums []), .string (strOfNums [112, 105, 110, 103]), .string (strOfNums []), .string (strOfNums [112, 97, 100])]
def liveL : L4R := ⟨1, 8, 0, 458752, 0, 0, false, 0, 0, 0, 0, 0, [], [112, 105, 110, 103]⟩
theorem liveL_fine : liveL.Fine := ⟨by decide, by decide, by decide, fun i => by simp [liveL], fun i => by
  rcases i with _ | _ | _ | _ | i <;> simp [liveL], by decide⟩
theorem liveL_ok : liveL.ok = true := by decide +kernel
/-- The bytes of the IPv4 packet, and of the whole. -/
def liveE : List Int := liveL.enc 167772161 167772162
def liveI : List Int := Ip.ipB 0 0 0 9 1 167772161 167772162 [] 12
def liveB : List Int := Eth.headBytes 1 2 false 0 2048 ++ (liveI ++ liveE) ++ [] ++ [112, 97, 100]
theorem liveL_len : liveL.body.length = 12 := by decide +kernel
theorem live_eq (W : World) : (binOp .eql 34 (.agg livePk) (.agg livePk)).run Try.prog W = .ok (.bool true) W := by kernel_rfl
theorem live_form (w : World) : Calls Try.prog 28 #[.agg livePk] w fun e w' => e = .returned (.bool true) ∧ Below w.heap.size w w' :=
  form_ip livePk rfl 1 2 0 false 0 0 0 9 1 167772161 167772162 [] 1 8 0 458752 0 0 false 0 0 0 0 0 [] [112, 105, 110, 103] (strOfNums [112, 97, 100]) (by kernel_rfl) (by kernel_rfl) (by kernel_rfl) (by kernel_rfl) (by kernel_rfl) 1 true w
    (fun W => live_eq W) (fun W => kindOf_any 0 0 0 9 1 167772161 167772162 [] W)
theorem live_inner (w : World) : Calls Try.prog 30 #[.agg livePk] w fun e w' => ∃ a cap, e = .returned (.tuple #[.slice a 32 cap, .int .i64 0]) ∧ RB w w' (.slice a 32 cap) 32 (liveI ++ liveE) := by
  refine inner_ip livePk (by kernel_rfl) (by kernel_rfl) 0 0 0 9 1 167772161 167772162 [] 1 8 0 458752 0 0 false 0 0 0 0 0 [] [112, 105, 110, 103] (by kernel_rfl) (by kernel_rfl) 32 (liveI ++ liveE) w (fun W => ?_)
  refine printIp_ok 0 0 0 9 1 167772161 167772162 [] 1 8 0 458752 0 0 false 0 0 0 0 0 [] [112, 105, 110, 103] 12 20 liveE liveI (by omega) W (fun V => ?_) (fun V => ?_)
  · have := encode_ok liveL liveL_fine liveL_ok 167772161 167772162 (by omega) (by omega) V
    rw [liveL_len] at this
    exact this
  · exact Ip.encode_yes 0 0 0 9 1 167772161 167772162 [] 12 V (by omega) (by omega) (fun i => by simp) (by decide +kernel)
theorem fits_all {L : List Int} (h : L.all (fun z => decide (0 ≤ z ∧ z ≤ 255)) = true) : ∀ i, 0 ≤ L.getD i 0 ∧ L.getD i 0 ≤ 255 := by
  intro i
  by_cases hi : i < L.length
  · have := (List.all_eq_true.1 h) (L.getD i 0) (by simp [List.getD_eq_getElem?_getD, hi])
    simpa using this
  · simp [List.getD_eq_getElem?_getD, List.getElem?_eq_none (by omega : L.length ≤ i)]
theorem live_fits : ∀ i, 0 ≤ (liveI ++ liveE).getD i 0 ∧ (liveI ++ liveE).getD i 0 ≤ 255 := fits_all (by decide +kernel)
theorem live_print (w : World) : Calls Try.prog 11 #[.agg livePk] w fun e w' => ∃ a cap, e = .returned (.tuple #[.slice a 49 cap, .int .i64 0]) ∧ RB w w' (.slice a 49 cap) 49 liveB := by
  refine print_ok livePk rfl 1 2 0 2048 false (by kernel_rfl) [] [112, 97, 100] (by kernel_rfl) (by kernel_rfl) (fun i => by simp) (fun i => by rcases i with _ | _ | _ | i <;> simp) 14 32 (Eth.headBytes 1 2 false 0 2048) (liveI ++ liveE) live_fits (by decide) w (fun W => live_form W) (fun W => ?_) (fun W => live_inner W)
  have := Eth.encodeHead_plain 1 2 0 2048 W (by omega) (by omega) (by decide +kernel)
  rw [show (Eth.headBytes 1 2 false 0 2048).length = 14 by decide +kernel] at this
  exact this
end Go.Proofs.Ytpiokeidcnbmbaa

namespace Go.Proofs.Ytpiokeidcnbmbaa
open Go.RowKit
set_option maxRecDepth 20000
theorem live_mok : Ip.MOk (liveB.drop 14) ((49 - 14 : Nat) : Int) 20 := by
  constructor <;> decide +kernel
theorem live_dec : (liveB.drop 34).take (46 - 34) = liveE := by decide +kernel
theorem live_parse (w : World) (b off cap : Nat) (h : BS w (some ⟨b, off, none⟩) 49 liveB) (hcap : 49 ≤ cap) (hm : cap ≤ 9223372036854775807) :
    Calls Try.prog 8 #[.slice (some ⟨b, off, none⟩) 49 cap] w fun e w' => e = .returned (.tuple #[.agg livePk, .int .i64 0]) ∧ Below w.heap.size w w' := by
  have := parse_okAA w b off 49 cap 14 34 46 liveB h 20 32 rfl rfl (by omega) (by omega) (by omega) (by omega) hcap (by omega) (by omega) 1 2 0 false 0 0 0 9 1 167772161 167772162 [] (by decide +kernel) 1 8 0 458752 0 0 false 0 0 0 0 0 [] [112, 105, 110, 103] (strOfNums [112, 97, 100]) (by kernel_rfl)
    (fun W hB => ?_) (fun W hB => ?_) (fun W hB => ?_)
  · exact this
  · have := Eth.head_plain W b off 49 cap liveB hB hcap hm (by omega) (by omega) (by decide +kernel)
    rw [show num (liveB.take 6) = 1 by decide +kernel, show num ((liveB.drop 6).take 6) = 2 by decide +kernel, show num ((liveB.drop 12).take 2) = 2048 by decide +kernel] at this
    exact this
  · have := (Ip.decode_any W (some ⟨b, off + 14, none⟩) (49 - 14) (cap - 14) (liveB.drop 14) hB (by omega)).2 20 live_mok
    rw [show (liveB.drop 14).getD 2 0 * 256 + (liveB.drop 14).getD 3 0 = 32 by decide +kernel, show Ip.ipF (liveB.drop 14) 20 = .agg #[.int .i64 0, .int .i64 0, .int .i64 0, .int .i64 9, .int .i64 1, .int .u32 167772161, .int .u32 167772162, .string (strOfNums [])] by kernel_rfl] at this
    exact this
  · have hE : BS W (some ⟨b, off + 34, none⟩) (46 - 34) liveE := by
      rw [← live_dec]
      exact (hB.drop (by omega) 34 (by omega)).take (46 - 34) (by omega)
    have := decode_any 167772161 167772162 1 (by omega) (by omega) (some ⟨b, off + 34, none⟩) (46 - 34) (cap - 34) liveE (by omega) (fun x e => ⟨b, off + 34, by cases e; rfl⟩) (fun e => by cases e) W hE
    have hd : decE 167772161 167772162 1 liveE = 0 ∧ decR 167772161 167772162 1 liveE = liveL := dec_own liveL_fine liveL_ok 167772161 167772162 (by omega) (by omega)
    rw [show kindV 1 = 1 from rfl, hd.1, hd.2] at this
    exact this
end Go.Proofs.Ytpiokeidcnbmbaa

namespace Go.Proofs.Ytpiokeidcnbmbaa
open Go.RowKit
set_option maxRecDepth 20000
theorem echoType_8 (w : World) : Calls Try.prog 56 #[.int .i64 8] w fun e w' => e = .returned (.bool true) ∧ w' = w := by
  go_enter Try.func56, Try.ntmps56
  go_wp2
  go_ret
  exact ⟨rfl, rfl⟩
set_option maxHeartbeats 2000000 in
theorem live_ports (w : World) : Calls Try.prog 27 #[.agg livePk] w fun e w' => e = .returned (.tuple #[.int .i64 7, .int .i64 7]) ∧ Below w.heap.size w w' := by
  obtain ⟨ps, hps⟩ : ∃ p, livePk = p := ⟨_, rfl⟩
  have h11 : ps[11]? = some (.bool true) := by rw [← hps]; kernel_rfl
  have h20 : ps[20]? = some (.int .i64 1) := by rw [← hps]; kernel_rfl
  have h21 : ps[21]? = some (.int .i64 8) := by rw [← hps]; kernel_rfl
  have h23 : ps[23]? = some (.int .u32 458752) := by rw [← hps]; kernel_rfl
  rw [hps]
  clear hps
  go_enter Try.func27, Try.ntmps27
  go_wp2_with (go_at_call 56; refine (echoType_8 _).mono ?_; rintro e w' ⟨rfl, rfl⟩)
  go_ret2
  exact ⟨rfl, below1 w _⟩
theorem live_echo (w : World) : Calls Try.prog 15 #[.agg livePk] w fun e w' => e = .returned (.tuple #[.agg (echoQ livePk 1 2 167772161 167772162), .bool true]) ∧ Below w.heap.size w w' :=
  echo_3 livePk rfl (by kernel_rfl) 0 0 0 9 1 167772161 167772162 [] 1 8 0 458752 0 0 false 0 0 0 0 0 [] [112, 105, 110, 103] (by kernel_rfl) (by kernel_rfl) 1 2 (by kernel_rfl) (by decide +kernel) (by decide +kernel) (by kernel_rfl) (by kernel_rfl) (by kernel_rfl) (by kernel_rfl) (by kernel_rfl) (by kernel_rfl) w
end Go.Proofs.Ytpiokeidcnbmbaa

namespace Go.Proofs.Ytpiokeidcnbmbaa
open Go.RowKit
set_option maxRecDepth 20000
theorem livePk_size : livePk.size = 36 := rfl
theorem livePk_one : livePk.all (·.oneCell') = true := by kernel_rfl
theorem liveB_fits : ∀ i, 0 ≤ liveB.getD i 0 ∧ liveB.getD i 0 ≤ 255 := fits_all (by decide +kernel)
set_option maxHeartbeats 4000000 in
theorem lives_any (w : World) : Calls Try.prog 10 #[] w fun e w' => e = .returned (.bool true) ∧ Below w.heap.size w w' := by
  have Zq : Hid ((echoQ livePk 1 2 167772161 167772162).size = 36) := echoQ_size livePk_size _ _ _ _
  have Oq : Hid ((echoQ livePk 1 2 167772161 167772162).all (·.oneCell') = true) := echoQ_one livePk_one _ _ _ _
  go_enter Try.func10, Try.ntmps10
  go_wp2_with (first
    | refine Ca.wpList_build_as rfl 34 _ rfl livePk (by rw [List.map_toArray]; kernel_rfl) ?_
    | refine Ca.wpList_store_new rfl 34 _ _ rfl zeroPk livePk _ rfl rfl rfl (info36 livePk_size) rfl livePk_one ?_
    | refine wpList_load_row rfl 34 _ rfl (w.heap.size) rfl 34 livePk (0, 0) _ (heap_alloc_new w _) Try.underlying34 rfl (info36 livePk_size) ?_
    | fail)
  refine (live_print _).mono ?_
  rintro e W1 ⟨a, cap, rfl, r1⟩
  have hb := r1.bel
  have hcc := own_caps r1.own
  obtain ⟨g, rfl, hg1, hg2⟩ := own_some r1.own (by omega)
  have H1 : Hid (BS W1 (some ⟨g, 0, none⟩) 49 liveB) := own_bs r1.own liveB_fits (by omega)
  have B_1 : Hid (Below w.heap.size w W1) := (below1 w _).trans (hb.mono (by simp))
  have R1_1 : Hid (W1.heap[w.heap.size]? = some (.cells livePk 34 (0, 0))) := (hb.block _ (Ca.lt_of_heap (heap_alloc_new w _))).trans (heap_alloc_new w _)
  clear hb r1 hg1 hg2
  go_wp2_with fail
  refine (live_parse _ g 0 cap H1.out hcc.1 hcc.2).mono ?_
  rintro e W2 ⟨rfl, hb⟩
  have B_2 : Hid (Below w.heap.size w W2) := B_1.out.trans (hb.mono B_1.out.size)
  have R1_2 : Hid (W2.heap[w.heap.size]? = some (.cells livePk 34 (0, 0))) := (hb.block _ (Ca.lt_of_heap R1_1.out)).trans R1_1.out
  have hlt2 : Hid (w.heap.size < W2.heap.size) := Ca.lt_of_heap R1_2.out
  have R1_3 : Hid ((W2.alloc (.cells livePk 34)).heap[w.heap.size]? = some (.cells livePk 34 (0, 0))) := (heap_alloc_old _ _ hlt2.out).trans R1_2.out
  clear hb B_1 R1_1 H1
  go_wp2_with (first
    | refine Ca.wpList_store_new rfl 34 _ _ rfl zeroPk livePk _ rfl rfl rfl (info36 livePk_size) rfl livePk_one ?_
    | refine wpList_load_row rfl 34 _ rfl (w.heap.size) rfl 34 livePk (0, 0) _ R1_3.out Try.underlying34 rfl (info36 livePk_size) ?_
    | fail)
  have B_3 : Hid (Below w.heap.size w (W2.alloc (.cells livePk 34))) := B_2.out.alloc B_2.out.size _
  have R4_3 : Hid ((W2.alloc (.cells livePk 34)).heap[W2.heap.size]? = some (.cells livePk 34 (0, 0))) := heap_alloc_new W2 _
  obtain ⟨W3, hW⟩ : ∃ V, W2.alloc (.cells livePk 34) = V := ⟨_, rfl⟩
  obtain ⟨g4, hg⟩ : ∃ g, W2.heap.size = g := ⟨_, rfl⟩
  rw [hW] at R1_3 B_3 R4_3 ⊢
  rw [hg] at R4_3 hlt2 ⊢
  clear hW hg B_2 R1_2
  refine (live_echo _).mono ?_
  rintro e W4 ⟨rfl, hb⟩
  have B_4 : Hid (Below w.heap.size w W4) := B_3.out.trans (hb.mono B_3.out.size)
  have R1_4 : Hid (W4.heap[w.heap.size]? = some (.cells livePk 34 (0, 0))) := (hb.block _ (Ca.lt_of_heap R1_3.out)).trans R1_3.out
  have R4_4 : Hid (W4.heap[g4]? = some (.cells livePk 34 (0, 0))) := (hb.block _ (Ca.lt_of_heap R4_3.out)).trans R4_3.out
  have R1_5 : Hid ((W4.alloc (.cells (echoQ livePk 1 2 167772161 167772162) 34)).heap[w.heap.size]? = some (.cells livePk 34 (0, 0))) := (heap_alloc_old _ _ (Ca.lt_of_heap R1_4.out)).trans R1_4.out
  have R4_5 : Hid ((W4.alloc (.cells (echoQ livePk 1 2 167772161 167772162) 34)).heap[g4]? = some (.cells livePk 34 (0, 0))) := (heap_alloc_old _ _ (Ca.lt_of_heap R4_4.out)).trans R4_4.out
  clear hb B_3 R1_3 R4_3
  go_wp2_with (first
    | refine Ca.wpList_store_new rfl 34 _ _ rfl zeroPk (echoQ livePk 1 2 167772161 167772162) _ rfl rfl rfl (info36 Zq.out) (Eq.trans (b := 36) rfl Zq.out.symm) Oq.out ?_
    | refine wpList_load_row rfl 34 _ rfl (w.heap.size) rfl 34 livePk (0, 0) _ R1_5.out Try.underlying34 rfl (info36 livePk_size) ?_
    | fail)
  have B_5 : Hid (Below w.heap.size w (W4.alloc (.cells (echoQ livePk 1 2 167772161 167772162) 34))) := B_4.out.alloc B_4.out.size _
  have R6_5 : Hid ((W4.alloc (.cells (echoQ livePk 1 2 167772161 167772162) 34)).heap[W4.heap.size]? = some (.cells (echoQ livePk 1 2 167772161 167772162) 34 (0, 0))) := heap_alloc_new W4 _
  obtain ⟨W5, hW⟩ : ∃ V, W4.alloc (.cells (echoQ livePk 1 2 167772161 167772162) 34) = V := ⟨_, rfl⟩
  obtain ⟨g6, hg⟩ : ∃ g, W4.heap.size = g := ⟨_, rfl⟩
  rw [hW] at R1_5 R4_5 B_5 R6_5 ⊢
  rw [hg] at R6_5 ⊢
  clear hW hg B_4 R1_4 R4_4
  refine (live_ports _).mono ?_
  rintro e W6 ⟨rfl, hb⟩
  have B_6 : Hid (Below w.heap.size w W6) := B_5.out.trans (hb.mono B_5.out.size)
  have R1_6 : Hid (W6.heap[w.heap.size]? = some (.cells livePk 34 (0, 0))) := (hb.block _ (Ca.lt_of_heap R1_5.out)).trans R1_5.out
  have R4_6 : Hid (W6.heap[g4]? = some (.cells livePk 34 (0, 0))) := (hb.block _ (Ca.lt_of_heap R4_5.out)).trans R4_5.out
  have R6_6 : Hid (W6.heap[g6]? = some (.cells (echoQ livePk 1 2 167772161 167772162) 34 (0, 0))) := (hb.block _ (Ca.lt_of_heap R6_5.out)).trans R6_5.out
  clear hb B_5 R1_5 R4_5 R6_5
  have c21 := (Ca.cell_row R6_6.out 21).trans (show _ = some (Value.int .i64 0) by kernel_rfl)
  have c18 := (Ca.cell_row R6_6.out 18).trans (show _ = some (Value.int .u32 167772161) by kernel_rfl)
  have hq := live_eq
  go_wp2_with (first
    | refine Ca.wpList_load_want (by rfl) 34 _ rfl (w.heap.size) rfl 34 livePk (0, 0) _ R1_6.out Try.underlying34 rfl (info36 livePk_size) ?_
    | refine Ca.wpList_load_want (by rfl) 34 _ rfl g4 rfl 34 livePk (0, 0) _ R4_6.out Try.underlying34 rfl (info36 livePk_size) ?_
    | fail)
  go_ret
  exact ⟨rfl, B_6.out⟩
end Go.Proofs.Ytpiokeidcnbmbaa
