/- The reference's Decode of dhcp, of any bytes. Conditions: they can be read, and are not too many. -/
import Derived.Test.YtglaheblbomhpaaRJa
import Derived.Test.YtglaheblbomhpaaRJb
namespace Go.Proofs.Ytglaheblbomhpaa
open Go.RowKit
theorem beq_bytes (l : List Int) (cs : List UInt8) : ((strOfNums l).toList == (⟨cs.toArray⟩ : ByteArray).toList) = (l.map (fun z => UInt8.ofNat z.toNat) == cs) := by
  rw [ByteArray.toList_eq, ByteArray.toList_eq, strOfNums_data]
theorem u8_lit {a : Int} {c : Nat} (ha : 0 ≤ a ∧ a ≤ 255) (hc : c ≤ 255) : (UInt8.ofNat a.toNat = UInt8.ofNat c) ↔ a = c := by
  constructor
  · intro h
    exact u8_inj ha (b := (c : Int)) (by omega) (by simpa using h)
  · rintro rfl; simp
theorem take3 {zs : List Int} (h : 240 ≤ zs.length) : (zs.drop 1).take 3 = [zs.getD 1 0, zs.getD 2 0, zs.getD 3 0] := by
  rw [drop_get (by omega), drop_get (by omega), drop_get (by omega)]; rfl
theorem take4 {zs : List Int} (h : 240 ≤ zs.length) : (zs.drop 236).take 4 = [zs.getD 236 0, zs.getD 237 0, zs.getD 238 0, zs.getD 239 0] := by
  rw [drop_get (by omega), drop_get (by omega), drop_get (by omega), drop_get (by omega)]; rfl
/-- The first test, field by field. -/
theorem msg_iff {zs : List Int} (hf : ∀ i, 0 ≤ zs.getD i 0 ∧ zs.getD i 0 ≤ 255) (h : 240 ≤ zs.length) :
    isMsgB zs = true ↔ (zs.getD 0 0 = 1 ∨ zs.getD 0 0 = 2) ∧ zs.getD 1 0 = 1 ∧ zs.getD 2 0 = 6 ∧ zs.getD 3 0 = 0 ∧ num ((zs.drop 236).take 4) = 1669485411 := by
  have e1 : ((strOfNums ((zs.drop 1).take 3)).toList == (⟨#[1, 6, 0]⟩ : ByteArray).toList) = true ↔ zs.getD 1 0 = 1 ∧ zs.getD 2 0 = 6 ∧ zs.getD 3 0 = 0 := by
    rw [beq_bytes, take3 h]
    simp only [List.map_cons, List.map_nil, beq_iff_eq, List.cons.injEq, and_true]
    rw [show (1 : UInt8) = UInt8.ofNat 1 from rfl, show (6 : UInt8) = UInt8.ofNat 6 from rfl, show (0 : UInt8) = UInt8.ofNat 0 from rfl]
    rw [u8_lit (hf 1) (by omega), u8_lit (hf 2) (by omega), u8_lit (hf 3) (by omega)]
    simp
  have e2 : ((strOfNums ((zs.drop 236).take 4)).toList == (⟨#[99, 130, 83, 99]⟩ : ByteArray).toList) = true ↔ num ((zs.drop 236).take 4) = 1669485411 := by
    rw [beq_bytes, take4 h]
    simp only [List.map_cons, List.map_nil, beq_iff_eq, List.cons.injEq, and_true]
    rw [show (99 : UInt8) = UInt8.ofNat 99 from rfl, show (130 : UInt8) = UInt8.ofNat 130 from rfl, show (83 : UInt8) = UInt8.ofNat 83 from rfl]
    rw [u8_lit (hf 236) (by omega), u8_lit (hf 237) (by omega), u8_lit (hf 238) (by omega), u8_lit (hf 239) (by omega)]
    have h1 := hf 236
    have h2 := hf 237
    have h3 := hf 238
    have h4 := hf 239
    simp only [num, List.foldl_cons, List.foldl_nil]
    omega
  unfold isMsgB
  rw [Bool.and_eq_true, Bool.and_eq_true, Bool.and_eq_true, e1, e2]
  simp only [decide_eq_true_eq, Bool.or_eq_true, beq_iff_eq]
  constructor
  · rintro ⟨_, h1, ⟨h2, h3, h4⟩, h5⟩; exact ⟨h1, h2, h3, h4, h5⟩
  · rintro ⟨h1, h2, h3, h4, h5⟩; exact ⟨h, h1, ⟨h2, h3, h4⟩, h5⟩
theorem msg_long {zs : List Int} (h : isMsgB zs = true) : 240 ≤ zs.length := by
  unfold isMsgB at h
  simp only [Bool.and_eq_true, decide_eq_true_eq] at h
  exact h.1
set_option maxHeartbeats 1000000 in
set_option maxRecDepth 20000 in
theorem rdecode_few (w : World) (a : Option Addr) (n cap : Nat) (hn : n < 240) :
    Calls Try.prog 8 #[.slice a n cap] w fun e w' => e = .returned (.tuple #[.agg zeroArr, .int .i64 60]) ∧ Below w.heap.size w w' := by
  have hB := below1 w (.cells #[.int .i64 0, .int .u32 0, .int .i64 0, .int .i64 0, .int .u32 0, .int .u32 0, .int .u32 0, .int .u32 0, .int .u64 0, .slice none 0 0] 27)
  have HB1 : Hid _ := hB
  have n0 : (n : Int) < 240 := by omega
  clear hB
  unfold zeroArr
  go_enter Try.func8, Try.ntmps8
  go_wp2
  refine bodyPost_ret (v := .tuple #[.agg #[.int .i64 0, .int .u32 0, .int .i64 0, .int .i64 0, .int .u32 0, .int .u32 0, .int .u32 0, .int .u32 0, .int .u64 0, .slice none 0 0], .int .i64 60]) ?_ rfl ⟨rfl, ?_⟩
  · simp [results, Try.results8, go_sem, *]
  · show Below _ _ _
    first | exact HB1.out | (repeat (first | exact HB1.out | refine Below.setCell ?_ (by simp) _ | refine Below.alloc ?_ (by simp) _))
/-- What is no message. -/
theorem rdecode_no (w : World) (a : Option Addr) (n cap : Nat) (zs : List Int) (h : BS w a n zs) (hcap : n ≤ cap) (hm : isMsgB zs = false) :
    Calls Try.prog 8 #[.slice a n cap] w fun e w' => e = .returned (.tuple #[.agg zeroArr, .int .i64 60]) ∧ Below w.heap.size w w' := by
  by_cases hn : n < 240
  · exact rdecode_few w a n cap hn
  · have hl := h.len
    have hi := msg_iff h.fits (by omega)
    rw [hm] at hi
    obtain ⟨b, off, rfl⟩ : ∃ b off, a = some ⟨b, off, none⟩ := by
      rcases h.cells with h0 | ⟨b, off, e, _⟩
      · omega
      · exact ⟨b, off, e⟩
    by_cases c0 : zs.getD 0 0 = 1 ∨ zs.getD 0 0 = 2
    · by_cases c1 : zs.getD 1 0 = 1
      · by_cases c2 : zs.getD 2 0 = 6
        · by_cases c3 : zs.getD 3 0 = 0
          · exact rdecode_ck w b off n cap zs h hcap (by omega) c0 c1 c2 c3 (fun ck => by simpa using hi.2 ⟨c0, c1, c2, c3, ck⟩)
          · exact rdecode_b3 w b off n cap zs h hcap (by omega) c0 c1 c2 c3
        · exact rdecode_b2 w b off n cap zs h hcap (by omega) c0 c1 c2
      · exact rdecode_b1 w b off n cap zs h hcap (by omega) c0 c1
    · exact rdecode_op w b off n cap zs h hcap (by omega) (by simpa using fun e => c0 (.inl e)) (by simpa using fun e => c0 (.inr e))
theorem rdecode_msg (w : World) (b off n cap : Nat) (zs : List Int) (h : BS w (some ⟨b, off, none⟩) n zs) (hcap : n ≤ cap) (hm : isMsgB zs = true) (hfew : n ≤ 2000000) :
    Calls Try.prog 8 #[.slice (some ⟨b, off, none⟩) n cap] w fun e w' => RDPost w zs e w' := by
  have hl := h.len
  have h240 := msg_long hm
  obtain ⟨c0, c1, c2, c3, ck⟩ := (msg_iff h.fits h240).1 hm
  rcases c0 with c0 | c0
  · exact rdecode_main1 w b off n cap zs h hcap (by omega) hfew c0 c1 c2 c3 ck
  · exact rdecode_main2 w b off n cap zs h hcap (by omega) hfew c0 c1 c2 c3 ck
end Go.Proofs.Ytglaheblbomhpaa
