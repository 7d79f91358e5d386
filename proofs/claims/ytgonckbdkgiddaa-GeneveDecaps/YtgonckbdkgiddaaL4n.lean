/- What Encode of package l4 answers, of every packet. Conditions: numbers of their kinds, texts of at most 2^47 bytes. -/
import Derived.Test.YtgonckbdkgiddaaL4w
import Derived.Test.YtgonckbdkgiddaaL4p
import Derived.Test.YtgonckbdkgiddaaL4s1
import Derived.Test.YtgonckbdkgiddaaL4s2
import Derived.Test.YtgonckbdkgiddaaL4s3
namespace Go.Proofs.Ytgonckbdkgiddaa
open Go.RowKit Go.Lib

/-- Numbers of their kinds, and texts of bytes. -/
structure L4R.Fine (x : L4R) : Prop where
  re : 0 ≤ x.re ∧ x.re ≤ 4294967295
  sq : 0 ≤ x.sq ∧ x.sq ≤ 4294967295
  ak : 0 ≤ x.ak ∧ x.ak ≤ 4294967295
  os : ∀ i, 0 ≤ x.os.getD i 0 ∧ x.os.getD i 0 ≤ 255
  ds : ∀ i, 0 ≤ x.ds.getD i 0 ∧ x.ds.getD i 0 ≤ 255
  room : x.ds.length ≤ 140737488355328
def L4R.ok (x : L4R) : Bool := l4Ok x.k x.ty x.co x.re x.sp x.dp x.ns x.sq x.ak x.fl x.wi x.ur (strOfNums x.os) (strOfNums x.ds)
def L4R.head (x : L4R) : List Int := headL x.k x.ty x.co x.re x.sp x.dp x.sq x.ak x.fl x.wi x.ur x.os.length x.ds.length
def L4R.body (x : L4R) : List Int := x.head ++ x.os ++ x.ds
def L4R.enc (x : L4R) (src dst : Int) : List Int := if x.k = 0 ∨ x.ns = true then x.body else setC src dst x.k x.body

theorem str_nil {os : List Int} (h : ((strOfNums os).toList == (⟨#[]⟩ : ByteArray).toList) = true) : os = [] := by
  rw [beq_iff_eq, ByteArray.toList_eq, ByteArray.toList_eq] at h
  have := congrArg List.length h
  simpa [strOfNums] using this

/-- What a packet that may be is like. -/
structure L4R.Ok (x : L4R) : Prop where
  kind : (x.k = 0 ∧ x.ty = 0 ∧ x.co = 0 ∧ x.re = 0 ∧ x.sp = 0 ∧ x.dp = 0 ∧ x.ns = false ∧ x.sq = 0 ∧ x.ak = 0 ∧ x.fl = 0 ∧ x.wi = 0 ∧ x.ur = 0 ∧ x.os = [])
    ∨ (x.k = 1 ∧ x.sp = 0 ∧ x.dp = 0 ∧ x.ns = false ∧ x.sq = 0 ∧ x.ak = 0 ∧ x.fl = 0 ∧ x.wi = 0 ∧ x.ur = 0 ∧ x.os = [])
    ∨ (x.k = 2 ∧ x.ty = 0 ∧ x.co = 0 ∧ x.re = 0 ∧ x.sq = 0 ∧ x.ak = 0 ∧ x.fl = 0 ∧ x.wi = 0 ∧ x.ur = 0 ∧ x.os = [])
    ∨ (x.k = 3 ∧ x.ty = 0 ∧ x.co = 0 ∧ x.re = 0 ∧ x.ns = false)
  ty : 0 ≤ x.ty ∧ x.ty ≤ 255
  co : 0 ≤ x.co ∧ x.co ≤ 255
  fl : 0 ≤ x.fl ∧ x.fl ≤ 4095
  sp : 0 ≤ x.sp ∧ x.sp ≤ 65535
  dp : 0 ≤ x.dp ∧ x.dp ≤ 65535
  wi : 0 ≤ x.wi ∧ x.wi ≤ 65535
  ur : 0 ≤ x.ur ∧ x.ur ≤ 65535
  opts : x.os.length ≤ 40
  four : x.os.length % 4 = 0
  all : fixV x.k + x.os.length + x.ds.length ≤ 65515

theorem L4R.okOf {x : L4R} (h : x.ok = true) : x.Ok := by
  unfold L4R.ok l4Ok at h
  rw [strOfNums_size, strOfNums_size] at h
  simp only [Bool.and_eq_true, Bool.not_eq_true', Bool.or_eq_false_iff, decide_eq_false_iff_not] at h
  obtain ⟨⟨h1, h2⟩, ⟨h3, h4⟩, h5⟩ := h
  have hm : (x.os.length : Int) % 4 = 0 := by simpa using h4
  unfold numsOk fitN fit8 fit12 fit16 at h2
  simp at h2
  obtain ⟨a1, a2, a3, a4, a5, a6, a7⟩ := h2
  refine ⟨?_, a1, a2, a3, a4, a5, a6, a7, by omega, by omega, by omega⟩
  unfold ownOk at h1
  split at h1
  · rename_i hk
    simp only [Bool.and_eq_true] at h1
    obtain ⟨⟨⟨⟨⟨⟨⟨⟨⟨⟨⟨b1, b2⟩, b3⟩, b4⟩, b5⟩, b6⟩, b7⟩, b8⟩, b9⟩, b10⟩, b11⟩, b12⟩ := h1
    simp only [beq_iff_eq] at b1 b2 b3 b4 b5 b6 b7 b8 b9 b10 b11
    exact .inl ⟨hk, b1, b2, b3, b4, b5, b6, b7, b8, b9, b10, b11, str_nil b12⟩
  split at h1
  · rename_i hk
    simp only [Bool.and_eq_true] at h1
    obtain ⟨⟨⟨⟨⟨⟨⟨⟨b1, b2⟩, b3⟩, b4⟩, b5⟩, b6⟩, b7⟩, b8⟩, b12⟩ := h1
    simp only [beq_iff_eq] at b1 b2 b3 b4 b5 b6 b7 b8
    exact .inr (.inl ⟨hk, b1, b2, b3, b4, b5, b6, b7, b8, str_nil b12⟩)
  split at h1
  · rename_i hk
    simp only [Bool.and_eq_true] at h1
    obtain ⟨⟨⟨⟨⟨⟨⟨⟨b1, b2⟩, b3⟩, b4⟩, b5⟩, b6⟩, b7⟩, b8⟩, b12⟩ := h1
    simp only [beq_iff_eq] at b1 b2 b3 b4 b5 b6 b7 b8
    exact .inr (.inr (.inl ⟨hk, b1, b2, b3, b4, b5, b6, b7, b8, str_nil b12⟩))
  split at h1
  · rename_i hk
    simp only [Bool.and_eq_true] at h1
    obtain ⟨⟨⟨b1, b2⟩, b3⟩, b4⟩ := h1
    simp only [beq_iff_eq] at b1 b2 b3 b4
    exact .inr (.inr (.inr ⟨hk, b1, b2, b3, b4⟩))
  · cases h1

theorem L4R.head_len (x : L4R) : (x.head.length : Int) = fixV x.k := headL_len _ _ _ _ _ _ _ _ _ _ _ _ _
theorem L4R.body_len (x : L4R) : (x.body.length : Int) = fixV x.k + x.os.length + x.ds.length := by
  have := x.head_len
  unfold L4R.body; simp only [List.length_append]; omega
theorem L4R.enc_len (x : L4R) (src dst : Int) : (x.enc src dst).length = x.body.length := by
  unfold L4R.enc setC; split <;> simp
theorem L4R.body_fits {x : L4R} (h : x.Fine) : ∀ i, 0 ≤ x.body.getD i 0 ∧ x.body.getD i 0 ≤ 255 := fits_append (fits_append (headL_fits _ _ _ _ _ _ _ _ _ _ _ _ _) h.os) h.ds

/-- A head that is handed on with its place. -/
theorem head_some {f : Nat} {args : Array Value} {w : World} {n : Nat} {L : List Int} (hn : 0 < n) (h : Calls Try.prog f args w fun e w' => ∃ a cap, e = .returned (.slice a n cap) ∧ BS w' a n L ∧ Below w.heap.size w w') :
    Calls Try.prog f args w fun e w' => ∃ x cap, e = .returned (.slice (some x) n cap) ∧ BS w' (some x) n L ∧ Below w.heap.size w w' := by
  refine h.mono ?_
  rintro e w' ⟨a, cap, rfl, hb, hB⟩
  rcases hb.cells with h0 | ⟨b, off, rfl, _⟩
  · omega
  · exact ⟨_, _, rfl, hb, hB⟩

set_option maxHeartbeats 2000000 in
theorem head_opaque_some (ty co re sp dp : Int) (ns : Bool) (sq ak fl wi ur : Int) (os ds : List Int) (w : World) :
    Calls Try.prog 40 #[l4V 0 ty co re sp dp ns sq ak fl wi ur os ds] w fun e w' => ∃ x cap, e = .returned (.slice (some x) 0 cap) ∧ BS w' (some x) 0 (headL 0 ty co re sp dp sq ak fl wi ur os.length ds.length) ∧ Below w.heap.size w w' := by
  have hmk : ∀ w, (Instr.makeSlice 26 (.int .i64 0) (.int .i64 20)).run Try.prog w = .ok (.slice (some ⟨w.heap.size, 0, none⟩) 0 20) (w.alloc (.cells (madeCells #[.int .u8 0] 20) 5)) := fun w => make_bytes w 20 (by omega)
  unfold l4V
  go_enter Try.func40, Try.ntmps40
  go_wp2
  go_ret
  exact ⟨_, _, rfl, BS.empty _, below3 _ _ _ _⟩

theorem encode_ok (x : L4R) (hf : x.Fine) (hok : x.ok = true) (src dst : Int) (hs : 0 ≤ src ∧ src ≤ 4294967295) (ht : 0 ≤ dst ∧ dst ≤ 4294967295) (w : World) :
    Calls Try.prog 19 #[.int .u32 src, .int .u32 dst, x.v] w fun e w' => ∃ g, e = .returned (.tuple #[.slice (some ⟨g, 0, none⟩) x.body.length x.body.length, .int .i64 0]) ∧ EncS w w' g x.body.length x.body.length (x.enc src dst) := by
  have o := L4R.okOf hok
  have hbl := x.body_len
  have hhl := x.head_len
  have hall := o.all
  have hN : x.body.length = x.head.length + x.os.length + x.ds.length := by unfold L4R.body; simp only [List.length_append]
  have hfx : fixV x.k + x.os.length + x.ds.length = (x.body.length : Int) := by omega
  have hfh : ∀ i, 0 ≤ x.head.getD i 0 ∧ x.head.getD i 0 ≤ 255 := headL_fits _ _ _ _ _ _ _ _ _ _ _ _ _
  have hl2 : ∀ m : Int, fixV x.k = m → x.head.length = m.toNat := fun m e => by rw [e] at hhl; omega
  obtain ⟨k, ty, co, re, sp, dp, ns, sq, ak, fl, wi, ur, os, ds⟩ := x
  have fo := hf.os
  have fd := hf.ds
  rcases o.kind with h | h | h | h
  · obtain ⟨rfl, -, -, -, -, -, rfl, -, -, -, -, -, rfl⟩ := h
    have hH : ∀ W, Calls Try.prog 40 #[l4V 0 ty co re sp dp false sq ak fl wi ur [] ds] W fun e w' => ∃ x cap, e = .returned (.slice (some x) 0 cap) ∧ BS w' (some x) 0 (L4R.head ⟨0, ty, co, re, sp, dp, false, sq, ak, fl, wi, ur, [], ds⟩) ∧ Below W.heap.size W w' := fun W => head_opaque_some ty co re sp dp false sq ak fl wi ur [] ds W
    unfold L4R.enc
    rw [if_pos (.inl rfl)]
    rcases (by omega : 0 < ds.length ∨ ds.length = 0) with hd | hd
    · exact encpA src dst 0 ty co re sp dp false sq ak fl wi ur [] ds _ 0 _ w hok (hl2 0 rfl) (by rw [hN, hl2 0 rfl]; rfl) hfx (by omega) fo fd hfh hH hd (.inl rfl)
    · exact encpC src dst 0 ty co re sp dp false sq ak fl wi ur [] ds _ 0 _ w hok (hl2 0 rfl) (by rw [hN, hl2 0 rfl]; rfl) hfx (by omega) fo fd hfh hH rfl hd (.inl rfl)
  · obtain ⟨rfl, -, -, rfl, -, -, -, -, -, rfl⟩ := h
    have hH : ∀ W, Calls Try.prog 40 #[l4V 1 ty co re sp dp false sq ak fl wi ur [] ds] W fun e w' => ∃ x cap, e = .returned (.slice (some x) 8 cap) ∧ BS w' (some x) 8 (L4R.head ⟨1, ty, co, re, sp, dp, false, sq, ak, fl, wi, ur, [], ds⟩) ∧ Below W.heap.size W w' := fun W => head_some (by omega) (head_icmp ty co re sp dp false sq ak fl wi ur [] ds W o.ty o.co hf.re)
    unfold L4R.enc
    rw [if_neg (by simp)]
    rcases (by omega : 0 < ds.length ∨ ds.length = 0) with hd | hd
    · exact encs1A src dst ty co re sp dp sq ak fl wi ur [] ds _ 8 _ w hok (hl2 8 rfl) (by rw [hN, hl2 8 rfl]; rfl) hfx (by omega) fo fd hfh hH hd hs ht (by omega)
    · exact encs1C src dst ty co re sp dp sq ak fl wi ur [] ds _ 8 _ w hok (hl2 8 rfl) (by rw [hN, hl2 8 rfl]; rfl) hfx (by omega) fo fd hfh hH rfl hd hs ht (by omega)
  · obtain ⟨rfl, -, -, -, -, -, -, -, -, rfl⟩ := h
    have hd7 : ds.length ≤ 65507 := by
      have : fixV 2 + (([] : List Int).length : Int) + ds.length ≤ 65515 := hall
      rw [show fixV 2 = 8 from rfl] at this
      simp at this; omega
    have hH : ∀ W, Calls Try.prog 40 #[l4V 2 ty co re sp dp ns sq ak fl wi ur [] ds] W fun e w' => ∃ x cap, e = .returned (.slice (some x) 8 cap) ∧ BS w' (some x) 8 (L4R.head ⟨2, ty, co, re, sp, dp, ns, sq, ak, fl, wi, ur, [], ds⟩) ∧ Below W.heap.size W w' := fun W => head_some (by omega) (head_udp ty co re sp dp ns sq ak fl wi ur [] ds W o.sp o.dp rfl hd7)
    unfold L4R.enc
    cases ns
    · rw [if_neg (by simp)]
      rcases (by omega : 0 < ds.length ∨ ds.length = 0) with hd | hd
      · exact encs2A src dst ty co re sp dp sq ak fl wi ur [] ds _ 8 _ w hok (hl2 8 rfl) (by rw [hN, hl2 8 rfl]; rfl) hfx (by omega) fo fd hfh hH hd hs ht (by omega)
      · exact encs2C src dst ty co re sp dp sq ak fl wi ur [] ds _ 8 _ w hok (hl2 8 rfl) (by rw [hN, hl2 8 rfl]; rfl) hfx (by omega) fo fd hfh hH rfl hd hs ht (by omega)
    · rw [if_pos (.inr rfl)]
      rcases (by omega : 0 < ds.length ∨ ds.length = 0) with hd | hd
      · exact encpA src dst 2 ty co re sp dp true sq ak fl wi ur [] ds _ 8 _ w hok (hl2 8 rfl) (by rw [hN, hl2 8 rfl]; rfl) hfx (by omega) fo fd hfh hH hd (.inr ⟨rfl, rfl⟩)
      · exact encpC src dst 2 ty co re sp dp true sq ak fl wi ur [] ds _ 8 _ w hok (hl2 8 rfl) (by rw [hN, hl2 8 rfl]; rfl) hfx (by omega) fo fd hfh hH rfl hd (.inr ⟨rfl, rfl⟩)
  · obtain ⟨rfl, -, -, -, rfl⟩ := h
    have hH : ∀ W, Calls Try.prog 40 #[l4V 3 ty co re sp dp false sq ak fl wi ur os ds] W fun e w' => ∃ x cap, e = .returned (.slice (some x) 20 cap) ∧ BS w' (some x) 20 (L4R.head ⟨3, ty, co, re, sp, dp, false, sq, ak, fl, wi, ur, os, ds⟩) ∧ Below W.heap.size W w' := fun W => head_some (by omega) (head_tcp ty co re sp dp false sq ak fl wi ur os ds W o.sp o.dp hf.sq hf.ak o.fl o.wi o.ur o.opts)
    unfold L4R.enc
    rw [if_neg (by simp)]
    rcases (by omega : 0 < ds.length ∨ (0 < os.length ∧ ds.length = 0) ∨ (os.length = 0 ∧ ds.length = 0)) with hd | ⟨ho, hd⟩ | ⟨ho, hd⟩
    · exact encs3A src dst ty co re sp dp sq ak fl wi ur os ds _ 20 _ w hok (hl2 20 rfl) (by rw [hN, hl2 20 rfl]; rfl) hfx (by omega) fo fd hfh hH hd hs ht (by omega)
    · exact encs3B src dst ty co re sp dp sq ak fl wi ur os ds _ 20 _ w hok (hl2 20 rfl) (by rw [hN, hl2 20 rfl]; rfl) hfx (by omega) fo fd hfh hH ho hd hs ht (by omega)
    · exact encs3C src dst ty co re sp dp sq ak fl wi ur os ds _ 20 _ w hok (hl2 20 rfl) (by rw [hN, hl2 20 rfl]; rfl) hfx (by omega) fo fd hfh hH ho hd hs ht (by omega)

set_option maxHeartbeats 1000000 in
theorem encode_no (x : L4R) (hf : x.Fine) (hok : x.ok = false) (src dst : Int) (w : World) :
    Calls Try.prog 19 #[.int .u32 src, .int .u32 dst, x.v] w fun e w' => e = .returned (.tuple #[.slice none 0 0, .int .i64 1]) ∧ Below w.heap.size w w' := by
  obtain ⟨k, ty, co, re, sp, dp, ns, sq, ak, fl, wi, ur, os, ds⟩ := x
  have HK : Hid (∀ W, Calls Try.prog 38 #[l4V k ty co re sp dp ns sq ak fl wi ur os ds] W fun e w' => e = .returned (.int .i64 1) ∧ Below W.heap.size W w') := fun W => by
    have := l4check_any k ty co re sp dp ns sq ak fl wi ur os ds W hf.room
    rw [show l4Ok k ty co re sp dp ns sq ak fl wi ur (strOfNums os) (strOfNums ds) = false from hok] at this
    exact this
  clear hok hf
  unfold L4R.v l4V
  go_enter Try.func19, Try.ntmps19
  go_wp2_with fail
  refine (HK.out _).mono ?_
  rintro e W1 ⟨rfl, hb1⟩
  have B1 : Hid (Below w.heap.size w W1) := (below1 w _).trans (hb1.mono (by simp))
  clear hb1
  go_wp2
  go_ret2
  exact ⟨rfl, B1.out⟩
end Go.Proofs.Ytgonckbdkgiddaa
