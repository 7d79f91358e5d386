/- Parts of the proof, in one text. -/
import Derived.Test.YtgonckbdkgiddaaVLL4w
import Derived.Test.YtgonckbdkgiddaaVLL4p
import Derived.Test.YtgonckbdkgiddaaVLL4s1
import Derived.Test.YtgonckbdkgiddaaVLL4s2
import Derived.Test.YtgonckbdkgiddaaVLL4s3
namespace Go.Proofs.Ytgonckbdkgiddaa
open Go.RowKit Go.Lib

/-- Numbers of their kinds, and texts of bytes. -/
structure L4R.Fine (x : L4R) : Prop where
  re : 0 ≤ x.re ∧ x.re ≤ 4294967295
  sq : 0 ≤ x.sq ∧ x.sq ≤ 4294967295
  ak : 0 ≤ x.ak ∧ x.ak ≤ 4294967295
  os : ∀ i, 0 ≤ x.os.getD i 0 ∧ x.os.getD i 0 ≤ 255
  ds : ∀ i, 0 ≤ x.ds.getD i 0 ∧ x.ds.getD i 0 ≤ 255
  room : x.ds.length ≤ 140737488355328
def L4R.ok (x : L4R) : Bool := l4Ok x.k x.ty x.co x.re x.sp x.dp x.ns x.sq x.ak x.fl x.wi x.ur (strOfNums x.os) (strOfNums x.ds)
def L4R.head (x : L4R) : List Int := headL x.k x.ty x.co x.re x.sp x.dp x.sq x.ak x.fl x.wi x.ur x.os.length x.ds.length
def L4R.body (x : L4R) : List Int := x.head ++ x.os ++ x.ds
def L4R.enc (x : L4R) (src dst : Int) : List Int := if x.k = 0 ∨ x.ns = true then x.body else setC src dst x.k x.body

theorem str_nil {os : List Int} (h : ((strOfNums os).toList == (⟨#[]⟩ : ByteArray).toList) = true) : os = [] := by
  rw [beq_iff_eq, ByteArray.toList_eq, ByteArray.toList_eq] at h
  have := congrArg List.length h
  simpa [strOfNums] using this

/-- What a packet that may be is like. -/
structure L4R.Ok (x : L4R) : Prop where
  kind : (x.k = 0 ∧ x.ty = 0 ∧ x.co = 0 ∧ x.re = 0 ∧ x.sp = 0 ∧ x.dp = 0 ∧ x.ns = false ∧ x.sq = 0 ∧ x.ak = 0 ∧ x.fl = 0 ∧ x.wi = 0 ∧ x.ur = 0 ∧ x.os = [])
    ∨ (x.k = 1 ∧ x.sp = 0 ∧ x.dp = 0 ∧ x.ns = false ∧ x.sq = 0 ∧ x.ak = 0 ∧ x.fl = 0 ∧ x.wi = 0 ∧ x.ur = 0 ∧ x.os = [])
    ∨ (x.k = 2 ∧ x.ty = 0 ∧ x.co = 0 ∧ x.re = 0 ∧ x.sq = 0 ∧ x.ak = 0 ∧ x.fl = 0 ∧ x.wi = 0 ∧ x.ur = 0 ∧ x.os = [])
    ∨ (x.k = 3 ∧ x.ty = 0 ∧ x.co = 0 ∧ x.re = 0 ∧ x.ns = false)
  ty : 0 ≤ x.ty ∧ x.ty ≤ 255
  co : 0 ≤ x.co ∧ x.co ≤ 255
  fl : 0 ≤ x.fl ∧ x.fl ≤ 4095
  sp : 0 ≤ x.sp ∧ x.sp ≤ 65535
  dp : 0 ≤ x.dp ∧ x.dp ≤ 65535
  wi : 0 ≤ x.wi ∧ x.wi ≤ 65535
  ur : 0 ≤ x.ur ∧ x.ur ≤ 65535
  opts : x.os.length ≤ 40
  four : x.os.length % 4 = 0
  all : fixV x.k + x.os.length + x.ds.length ≤ 65515

theorem L4R.okOf {x : L4R} (h : x.ok = true) : x.Ok := by
  unfold L4R.ok l4Ok at h
  rw [strOfNums_size, strOfNums_size] at h
  simp only [Bool.and_eq_true, Bool.not_eq_true', Bool.or_eq_false_iff, decide_eq_false_iff_not] at h
  obtain ⟨⟨h1, h2⟩, ⟨h3, h4⟩, h5⟩ := h
  have hm : (x.os.length : Int) % 4 = 0 := by simpa using h4
  unfold numsOk fitN fit8 fit12 fit16 at h2
  simp at h2
  obtain ⟨a1, a2, a3, a4, a5, a6, a7⟩ := h2
  refine ⟨?_, a1, a2, a3, a4, a5, a6, a7, by omega, by omega, by omega⟩
  unfold ownOk at h1
  split at h1
  · rename_i hk
    simp only [Bool.and_eq_true] at h1
    obtain ⟨⟨⟨⟨⟨⟨⟨⟨⟨⟨⟨b1, b2⟩, b3⟩, b4⟩, b5⟩, b6⟩, b7⟩, b8⟩, b9⟩, b10⟩, b11⟩, b12⟩ := h1
    simp only [beq_iff_eq] at b1 b2 b3 b4 b5 b6 b7 b8 b9 b10 b11
    exact .inl ⟨hk, b1, b2, b3, b4, b5, b6, b7, b8, b9, b10, b11, str_nil b12⟩
  split at h1
  · rename_i hk
    simp only [Bool.and_eq_true] at h1
    obtain ⟨⟨⟨⟨⟨⟨⟨⟨b1, b2⟩, b3⟩, b4⟩, b5⟩, b6⟩, b7⟩, b8⟩, b12⟩ := h1
    simp only [beq_iff_eq] at b1 b2 b3 b4 b5 b6 b7 b8
    exact .inr (.inl ⟨hk, b1, b2, b3, b4, b5, b6, b7, b8, str_nil b12⟩)
  split at h1
  · rename_i hk
    simp only [Bool.and_eq_true] at h1
    obtain ⟨⟨⟨⟨⟨⟨⟨⟨b1, b2⟩, b3⟩, b4⟩, b5⟩, b6⟩, b7⟩, b8⟩, b12⟩ := h1
    simp only [beq_iff_eq] at b1 b2 b3 b4 b5 b6 b7 b8
    exact .inr (.inr (.inl ⟨hk, b1, b2, b3, b4, b5, b6, b7, b8, str_nil b12⟩))
  split at h1
  · rename_i hk
    simp only [Bool.and_eq_true] at h1
    obtain ⟨⟨⟨b1, b2⟩, b3⟩, b4⟩ := h1
    simp only [beq_iff_eq] at b1 b2 b3 b4
    exact .inr (.inr (.inr ⟨hk, b1, b2, b3, b4⟩))
  · cases h1

theorem L4R.head_len (x : L4R) : (x.head.length : Int) = fixV x.k := headL_len _ _ _ _ _ _ _ _ _ _ _ _ _
theorem L4R.body_len (x : L4R) : (x.body.length : Int) = fixV x.k + x.os.length + x.ds.length := by
  have := x.head_len
  unfold L4R.body; simp only [List.length_append]; omega
theorem L4R.body_fits {x : L4R} (h : x.Fine) : ∀ i, 0 ≤ x.body.getD i 0 ∧ x.body.getD i 0 ≤ 255 := fits_append (fits_append (headL_fits _ _ _ _ _ _ _ _ _ _ _ _ _) h.os) h.ds

/-- A head that is handed on with its place. -/
theorem head_some {f : Nat} {args : Array Value} {w : World} {n : Nat} {L : List Int} (hn : 0 < n) (h : Calls Try.prog f args w fun e w' => ∃ a cap, e = .returned (.slice a n cap) ∧ BS w' a n L ∧ Below w.heap.size w w') :
    Calls Try.prog f args w fun e w' => ∃ x cap, e = .returned (.slice (some x) n cap) ∧ BS w' (some x) n L ∧ Below w.heap.size w w' := by
  refine h.mono ?_
  rintro e w' ⟨a, cap, rfl, hb, hB⟩
  rcases hb.cells with h0 | ⟨b, off, rfl, _⟩
  · omega
  · exact ⟨_, _, rfl, hb, hB⟩

set_option maxHeartbeats 2000000 in
theorem head_opaque_some (ty co re sp dp : Int) (ns : Bool) (sq ak fl wi ur : Int) (os ds : List Int) (w : World) :
    Calls Try.prog 40 #[l4V 0 ty co re sp dp ns sq ak fl wi ur os ds] w fun e w' => ∃ x cap, e = .returned (.slice (some x) 0 cap) ∧ BS w' (some x) 0 (headL 0 ty co re sp dp sq ak fl wi ur os.length ds.length) ∧ Below w.heap.size w w' := by
  have hmk : ∀ w, (Instr.makeSlice 26 (.int .i64 0) (.int .i64 20)).run Try.prog w = .ok (.slice (some ⟨w.heap.size, 0, none⟩) 0 20) (w.alloc (.cells (madeCells #[.int .u8 0] 20) 5)) := fun w => make_bytes w 20 (by omega)
  unfold l4V
  go_enter Try.func40, Try.ntmps40
  go_wp2
  go_ret
  exact ⟨_, _, rfl, BS.empty _, below3 _ _ _ _⟩

theorem encode_ok (x : L4R) (hf : x.Fine) (hok : x.ok = true) (src dst : Int) (hs : 0 ≤ src ∧ src ≤ 4294967295) (ht : 0 ≤ dst ∧ dst ≤ 4294967295) (w : World) :
    Calls Try.prog 19 #[.int .u32 src, .int .u32 dst, x.v] w fun e w' => ∃ g, e = .returned (.tuple #[.slice (some ⟨g, 0, none⟩) x.body.length x.body.length, .int .i64 0]) ∧ EncS w w' g x.body.length x.body.length (x.enc src dst) := by
  have o := L4R.okOf hok
  have hbl := x.body_len
  have hhl := x.head_len
  have hall := o.all
  have hN : x.body.length = x.head.length + x.os.length + x.ds.length := by unfold L4R.body; simp only [List.length_append]
  have hfx : fixV x.k + x.os.length + x.ds.length = (x.body.length : Int) := by omega
  have hfh : ∀ i, 0 ≤ x.head.getD i 0 ∧ x.head.getD i 0 ≤ 255 := headL_fits _ _ _ _ _ _ _ _ _ _ _ _ _
  have hl2 : ∀ m : Int, fixV x.k = m → x.head.length = m.toNat := fun m e => by rw [e] at hhl; omega
  obtain ⟨k, ty, co, re, sp, dp, ns, sq, ak, fl, wi, ur, os, ds⟩ := x
  have fo := hf.os
  have fd := hf.ds
  rcases o.kind with h | h | h | h
  · obtain ⟨rfl, -, -, -, -, -, rfl, -, -, -, -, -, rfl⟩ := h
    have hH : ∀ W, Calls Try.prog 40 #[l4V 0 ty co re sp dp false sq ak fl wi ur [] ds] W fun e w' => ∃ x cap, e = .returned (.slice (some x) 0 cap) ∧ BS w' (some x) 0 (L4R.head ⟨0, ty, co, re, sp, dp, false, sq, ak, fl, wi, ur, [], ds⟩) ∧ Below W.heap.size W w' := fun W => head_opaque_some ty co re sp dp false sq ak fl wi ur [] ds W
    unfold L4R.enc
    rw [if_pos (.inl rfl)]
    rcases (by omega : 0 < ds.length ∨ ds.length = 0) with hd | hd
    · exact encpA src dst 0 ty co re sp dp false sq ak fl wi ur [] ds _ 0 _ w hok (hl2 0 rfl) (by rw [hN, hl2 0 rfl]; rfl) hfx (by omega) fo fd hfh hH hd (.inl rfl)
    · exact encpC src dst 0 ty co re sp dp false sq ak fl wi ur [] ds _ 0 _ w hok (hl2 0 rfl) (by rw [hN, hl2 0 rfl]; rfl) hfx (by omega) fo fd hfh hH rfl hd (.inl rfl)
  · obtain ⟨rfl, -, -, rfl, -, -, -, -, -, rfl⟩ := h
    have hH : ∀ W, Calls Try.prog 40 #[l4V 1 ty co re sp dp false sq ak fl wi ur [] ds] W fun e w' => ∃ x cap, e = .returned (.slice (some x) 8 cap) ∧ BS w' (some x) 8 (L4R.head ⟨1, ty, co, re, sp, dp, false, sq, ak, fl, wi, ur, [], ds⟩) ∧ Below W.heap.size W w' := fun W => head_some (by omega) (head_icmp ty co re sp dp false sq ak fl wi ur [] ds W o.ty o.co hf.re)
    unfold L4R.enc
    rw [if_neg (by simp)]
    rcases (by omega : 0 < ds.length ∨ ds.length = 0) with hd | hd
    · exact encs1A src dst ty co re sp dp sq ak fl wi ur [] ds _ 8 _ w hok (hl2 8 rfl) (by rw [hN, hl2 8 rfl]; rfl) hfx (by omega) fo fd hfh hH hd hs ht (by omega)
    · exact encs1C src dst ty co re sp dp sq ak fl wi ur [] ds _ 8 _ w hok (hl2 8 rfl) (by rw [hN, hl2 8 rfl]; rfl) hfx (by omega) fo fd hfh hH rfl hd hs ht (by omega)
  · obtain ⟨rfl, -, -, -, -, -, -, -, -, rfl⟩ := h
    have hd7 : ds.length ≤ 65507 := by
      have : fixV 2 + (([] : List Int).length : Int) + ds.length ≤ 65515 := hall
      rw [show fixV 2 = 8 from rfl] at this
      simp at this; omega
    have hH : ∀ W, Calls Try.prog 40 #[l4V 2 ty co re sp dp ns sq ak fl wi ur [] ds] W fun e w' => ∃ x cap, e = .returned (.slice (some x) 8 cap) ∧ BS w' (some x) 8 (L4R.head ⟨2, ty, co, re, sp, dp, ns, sq, ak, fl, wi, ur, [], ds⟩) ∧ Below W.heap.size W w' := fun W => head_some (by omega) (head_udp ty co re sp dp ns sq ak fl wi ur [] ds W o.sp o.dp rfl hd7)
    unfold L4R.enc
    cases ns
    · rw [if_neg (by simp)]
      rcases (by omega : 0 < ds.length ∨ ds.length = 0) with hd | hd
      · exact encs2A src dst ty co re sp dp sq ak fl wi ur [] ds _ 8 _ w hok (hl2 8 rfl) (by rw [hN, hl2 8 rfl]; rfl) hfx (by omega) fo fd hfh hH hd hs ht (by omega)
      · exact encs2C src dst ty co re sp dp sq ak fl wi ur [] ds _ 8 _ w hok (hl2 8 rfl) (by rw [hN, hl2 8 rfl]; rfl) hfx (by omega) fo fd hfh hH rfl hd hs ht (by omega)
    · rw [if_pos (.inr rfl)]
      rcases (by omega : 0 < ds.length ∨ ds.length = 0) with hd | hd
      · exact encpA src dst 2 ty co re sp dp true sq ak fl wi ur [] ds _ 8 _ w hok (hl2 8 rfl) (by rw [hN, hl2 8 rfl]; rfl) hfx (by omega) fo fd hfh hH hd (.inr ⟨rfl, rfl⟩)
      · exact encpC src dst 2 ty co re sp dp true sq ak fl wi ur [] ds _ 8 _ w hok (hl2 8 rfl) (by rw [hN, hl2 8 rfl]; rfl) hfx (by omega) fo fd hfh hH rfl hd (.inr ⟨rfl, rfl⟩)
  · obtain ⟨rfl, -, -, -, rfl⟩ := h
    have hH : ∀ W, Calls Try.prog 40 #[l4V 3 ty co re sp dp false sq ak fl wi ur os ds] W fun e w' => ∃ x cap, e = .returned (.slice (some x) 20 cap) ∧ BS w' (some x) 20 (L4R.head ⟨3, ty, co, re, sp, dp, false, sq, ak, fl, wi, ur, os, ds⟩) ∧ Below W.heap.size W w' := fun W => head_some (by omega) (head_tcp ty co re sp dp false sq ak fl wi ur os ds W o.sp o.dp hf.sq hf.ak o.fl o.wi o.ur o.opts)
    unfold L4R.enc
    rw [if_neg (by simp)]
    rcases (by omega : 0 < ds.length ∨ (0 < os.length ∧ ds.length = 0) ∨ (os.length = 0 ∧ ds.length = 0)) with hd | ⟨ho, hd⟩ | ⟨ho, hd⟩
    · exact encs3A src dst ty co re sp dp sq ak fl wi ur os ds _ 20 _ w hok (hl2 20 rfl) (by rw [hN, hl2 20 rfl]; rfl) hfx (by omega) fo fd hfh hH hd hs ht (by omega)
    · exact encs3B src dst ty co re sp dp sq ak fl wi ur os ds _ 20 _ w hok (hl2 20 rfl) (by rw [hN, hl2 20 rfl]; rfl) hfx (by omega) fo fd hfh hH ho hd hs ht (by omega)
    · exact encs3C src dst ty co re sp dp sq ak fl wi ur os ds _ 20 _ w hok (hl2 20 rfl) (by rw [hN, hl2 20 rfl]; rfl) hfx (by omega) fo fd hfh hH ho hd hs ht (by omega)

end Go.Proofs.Ytgonckbdkgiddaa

namespace Go.Proofs.Ytgonckbdkgiddaa
open Go.RowKit

theorem fld_mod (t : Int) (_h : 0 ≤ t) : fld t % 65535 = t % 65535 := by
  unfold fld; split <;> omega
theorem fld_full (t : Int) (h : 0 < t) : fld t = 65535 ↔ t % 65535 = 0 := by
  unfold fld; rw [if_neg (by omega)]; omega
theorem fld_pos (t : Int) (h : 0 < t) : 0 < fld t := by
  unfold fld; rw [if_neg (by omega)]; omega

/-- What is added to the bytes' own sum. -/
def extra (src dst k : Int) (n : Int) : Int := if k = 1 then 0 else psd src dst (protoN k) n
theorem extra_nn (src dst k n : Int) (h1 : 0 ≤ src) (h2 : 0 ≤ dst) : 0 ≤ extra src dst k n := by
  unfold extra; split
  · omega
  · exact (psd_bd src dst _ n h1 h2).1
theorem sumV_extra (src dst k : Int) (zs : List Int) (hz : 0 ≤ wsum zs) (h1 : 0 ≤ src) (h2 : 0 ≤ dst) : sumV src dst k zs = fld (extra src dst k zs.length + wsum zs) := by
  unfold sumV extra
  split
  · rw [Int.zero_add]
  · have := fld_add (wsum zs) (psd src dst (protoN k) zs.length) hz (psd_bd src dst _ _ h1 h2).1
    rw [Int.add_comm, this, Int.add_comm]

theorem chkC_bd (src dst k : Int) (B : List Int) (h1 : 0 ≤ src) (h2 : 0 ≤ dst) (hB : ∀ i, 0 ≤ B.getD i 0 ∧ B.getD i 0 ≤ 255) : 0 ≤ chkC src dst k B ∧ chkC src dst k B ≤ 65535 := by
  have := sumV_bd src dst k B h1 h2 hB
  unfold chkC; split <;> omega
theorem chkC_udp (src dst : Int) (B : List Int) (h1 : 0 ≤ src) (h2 : 0 ≤ dst) (hB : ∀ i, 0 ≤ B.getD i 0 ∧ B.getD i 0 ≤ 255) : 0 < chkC src dst 2 B := by
  have := sumV_bd src dst 2 B h1 h2 hB
  unfold chkC; split
  · omega
  · rename_i h
    have : ¬ sumV src dst 2 B = 65535 := fun e => h ⟨rfl, e⟩
    omega

theorem setC_len (src dst k : Int) (B : List Int) : (setC src dst k B).length = B.length := by simp [setC]
theorem wsum_setC (src dst k : Int) (B : List Int) (h1 : chkAt k + 1 < B.length) (h2 : B.getD (chkAt k) 0 = 0) (h3 : B.getD (chkAt k + 1) 0 = 0) : wsum (setC src dst k B) = wsum B + chkC src dst k B := by
  obtain ⟨j, hj⟩ : ∃ j, chkAt k = 2 * j := by
    unfold chkAt; split
    · exact ⟨1, rfl⟩
    · split
      · exact ⟨3, rfl⟩
      · exact ⟨8, rfl⟩
  unfold setC
  rw [hj] at h1 h2 h3 ⊢
  rw [wsum_set j B _ _ h1, h2, h3]
  omega

/-- With its check sum in, a packet's sum is one that is right, of these addresses; and of others where they add up to the same. -/
theorem sum_setC (src dst k o : Int) (B : List Int) (s1 : 0 ≤ src) (d1 : 0 ≤ dst) (o1 : 0 ≤ o) (hB : ∀ i, 0 ≤ B.getD i 0 ∧ B.getD i 0 ≤ 255) (h1 : chkAt k + 1 < B.length) (h2 : B.getD (chkAt k) 0 = 0) (h3 : B.getD (chkAt k + 1) 0 = 0) (hp : 0 < wsum B ∨ 0 < chkC src dst k B ∨ 0 < extra o dst k B.length) :
    sumV o dst k (setC src dst k B) = 65535 ↔ extra o dst k B.length % 65535 = extra src dst k B.length % 65535 := by
  have hw := wsum_bd hB
  have hc := chkC_bd src dst k B s1 d1 hB
  have e1 := extra_nn src dst k B.length s1 d1
  have e2 := extra_nn o dst k B.length o1 d1
  have hs := wsum_setC src dst k B h1 h2 h3
  rw [sumV_extra o dst k _ (by omega) o1 d1, setC_len, hs, fld_full _ (by omega)]
  have hS := sumV_extra src dst k B hw s1 d1
  have hm := fld_mod (extra src dst k B.length + wsum B) (by omega)
  rw [← hS] at hm
  have hC : (chkC src dst k B + sumV src dst k B) % 65535 = 0 := by
    unfold chkC; split
    · rename_i h; rw [h.2]; omega
    · omega
  omega

end Go.Proofs.Ytgonckbdkgiddaa

namespace Go.Proofs.Ytgonckbdkgiddaa
open Go.RowKit

/-- The bytes of a UDP packet, of whatever check sum. -/
def udpL (sp dp n c : Int) (ds : List Int) : List Int := [sp / 256 % 256, sp % 256, dp / 256 % 256, dp % 256, n / 256 % 256, n % 256, c / 256, c % 256] ++ ds
def icmpL (ty co re c : Int) (ds : List Int) : List Int := [ty % 256, co % 256, c / 256, c % 256, re / 16777216 % 256, re / 65536 % 256, re / 256 % 256, re % 256] ++ ds
def tcpL (sp dp sq ak u wi ur c : Int) (os ds : List Int) : List Int := [sp / 256 % 256, sp % 256, dp / 256 % 256, dp % 256, sq / 16777216 % 256, sq / 65536 % 256, sq / 256 % 256, sq % 256, ak / 16777216 % 256, ak / 65536 % 256, ak / 256 % 256, ak % 256, u / 256 % 256, u % 256, wi / 256 % 256, wi % 256, c / 256, c % 256, ur / 256 % 256, ur % 256] ++ (os ++ ds)
theorem be1 (v : Int) : be v (1 : Int).toNat = [v % 256] := by
  show [v / 2 ^ (8 * 0) % 256] = _
  rw [show (2 : Int) ^ (8 * 0) = 1 by decide]; simp
theorem be2 (v : Int) : be v (2 : Int).toNat = [v / 256 % 256, v % 256] := by
  show [v / 2 ^ (8 * 1) % 256, v / 2 ^ (8 * 0) % 256] = _
  rw [show (2 : Int) ^ (8 * 0) = 1 by decide, show (2 : Int) ^ (8 * 1) = 256 by decide]; simp
theorem be4 (v : Int) : be v (4 : Int).toNat = [v / 16777216 % 256, v / 65536 % 256, v / 256 % 256, v % 256] := by
  show [v / 2 ^ (8 * 3) % 256, v / 2 ^ (8 * 2) % 256, v / 2 ^ (8 * 1) % 256, v / 2 ^ (8 * 0) % 256] = _
  rw [show (2 : Int) ^ (8 * 0) = 1 by decide, show (2 : Int) ^ (8 * 1) = 256 by decide, show (2 : Int) ^ (8 * 2) = 65536 by decide, show (2 : Int) ^ (8 * 3) = 16777216 by decide]; simp
theorem body_icmp (ty co re sp dp : Int) (ns : Bool) (sq ak fl wi ur : Int) (ds : List Int) : (L4R.mk 1 ty co re sp dp ns sq ak fl wi ur [] ds).body = icmpL ty co re 0 ds := by
  unfold L4R.body L4R.head headL
  simp only [be1, be2, be4]
  rfl
theorem body_udp (ty co re sp dp : Int) (ns : Bool) (sq ak fl wi ur : Int) (ds : List Int) : (L4R.mk 2 ty co re sp dp ns sq ak fl wi ur [] ds).body = udpL sp dp (8 + (ds.length : Int)) 0 ds := by
  unfold L4R.body L4R.head headL
  simp only [be2]
  rfl
theorem body_tcp (ty co re sp dp : Int) (ns : Bool) (sq ak fl wi ur : Int) (os ds : List Int) : (L4R.mk 3 ty co re sp dp ns sq ak fl wi ur os ds).body = tcpL sp dp sq ak ((20 + (os.length : Int)) / 4 * 4096 + fl) wi ur 0 os ds := by
  unfold L4R.body L4R.head headL
  simp only [be2, be4]
  rw [List.append_assoc]
  rfl
theorem setC_icmp (src dst ty co re : Int) (ds : List Int) : setC src dst 1 (icmpL ty co re 0 ds) = icmpL ty co re (chkC src dst 1 (icmpL ty co re 0 ds)) ds := rfl
theorem setC_udp (src dst sp dp n : Int) (ds : List Int) : setC src dst 2 (udpL sp dp n 0 ds) = udpL sp dp n (chkC src dst 2 (udpL sp dp n 0 ds)) ds := rfl
theorem setC_tcp (src dst sp dp sq ak u wi ur : Int) (os ds : List Int) : setC src dst 3 (tcpL sp dp sq ak u wi ur 0 os ds) = tcpL sp dp sq ak u wi ur (chkC src dst 3 (tcpL sp dp sq ak u wi ur 0 os ds)) os ds := rfl

theorem read_icmpL (ty co re c : Int) (ds : List Int) (h1 : 0 ≤ ty ∧ ty ≤ 255) (h2 : 0 ≤ co ∧ co ≤ 255) (h3 : 0 ≤ re ∧ re ≤ 4294967295) : readR 1 (icmpL ty co re c ds) = ⟨1, ty, co, re, 0, 0, false, 0, 0, 0, 0, 0, [], ds⟩ := by
  have e1 : num (((icmpL ty co re c ds).drop 0).take 1) = ty := by
    show num [ty % 256] = ty
    simp [num]; omega
  have e2 : num (((icmpL ty co re c ds).drop 1).take 1) = co := by
    show num [co % 256] = co
    simp [num]; omega
  have e3 : num (((icmpL ty co re c ds).drop 4).take 4) = re := by
    show num [re / 16777216 % 256, re / 65536 % 256, re / 256 % 256, re % 256] = re
    simp [num]; omega
  unfold readR
  rw [if_pos rfl, e1, e2, e3]
  rfl
theorem read_udpL (sp dp n c : Int) (ds : List Int) (h1 : 0 ≤ sp ∧ sp ≤ 65535) (h2 : 0 ≤ dp ∧ dp ≤ 65535) : readR 2 (udpL sp dp n c ds) = ⟨2, 0, 0, 0, sp, dp, c == 0, 0, 0, 0, 0, 0, [], ds⟩ := by
  have e1 : num (((udpL sp dp n c ds).drop 0).take 2) = sp := by
    show num [sp / 256 % 256, sp % 256] = sp
    simp [num]; omega
  have e2 : num (((udpL sp dp n c ds).drop 2).take 2) = dp := by
    show num [dp / 256 % 256, dp % 256] = dp
    simp [num]; omega
  have e3 : num (((udpL sp dp n c ds).drop 6).take 2) = c := by
    show num [c / 256, c % 256] = c
    simp [num]; omega
  unfold readR
  rw [if_neg (by decide), if_pos rfl, e1, e2, e3]
  rfl
theorem read_tcpL (sp dp sq ak fl wi ur c : Int) (os ds : List Int) (h1 : 0 ≤ sp ∧ sp ≤ 65535) (h2 : 0 ≤ dp ∧ dp ≤ 65535) (h3 : 0 ≤ sq ∧ sq ≤ 4294967295) (h4 : 0 ≤ ak ∧ ak ≤ 4294967295) (h5 : 0 ≤ fl ∧ fl ≤ 4095) (h6 : 0 ≤ wi ∧ wi ≤ 65535) (h7 : 0 ≤ ur ∧ ur ≤ 65535) (ho : os.length ≤ 40) (h4' : os.length % 4 = 0) :
    readR 3 (tcpL sp dp sq ak ((20 + (os.length : Int)) / 4 * 4096 + fl) wi ur c os ds) = ⟨3, 0, 0, 0, sp, dp, false, sq, ak, fl, wi, ur, os, ds⟩ := by
  have hu : 5 ≤ (20 + (os.length : Int)) / 4 ∧ (20 + (os.length : Int)) / 4 ≤ 15 ∧ (20 + (os.length : Int)) / 4 * 4 = 20 + os.length := by omega
  generalize (20 + (os.length : Int)) / 4 = q at *
  have e1 : num (((tcpL sp dp sq ak (q * 4096 + fl) wi ur c os ds).drop 0).take 2) = sp := by
    show num [sp / 256 % 256, sp % 256] = sp
    simp [num]; omega
  have e2 : num (((tcpL sp dp sq ak (q * 4096 + fl) wi ur c os ds).drop 2).take 2) = dp := by
    show num [dp / 256 % 256, dp % 256] = dp
    simp [num]; omega
  have e3 : num (((tcpL sp dp sq ak (q * 4096 + fl) wi ur c os ds).drop 4).take 4) = sq := by
    show num [sq / 16777216 % 256, sq / 65536 % 256, sq / 256 % 256, sq % 256] = sq
    simp [num]; omega
  have e4 : num (((tcpL sp dp sq ak (q * 4096 + fl) wi ur c os ds).drop 8).take 4) = ak := by
    show num [ak / 16777216 % 256, ak / 65536 % 256, ak / 256 % 256, ak % 256] = ak
    simp [num]; omega
  have e5 : num (((tcpL sp dp sq ak (q * 4096 + fl) wi ur c os ds).drop 12).take 2) % 4096 = fl := by
    show num [(q * 4096 + fl) / 256 % 256, (q * 4096 + fl) % 256] % 4096 = fl
    simp [num]; omega
  have e6 : num (((tcpL sp dp sq ak (q * 4096 + fl) wi ur c os ds).drop 14).take 2) = wi := by
    show num [wi / 256 % 256, wi % 256] = wi
    simp [num]; omega
  have e7 : num (((tcpL sp dp sq ak (q * 4096 + fl) wi ur c os ds).drop 18).take 2) = ur := by
    show num [ur / 256 % 256, ur % 256] = ur
    simp [num]; omega
  have e8 : (tcpL sp dp sq ak (q * 4096 + fl) wi ur c os ds).getD 12 0 / 16 * 4 = 20 + os.length := by
    show (q * 4096 + fl) / 256 % 256 / 16 * 4 = _
    omega
  have e9 : (20 + (os.length : Int)).toNat = 20 + os.length := by omega
  unfold readR
  rw [if_neg (by decide), if_neg (by decide), if_pos rfl, e1, e2, e3, e4, e5, e6, e7, e8, e9]
  have d1 : ((tcpL sp dp sq ak (q * 4096 + fl) wi ur c os ds).drop 20).take (20 + os.length - 20) = os := by
    show (os ++ ds).take (20 + os.length - 20) = os
    rw [show 20 + os.length - 20 = os.length by omega]; simp
  have d2 : (tcpL sp dp sq ak (q * 4096 + fl) wi ur c os ds).drop (20 + os.length) = ds := by
    rw [← List.drop_drop]
    show (os ++ ds).drop os.length = ds
    simp
  rw [d1, d2]
  rfl
theorem msr_icmpL (ty co re c : Int) (ds : List Int) : msrV 1 (icmpL ty co re c ds) = 0 := by
  have hl : (icmpL ty co re c ds).length = 8 + ds.length := by simp [icmpL]; omega
  unfold msrV
  rw [hl, show fixV 1 = 8 from rfl, if_neg (by omega), if_neg (by decide), if_neg (by decide)]
theorem msr_udpL (sp dp c : Int) (ds : List Int) (hd : ds.length ≤ 65507) : msrV 2 (udpL sp dp (8 + (ds.length : Int)) c ds) = 0 := by
  have hl : (udpL sp dp (8 + (ds.length : Int)) c ds).length = 8 + ds.length := by simp [udpL]; omega
  unfold msrV
  rw [hl, show fixV 2 = 8 from rfl, if_neg (by omega), if_pos rfl, if_pos]
  show (8 + (ds.length : Int)) / 256 % 256 * 256 + (8 + (ds.length : Int)) % 256 = _
  omega
theorem msr_tcpL (sp dp sq ak fl wi ur c : Int) (os ds : List Int) (h5 : 0 ≤ fl ∧ fl ≤ 4095) (ho : os.length ≤ 40) (h4' : os.length % 4 = 0) : msrV 3 (tcpL sp dp sq ak ((20 + (os.length : Int)) / 4 * 4096 + fl) wi ur c os ds) = 0 := by
  have hl : (tcpL sp dp sq ak ((20 + (os.length : Int)) / 4 * 4096 + fl) wi ur c os ds).length = 20 + os.length + ds.length := by simp [tcpL]; omega
  have e8 : (tcpL sp dp sq ak ((20 + (os.length : Int)) / 4 * 4096 + fl) wi ur c os ds).getD 12 0 / 16 * 4 = 20 + os.length := by
    show ((20 + (os.length : Int)) / 4 * 4096 + fl) / 256 % 256 / 16 * 4 = _
    omega
  unfold msrV
  rw [hl, show fixV 3 = 20 from rfl, if_neg (by omega), if_neg (by decide), if_pos rfl, e8, if_neg (by omega), if_neg (by omega)]
end Go.Proofs.Ytgonckbdkgiddaa
