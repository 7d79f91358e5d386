/- The document's Encode of every packet. Conditions: numbers of their kinds, texts of at most 2^47 bytes. -/
import Derived.Test.YtanilaofhaelkaaL4c5
import Derived.Test.YtanilaofhaelkaaL4d0
import Derived.Test.YtanilaofhaelkaaL4d3
import Derived.Test.YtanilaofhaelkaaL4d5
import Derived.Test.YtanilaofhaelkaaL4d6
namespace Go.Proofs.Ytanilaofhaelkaa
open Go.RowKit
theorem be_one (x : Int) (h : 0 ≤ x ∧ x ≤ 255) : be x (1 : Int).toNat = [x] := by
  show be x 1 = [x]
  simp [be]
  omega
theorem be_zero2 : be 0 (2 : Int).toNat = [0, 0] := by decide +kernel
/-- Refused. -/
theorem renc_none (x : L4R) (hf : x.Fine) (hos : x.os.length ≤ 140737488355328) (hok : x.ok = false) (src dst : Int) (w : World) :
    Calls Try.prog 11 #[.int .u32 src, .int .u32 dst, x.v] w fun e w' => e = .returned (.tuple #[.slice none 0 0, .int .i64 1]) ∧ Below w.heap.size w w' := by
  have HK : Hid (∀ W, Calls Try.prog 13 #[x.v] W fun e w' => e = .returned (.int .i64 1) ∧ Below W.heap.size W w') := fun W => by
    have := rl4check_any x hf hos W
    rw [hok] at this
    exact this
  obtain ⟨k, ty, co, re, sp, dp, ns, sq, ak, fl, wi, ur, os, ds⟩ := x
  exact renc_no src dst k ty co re sp dp ns sq ak fl wi ur os ds w HK
/-- Encoded. -/
theorem renc_any (x : L4R) (hf : x.Fine) (hos : x.os.length ≤ 140737488355328) (hok : x.ok = true) (src dst : Int) (hs : 0 ≤ src ∧ src ≤ 4294967295) (ht : 0 ≤ dst ∧ dst ≤ 4294967295) (w : World) :
    Calls Try.prog 11 #[.int .u32 src, .int .u32 dst, x.v] w fun e w' => ∃ a cap, e = .returned (.tuple #[.slice a x.body.length cap, .int .i64 0]) ∧ BS w' a x.body.length (x.enc src dst) ∧ Below w.heap.size w w' := by
  have o := L4R.okOf hok
  have HK : Hid (∀ W, Calls Try.prog 13 #[x.v] W fun e w' => e = .returned (.int .i64 0) ∧ Below W.heap.size W w') := fun W => by
    have := rl4check_any x hf hos W
    rw [hok] at this
    exact this
  have hbl := x.body_len
  have hall := o.all
  obtain ⟨k, ty, co, re, sp, dp, ns, sq, ak, fl, wi, ur, os, ds⟩ := x
  have fo : ∀ i, 0 ≤ os.getD i 0 ∧ os.getD i 0 ≤ 255 := hf.os
  have fd : ∀ i, 0 ≤ ds.getD i 0 ∧ ds.getD i 0 ≤ 255 := hf.ds
  have hty : 0 ≤ ty ∧ ty ≤ 255 := o.ty
  have hco : 0 ≤ co ∧ co ≤ 255 := o.co
  have hsp : 0 ≤ sp ∧ sp ≤ 65535 := o.sp
  have hdp : 0 ≤ dp ∧ dp ≤ 65535 := o.dp
  have hre : 0 ≤ re ∧ re ≤ 4294967295 := hf.re
  have hsq : 0 ≤ sq ∧ sq ≤ 4294967295 := hf.sq
  have hak : 0 ≤ ak ∧ ak ≤ 4294967295 := hf.ak
  have hfl : 0 ≤ fl ∧ fl ≤ 4095 := o.fl
  have hwi : 0 ≤ wi ∧ wi ≤ 65535 := o.wi
  have hur : 0 ≤ ur ∧ ur ≤ 65535 := o.ur
  have ho40 : os.length ≤ 40 := o.opts
  rcases o.kind with h | h | h | h
  · obtain ⟨h1, -, -, -, -, -, -, -, -, -, -, -, h2⟩ := h
    simp only at h1 h2
    subst h1 h2
    have hd : ds.length ≤ 65515 := by
      have : fixV 0 + (([] : List Int).length : Int) + ds.length ≤ 65515 := hall
      rw [show fixV 0 = 0 from rfl] at this
      simp at this; omega
    have hB : (L4R.mk 0 ty co re sp dp ns sq ak fl wi ur [] ds).body = ds := by
      show headL 0 ty co re sp dp sq ak fl wi ur 0 ds.length ++ [] ++ ds = ds
      rfl
    have hE : (L4R.mk 0 ty co re sp dp ns sq ak fl wi ur [] ds).enc src dst = ds := by
      unfold L4R.enc
      rw [if_pos (.inl rfl), hB]
    rw [hB, hE]
    refine (renc_opaque src dst ty co re sp dp ns sq ak fl wi ur [] ds hd fd w HK).mono ?_
    rintro e w' ⟨a, cap, rfl, hb, _, hl⟩
    exact ⟨a, cap, rfl, hb, hl⟩
  · obtain ⟨h1, -, -, h3, -, -, -, -, -, h2⟩ := h
    simp only at h1 h2 h3
    subst h1 h2 h3
    have hd : ds.length ≤ 65507 := by
      have : fixV 1 + (([] : List Int).length : Int) + ds.length ≤ 65515 := hall
      rw [show fixV 1 = 8 from rfl] at this
      simp at this; omega
    have hB : (L4R.mk 1 ty co re sp dp false sq ak fl wi ur [] ds).body = [ty, co, 0, 0] ++ be re 4 ++ ds := by
      show headL 1 ty co re sp dp sq ak fl wi ur 0 ds.length ++ [] ++ ds = _
      unfold headL
      rw [if_pos rfl, be_one ty hty, be_one co hco, be_zero2]
      simp
    have hE : (L4R.mk 1 ty co re sp dp false sq ak fl wi ur [] ds).enc src dst = setC src dst 1 ([ty, co, 0, 0] ++ be re 4 ++ ds) := by
      unfold L4R.enc
      rw [if_neg (by simp), hB]
    have hN : (L4R.mk 1 ty co re sp dp false sq ak fl wi ur [] ds).body.length = 8 + ds.length := by rw [hB]; simp [be_len]; omega
    rw [hN, hE]
    refine (renc_icmp src dst ty co re sp dp false sq ak fl wi ur [] ds hty hco hre hd fd w HK).mono ?_
    rintro e w' ⟨a, cap, rfl, hb, _, hl⟩
    exact ⟨a, cap, rfl, hb, hl⟩
  · obtain ⟨h1, -, -, -, -, -, -, -, -, h2⟩ := h
    simp only at h1 h2
    subst h1 h2
    have hd : ds.length ≤ 65507 := by
      have : fixV 2 + (([] : List Int).length : Int) + ds.length ≤ 65515 := hall
      rw [show fixV 2 = 8 from rfl] at this
      simp at this; omega
    have hB : (L4R.mk 2 ty co re sp dp ns sq ak fl wi ur [] ds).body = be sp 2 ++ be dp 2 ++ be (8 + (ds.length : Int)) 2 ++ [0, 0] ++ ds := by
      show headL 2 ty co re sp dp sq ak fl wi ur 0 ds.length ++ [] ++ ds = _
      unfold headL
      rw [if_neg (by omega), if_pos rfl, be_zero2, List.append_nil]
      rfl
    have hE : (L4R.mk 2 ty co re sp dp ns sq ak fl wi ur [] ds).enc src dst = if ns = true then be sp 2 ++ be dp 2 ++ be (8 + (ds.length : Int)) 2 ++ [0, 0] ++ ds else setC src dst 2 (be sp 2 ++ be dp 2 ++ be (8 + (ds.length : Int)) 2 ++ [0, 0] ++ ds) := by
      unfold L4R.enc
      rw [hB]
      cases ns
      · rw [if_neg (by simp), if_neg (by simp)]
      · rw [if_pos (.inr rfl), if_pos rfl]
    have hN : (L4R.mk 2 ty co re sp dp ns sq ak fl wi ur [] ds).body.length = 8 + ds.length := by rw [hB]; simp [be_len]; omega
    rw [hN, hE]
    refine (renc_udp src dst hs ht ty co re sp dp ns sq ak fl wi ur [] ds hsp hdp hd fd w HK).mono ?_
    rintro e w' ⟨a, cap, rfl, hb, _, hl⟩
    exact ⟨a, cap, rfl, hb, hl⟩
  · obtain ⟨h1, -, -, -, h3⟩ := h
    simp only at h1 h3
    subst h1 h3
    have hd : ds.length ≤ 65495 := by
      have : fixV 3 + (os.length : Int) + ds.length ≤ 65515 := hall
      rw [show fixV 3 = 20 from rfl] at this
      omega
    have hB : (L4R.mk 3 ty co re sp dp false sq ak fl wi ur os ds).body = be sp 2 ++ be dp 2 ++ be sq 4 ++ be ak 4 ++ be ((5 + (os.length : Int) / 4) * 4096 + fl) 2 ++ be wi 2 ++ [0, 0] ++ be ur 2 ++ os ++ ds := by
      show headL 3 ty co re sp dp sq ak fl wi ur os.length ds.length ++ os ++ ds = _
      unfold headL
      rw [if_neg (by omega), if_neg (by omega), if_pos rfl, be_zero2, show (20 + (os.length : Int)) / 4 = 5 + (os.length : Int) / 4 by omega]
      rfl
    have hE : (L4R.mk 3 ty co re sp dp false sq ak fl wi ur os ds).enc src dst = setC src dst 3 (be sp 2 ++ be dp 2 ++ be sq 4 ++ be ak 4 ++ be ((5 + (os.length : Int) / 4) * 4096 + fl) 2 ++ be wi 2 ++ [0, 0] ++ be ur 2 ++ os ++ ds) := by
      unfold L4R.enc
      rw [if_neg (by simp), hB]
    have hN : (L4R.mk 3 ty co re sp dp false sq ak fl wi ur os ds).body.length = 20 + os.length + ds.length := by rw [hB]; simp [be_len]; omega
    rw [hN, hE]
    refine (renc_tcp src dst hs ht ty co re sp dp false sq ak fl wi ur os ds hsp hdp hsq hak hfl hwi hur ho40 hd fo fd _ rfl w HK).mono ?_
    rintro e w' ⟨a, cap, rfl, hb, _, hl⟩
    exact ⟨a, cap, rfl, hb, hl⟩
end Go.Proofs.Ytanilaofhaelkaa
