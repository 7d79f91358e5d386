/- What headOf of package l4 answers on a UDP packet that fits. Conditions: as said. -/
import Derived.Test.YtajabhffpeckhabL4e
namespace Go.Proofs.Ytajabhffpeckhab
open Go.RowKit

theorem fits_cons {x : Int} {l : List Int} (hx : 0 ≤ x ∧ x ≤ 255) (h : ∀ i, 0 ≤ l.getD i 0 ∧ l.getD i 0 ≤ 255) : ∀ i, 0 ≤ (x :: l).getD i 0 ∧ (x :: l).getD i 0 ≤ 255 := by
  intro i
  cases i with
  | zero => simpa using hx
  | succ i => simpa using h i
theorem own_keep {W W' : World} {base : Nat} {e : TypeId} {v : Value} {n : Nat} {xs : List Value} (h : W.ownsRow base e 1 v n xs) (hb : Below W.heap.size W W') : W'.ownsRow base e 1 v n xs := by
  obtain ⟨h1, h2⟩ := h
  refine ⟨h1, ?_⟩
  rcases h2 with h2 | ⟨g, cap, cur, e1, e2, e3, e4⟩
  · exact .inl h2
  · exact .inr ⟨g, cap, cur, e1, e2, (hb.block g (lt_of_block e3)).trans e3, e4⟩
theorem Enc.keep {w0 W W' : World} {p : Nat} {xs : List Int} (h : Enc w0 W p xs) (hb : Below W.heap.size W W') : Enc w0 W' p xs := by
  obtain ⟨h1, h2, a, cap, h3, h4⟩ := h
  exact ⟨h1.trans (hb.mono h1.size), h2, a, cap, (hb.block p (lt_of_block h3)).trans h3, own_keep h4 hb⟩

def udpHead (sp dp : Int) (n : Nat) : List Int := [sp / 256, sp % 256, dp / 256, dp % 256, (8 + (n : Int)) / 256, (8 + (n : Int)) % 256, 0, 0]

theorem pre_udp {sp dp : Int} {n : Nat} (h1 : 0 ≤ sp ∧ sp ≤ 65535) (h2 : 0 ≤ dp ∧ dp ≤ 65535) (hn : n ≤ 65507) : [] ++ be sp (2 : Int).toNat ++ be dp (2 : Int).toNat ++ be (8 + (n : Int)) (2 : Int).toNat ++ be 0 (2 : Int).toNat = udpHead sp dp n := by
  have q8 : (2 : Int) ^ (8 * 1) = 256 := by decide
  have q0 : (2 : Int) ^ (8 * 0) = 1 := by decide
  simp only [Int.reduceToNat, be, udpHead, List.nil_append, List.cons_append, List.cons.injEq, q0, q8]
  refine ⟨by omega, by omega, by omega, by omega, by omega, by omega, by omega, by omega, trivial⟩

set_option maxHeartbeats 2000000 in
theorem head_udp (sp dp : Int) (ns : Bool) (ds : List Int) (w : World) (h1 : 0 ≤ sp ∧ sp ≤ 65535) (h2 : 0 ≤ dp ∧ dp ≤ 65535) (hd : ds.length ≤ 65507) :
    Calls Try.prog 17 #[l4V 2 0 0 0 sp dp ns 0 0 0 0 0 [] ds] w fun e w' => ∃ a cap, e = .returned (.slice a 8 cap) ∧ BS w' a 8 (udpHead sp dp ds.length) ∧ Below w.heap.size w w' := by
  have hfx : fixV 2 + (([] : List Int).length : Int) + ds.length = 8 + ds.length := by simp [fixV]
  have hdI : (ds.length : Int) ≤ 65507 := by omega
  have hmk : ∀ w, (Instr.makeSlice 25 (.int .i64 0) (.int .i64 20)).run Try.prog w = .ok (.slice (some ⟨w.heap.size, 0, none⟩) 0 20) (w.alloc (.cells (madeCells #[.int .u8 0] 20) 5)) := fun w => make_bytes w 20 (by omega)
  rw [udpV]
  go_enter Try.func17, Try.ntmps17
  go_wp2_with fail
  clear hmk
  have he := enc_start (w.alloc (.cells #[.int .i64 2, .int .i64 0, .int .i64 0, .int .u32 0, .int .i64 sp, .int .i64 dp, .bool ns, .int .u32 0, .int .u32 0, .int .i64 0, .int .i64 0, .int .i64 0, .string ⟨#[]⟩, .string (strOfNums ds)] 24)) (madeCells #[.int .u8 0] 20) 20 (w.heap.size + 1 + 1) (w.heap.size + 1) (by simp) (by simp) (by simp [size_madeCells]) (by omega)
  have hA : Hid (AtB (w.alloc (.cells #[.int .i64 2, .int .i64 0, .int .i64 0, .int .u32 0, .int .i64 sp, .int .i64 dp, .bool ns, .int .u32 0, .int .u32 0, .int .i64 0, .int .i64 0, .int .i64 0, .string ⟨#[]⟩, .string (strOfNums ds)] 24)) w.heap.size #[.int .i64 2, .int .i64 0, .int .i64 0, .int .u32 0, .int .i64 sp, .int .i64 dp, .bool ns, .int .u32 0, .int .u32 0, .int .i64 0, .int .i64 0, .int .i64 0, .string ⟨#[]⟩, .string (strOfNums ds)]) := atB_new w #[.int .i64 2, .int .i64 0, .int .i64 0, .int .u32 0, .int .i64 sp, .int .i64 dp, .bool ns, .int .u32 0, .int .u32 0, .int .i64 0, .int .i64 0, .int .i64 0, .string ⟨#[]⟩, .string (strOfNums ds)] 24 _ rfl
  have hbw := below1 w (.cells #[.int .i64 2, .int .i64 0, .int .i64 0, .int .u32 0, .int .i64 sp, .int .i64 dp, .bool ns, .int .u32 0, .int .u32 0, .int .i64 0, .int .i64 0, .int .i64 0, .string ⟨#[]⟩, .string (strOfNums ds)] 24)
  have hw2 : (w.alloc (.cells #[.int .i64 2, .int .i64 0, .int .i64 0, .int .u32 0, .int .i64 sp, .int .i64 dp, .bool ns, .int .u32 0, .int .u32 0, .int .i64 0, .int .i64 0, .int .i64 0, .string ⟨#[]⟩, .string (strOfNums ds)] 24)).heap.size = w.heap.size + 1 := by simp
  generalize (w.alloc (.cells #[.int .i64 2, .int .i64 0, .int .i64 0, .int .u32 0, .int .i64 sp, .int .i64 dp, .bool ns, .int .u32 0, .int .u32 0, .int .i64 0, .int .i64 0, .int .i64 0, .string ⟨#[]⟩, .string (strOfNums ds)] 24)) = w2 at he hA hbw hw2 ⊢
  refine (put_lit _ _ _ _ he (by simp) sp (by omega) 2 (by omega) (by omega)).mono ?_
  clear he
  rintro e W1 ⟨rfl, p1⟩
  have E1 : Hid _ := p1
  obtain ⟨x0, x1, x2, x3, x4, x5, x6, x7, x8, x9, x10, x11, x12, x13⟩ := AtB.fourteen (AtB.below hA.out p1.bel)
  clear p1
  go_wp2_with fail
  clear x0 x1 x2 x3 x4 x5 x6 x7 x8 x9 x10 x11 x12 x13
  refine (put_lit _ _ _ _ E1.out (by simp [be_len]) dp (by omega) 2 (by omega) (by omega)).mono ?_
  clear E1
  rintro e W2 ⟨rfl, p2⟩
  have E2 : Hid _ := p2
  obtain ⟨x0, x1, x2, x3, x4, x5, x6, x7, x8, x9, x10, x11, x12, x13⟩ := AtB.fourteen (AtB.below hA.out p2.bel)
  clear p2
  go_wp2_with fail
  clear x0 x1 x2 x3 x4 x5 x6 x7 x8 x9 x10 x11 x12 x13
  rw [← udpV]
  refine (sizeOf_any _ _ _ _ _ _ _ _ _ _ _ _ _ _ _ (by simp) (by omega)).mono ?_
  rw [hfx, udpV]
  rintro e W3 ⟨rfl, hb3⟩
  have E3 : Hid _ := E2.out.keep hb3
  clear E2 hb3
  go_wp2_with fail
  refine (put_lit _ _ _ _ E3.out (by simp [be_len]) (8 + (ds.length : Int)) (by omega) 2 (by omega) (by omega)).mono ?_
  clear E3
  rintro e W4 ⟨rfl, p4⟩
  have E4 : Hid _ := p4
  clear p4
  go_wp2_with fail
  refine (put_lit _ _ _ _ E4.out (by simp [be_len]) 0 (by omega) 2 (by omega) (by omega)).mono ?_
  clear E4
  rintro e W5 ⟨rfl, p5⟩
  rw [pre_udp h1 h2 hd] at p5
  have hbel := p5.bel
  obtain ⟨a, cap, hc, hr⟩ := p5.row
  have hcc := cell_of_one hc
  have HR : Hid (W5.ownsRow w2.heap.size 5 1 (.slice a 8 cap) 8 ((udpHead sp dp ds.length).map (Value.int .u8))) := hr
  clear p5 hc hr
  have hcc' : W5.cell? ⟨w.heap.size + 1 + 1, 0, none⟩ = some (.slice a 8 cap) := hcc
  clear hcc
  go_wp2
  go_ret
  refine ⟨a, cap, rfl, own_bs HR.out (fits_cons (by omega) (fits_cons (by omega) (fits_cons (by omega) (fits_cons (by omega) (fits_cons (by omega) (fits_cons (by omega) (fits_cons (by omega) (fits_cons (by omega) (fun i => by simp))))))))) (by omega), hbw.trans (hbel.mono (by omega))⟩
end Go.Proofs.Ytajabhffpeckhab
