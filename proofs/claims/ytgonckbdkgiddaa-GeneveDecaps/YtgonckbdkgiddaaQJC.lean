/- The document's Encap. Conditions: the options can be read. -/
import Derived.Test.YtgonckbdkgiddaaDF
import Derived.Test.YtgonckbdkgiddaaDY
import Derived.Test.YtgonckbdkgiddaaQJD
namespace Go.Proofs.Ytgonckbdkgiddaa
open Go.RowKit
set_option maxRecDepth 20000
set_option linter.unusedSimpArgs false
theorem up_two {p q : Int} {z : Option Nat} {g : Nat} {C : Array Value} {w1 W : World} {v : Value} {n : Nat} {xs : List Int} (h : Up p q z g C w1 W v n xs) (x : Int) (hx : 0 ≤ x ∧ x ≤ 18446744073709551615) :
    Calls Try.prog 21 #[.int .u64 x, .int .i64 2] W fun e w' => ∃ a, e = .returned (.slice a 2 2) ∧ Up p q z g C w1 w' v n xs ∧ BS w' a 2 (be x 2) := by
  refine (made2 x hx W).mono ?_
  rintro e w' ⟨rfl, rfl⟩
  exact ⟨_, rfl, h.alloc _, own_bs (own_made W _ _ x (Nat.le_refl _) (by omega)) (be_bd _ _) (by omega)⟩
theorem step_append_upt {p q : Int} {z : Option Nat} {g : Nat} {C : Array Value} {w1 w : World} {ops : Array Oper} {o : Oper} {act : Act} {K : Act → World → Prop} {Q : Exit → Act → World → Prop} {E : Prop} (hgd : o.guard = none) (s x : Operand)
    (ho : o.op = .call { callee := .builtin .append, args := #[s, x], argTypes := #[26, 9] })
    (v : Value) (n : Nat) (xs : List Int) (hs : act.eval s = v) (hr : Up p q z g C w1 w v n xs)
    (zs : List Int) (hf : Fit zs) (hx : act.eval x = .string (strOfNums zs)) (hsum : n + zs.length ≤ 140737488355328)
    (h : ∀ a' cap' w', RB w1 w' (.slice a' (n + zs.length) cap') (n + zs.length) (xs ++ zs) → w'.heap[g]? = some (.cells C 38 (0, 0)) → K (act.put o.dst (.slice a' (n + zs.length) cap')) w') :
    if Region.wanted o (yielded ops act.tmps) = true then Oper.wp Try.prog o act w K Q else E := by
  have hw : Region.wanted o (yielded ops act.tmps) = true := by simp [Region.wanted, hgd]
  rw [if_pos hw]
  obtain ⟨i0, hi, hz0, hz1, hz2⟩ := info_parts info5
  have hsz := strOfNums_size zs
  obtain ⟨v', w', hrun, h2, h3, _⟩ := Lib.run_append_own_string (P := Try.prog) w w1.heap.size 26 9 o.type 5 i0 Try.underlying26 Try.underlying9 hi hz0 hz1 hz2 v n _ hr.rb.own (strOfNums zs) (by rw [hsz]; unfold maxLen; omega) (by rw [hsz]; omega) hr.rb.bel.size
  rw [hsz, strCells_nums hf, ← List.map_append] at h2
  obtain ⟨a', cap', rfl, _⟩ := own_form h2
  unfold Oper.wp execOp
  simp only [ho, resolve, invoke, builtin, Sem.run_bind, Sem.run_pure, Result.andThen_ok, List.map_toArray, List.map_cons, List.map_nil, hs, hx, hrun]
  refine h a' cap' w' (rb_step hr.rb h2 h3) ?_
  rw [h3.block g (heap_lt9 hr.op) (fun e => row_apartO hr.rb.own hr.op e.symm)]
  exact hr.op
theorem be_one9 (x : Int) (h : 0 ≤ x ∧ x ≤ 255) : be x 1 = [x] := by
  simp only [be]
  rw [show (2 : Int) ^ (8 * 0) = 1 from by decide]
  simp; omega
/-- What the document's Encap answers. -/
def REnc (src dst sp vni : Int) (oam : Bool) (os : List Opt) (fr : List Int) (w : World) (e : Ending) (w' : World) : Prop :=
  Below w.heap.size w w' ∧ ((chkE sp vni os fr.length ≠ 0 ∧ e = .returned (.tuple #[.slice none 0 0, .int .i64 (chkE sp vni os fr.length)])) ∨
    (chkE sp vni os fr.length = 0 ∧ ∃ a cap, e = .returned (.tuple #[.slice a (encB src dst sp vni oam os fr).length cap, .int .i64 0]) ∧ BS w' a (encB src dst sp vni oam os fr).length (encB src dst sp vni oam os fr)))
theorem REnc.no {src dst sp vni : Int} {oam : Bool} {os : List Opt} {fr : List Int} {w w' : World} {f : Int} (hE : chkE sp vni os fr.length = f) (hf : f ≠ 0) (hb : Below w.heap.size w w') : REnc src dst sp vni oam os fr w (.returned (.tuple #[.slice none 0 0, .int .i64 f])) w' :=
  ⟨hb, .inl ⟨by rw [hE]; exact hf, by rw [hE]⟩⟩
theorem chk_bad {sp vni : Int} {os : List Opt} {m : Nat} (h : os.all optG = true → szO os ≤ 252 → False) : chkE sp vni os m = 1 := by
  unfold chkE
  split
  · split
    · rename_i h2
      rw [if_neg (fun h3 => h h2 h3)]
    · rfl
  · rfl
theorem chk_long {sp vni : Int} {os : List Opt} {m : Nat} (h1 : fit16 sp = true) (h2 : 0 ≤ vni ∧ vni ≤ 16777215) (h3 : os.all optG = true) (h4 : szO os ≤ 252) : chkE sp vni os m = if m ≤ 9018 then 0 else 3 := by
  unfold chkE
  rw [if_pos ⟨h1, h2⟩, if_pos h3, if_pos h4]
theorem optG_of {o : Opt} (h : optG o = true) : (0 ≤ o.cls ∧ o.cls ≤ 65535) ∧ (0 ≤ o.code ∧ o.code ≤ 255) ∧ o.data.length ≤ 124 ∧ o.data.length % 4 = 0 := by
  unfold optG at h
  simp only [Bool.and_eq_true, decide_eq_true_eq] at h
  exact ⟨fit16_bd h.1, fit8_bd h.2.1, h.2.2.1, h.2.2.2⟩
theorem optG_mk {o : Opt} (h1 : 0 ≤ o.cls ∧ o.cls ≤ 65535) (h2 : 0 ≤ o.code ∧ o.code ≤ 255) (h3 : o.data.length ≤ 124) (h4 : o.data.length % 4 = 0) : optG o = true := by
  unfold optG
  simp only [Bool.and_eq_true, decide_eq_true_eq]
  refine ⟨?_, ?_, h3, h4⟩
  · unfold fit16; simp; omega
  · unfold fit8; simp; omega
theorem three_next {w1 W : World} {v : Value} {n : Nat} {xs : List Int} (h : RB w1 W v n xs) (x : Int) (hx : 0 ≤ x ∧ x ≤ 18446744073709551615) :
    Calls Try.prog 21 #[.int .u64 x, .int .i64 3] W fun e w' => ∃ a, e = .returned (.slice a 3 3) ∧ RB w1 w' v n xs ∧ BS w' a 3 (be x 3) := bytes_next made3 (by decide) h x hx
theorem rb_four (w : World) (x y z u : Int) : RB w (w.alloc (.cells #[.int .u8 x, .int .u8 y, .int .u8 z, .int .u8 u] 5)) (.slice (some ⟨w.heap.size, 0, none⟩) 4 4) 4 [x, y, z, u] :=
  ⟨⟨rfl, .inr ⟨w.heap.size, 4, _, rfl, Nat.le_refl _, heap_alloc_new w _, Nat.le_refl _, by unfold maxLen; omega, rfl, rfl⟩⟩, below1 _ _⟩
theorem pay_four {vni : Int} {oam : Bool} {os : List Opt} {fr : List Int} {n4 f : Int} (h4 : szO os / 4 = n4) (hn : 0 ≤ n4 ∧ n4 ≤ 255) (hf : flV oam (os.any critB) = f) : payB vni oam os fr = [n4, f, 101, 88] ++ be vni 3 ++ [0] ++ opsB os ++ fr := by
  have hfl := flV_bd oam (os.any critB)
  unfold payB hdB
  rw [h4, hf, be_one9 n4 hn, be_one9 f (by omega), show be 25944 2 = [101, 88] from by decide +kernel, show be 0 1 = [0] from by decide +kernel]
  simp only [List.append_assoc, List.cons_append, List.nil_append]
theorem REnc.yes {src dst sp vni : Int} {oam : Bool} {os : List Opt} {fr : List Int} {w w' : World} (hE : chkE sp vni os fr.length = 0) (hb : Below w.heap.size w w') {a : Option Addr} {cap n : Nat} {L : List Int} (hL : encB src dst sp vni oam os fr = L) (hn : L.length = n) (h : BS w' a n L) : REnc src dst sp vni oam os fr w (.returned (.tuple #[.slice a n cap, .int .i64 0])) w' :=
  ⟨hb, .inr ⟨hE, a, cap, by rw [hL, hn], by rw [hL, hn]; exact h⟩⟩
theorem rb_none (w : World) : RB w w (.slice none 0 0) 0 [] := ⟨⟨rfl, .inl ⟨rfl, rfl⟩⟩, Below.refl _ _⟩
theorem encB_fit9 (src dst sp vni : Int) (oam : Bool) (os : List Opt) (fr : List Int) (hfo : ∀ o ∈ os, Fit o.data) (hff : Fit fr) (hs : 0 ≤ src ∧ src ≤ 4294967295) (hd : 0 ≤ dst ∧ dst ≤ 4294967295) (hE : chkE sp vni os fr.length = 0) : Fit (encB src dst sp vni oam os fr) := by
  obtain ⟨p1, p2, p3, p4, p5⟩ := chk_parts hE
  have hpl := payB_len vni oam os fr
  have hsn := szO_nn os
  have hul : (udpB sp vni oam os fr).length = 8 + (payB vni oam os fr).length := udp_body_len sp _
  have hpf := payB_fit vni oam os fr hfo hff
  have hok : Ip.encOk 0 0 16384 64 17 ([] : List Int).length ((udpB sp vni oam os fr).length : Int) = true := by
    unfold Ip.encOk
    rw [show Ip.headOk 0 0 16384 64 17 ([] : List Int).length = true from by decide +kernel]
    simp; omega
  exact fits_app (Ip.ipB_bd (Ip.encOk_yes hok) hs hd (fun i => by simp)) (L4R.body_fits (udp_fine sp _ hpf (by omega)))
set_option maxHeartbeats 4000000 in
theorem rencap_any (src dst sp vni : Int) (oam : Bool) (a : Option Addr) (n cap : Nat) (os : List Opt) (fr : List Int) (w : World) (h : OS w a n os) (hs0 : 0 ≤ src ∧ src ≤ 4294967295) (hd : 0 ≤ dst ∧ dst ≤ 4294967295) (hff : Fit fr) :
    Calls Try.prog 8 #[.agg (tnC src dst sp vni oam a n cap fr)] w fun e w' => REnc src dst sp vni oam os fr w e w' := by
  unfold tnC
  have hl := h.len
  have hr := h.room
  have hfs := strOfNums_size fr
  have H : Hid (OS (w.alloc (.cells #[.int .u32 src, .int .u32 dst, .int .i64 sp, .int .i64 vni, .bool oam, .slice a n cap, .string (strOfNums fr)] 25)) a n os) := h.below (below1 w _)
  have A0 : Hid ((w.alloc (.cells #[.int .u32 src, .int .u32 dst, .int .i64 sp, .int .i64 vni, .bool oam, .slice a n cap, .string (strOfNums fr)] 25)).heap[w.heap.size]? = some (.cells #[.int .u32 src, .int .u32 dst, .int .i64 sp, .int .i64 vni, .bool oam, .slice a n cap, .string (strOfNums fr)] 25 (0, 0))) := heap_alloc_new w _
  have BW : Hid (Below w.heap.size w (w.alloc (.cells #[.int .u32 src, .int .u32 dst, .int .i64 sp, .int .i64 vni, .bool oam, .slice a n cap, .string (strOfNums fr)] 25))) := below1 w _
  have HFO : Hid (∀ o ∈ os, Fit o.data) := fun o ho => (h.fits o ho).1
  clear h
  have hspl : sp < 0 ∨ 65535 < sp ∨ (0 ≤ sp ∧ sp ≤ 65535) := by omega
  have hvnl : vni < 0 ∨ 16777216 ≤ vni ∨ (0 ≤ vni ∧ vni ≤ 16777215) := by omega
  have HN : Hid ((¬ (fit16 sp = true ∧ 0 ≤ vni ∧ vni ≤ 16777215)) → chkE sp vni os fr.length = 1) := fun hb => by show _ = _; unfold chkE; rw [if_neg hb]
  go_enter Try.func8, Try.ntmps8
  obtain ⟨x0, x1, x2, x3, x4, x5, x6⟩ := seven A0.out
  rcases hspl with hq | hq | hq
  · have HE : Hid (chkE sp vni os fr.length = 1) := HN.out (fun hb => by have := fit16_bd hb.1; omega)
    clear hvnl
    go_wp2
    go_ret2
    exact REnc.no HE.out (by decide) BW.out
  · have HE : Hid (chkE sp vni os fr.length = 1) := HN.out (fun hb => by have := fit16_bd hb.1; omega)
    have hq2 : ¬ sp < 0 := by omega
    clear hvnl
    go_wp2
    go_ret2
    exact REnc.no HE.out (by decide) BW.out
  have q1 : ¬ sp < 0 := by omega
  have q2 : ¬ 65535 < sp := by omega
  rcases hvnl with hv | hv | hv
  · have HE : Hid (chkE sp vni os fr.length = 1) := HN.out (fun hb => by omega)
    go_wp2
    go_ret2
    exact REnc.no HE.out (by decide) BW.out
  · have HE : Hid (chkE sp vni os fr.length = 1) := HN.out (fun hb => by omega)
    have hq2 : ¬ vni < 0 := by omega
    go_wp2
    go_ret2
    exact REnc.no HE.out (by decide) BW.out
  have q3 : ¬ vni < 0 := by omega
  have q4 : ¬ 16777216 ≤ vni := by omega
  have HSP : Hid (fit16 sp = true) := by show _ = _; unfold fit16; simp; omega
  clear HN
  go_wp2_with fail
  obtain ⟨w0, hw0⟩ : ∃ V, w.alloc (.cells #[.int .u32 src, .int .u32 dst, .int .i64 sp, .int .i64 vni, .bool oam, .slice a n cap, .string (strOfNums fr)] 25) = V := ⟨_, rfl⟩
  rw [hw0] at H A0 BW x0 x1 x2 x3 x4 x5 x6 ⊢
  clear hw0
  go_loopw [4, 5, 6] (fun o c i wr => ∃ (k : Nat) (ao : Option Addr) (co N : Nat), k ≤ n ∧ i = .int .i64 k ∧ c = .bool ((os.take k).any critB) ∧ o = .slice ao N co ∧ RB w0 wr (.slice ao N co) N (opsB (os.take k)) ∧ (os.take k).all optG = true ∧ szO (os.take k) ≤ 252) (fun _ _ i _ => n - (intOf i).toNat)
  case atStart => exact ⟨0, none, 0, 0, by omega, rfl, rfl, rfl, rb_none w0, rfl, by simp [szO]⟩
  case round =>
    obtain ⟨k, ao, co, N, hk, rfl, rfl, rfl, hR, hG, hZ⟩ := hrel
    have RK : Hid _ := hR
    have HGk : Hid _ := hG
    have HZk : Hid _ := hZ
    clear x0 x1 x2 x3 x4 x5 x6
    obtain ⟨x0, x1, x2, x3, x4, x5, x6⟩ := seven ((hR.bel.block _ (Ca.lt_of_heap A0.out)).trans A0.out)
    clear hR hG hZ
    by_cases hlt : k = n
    · have e0 : ¬ (k : Int) < (n : Int) := by omega
      have HS : Hid (os.take k = os) := List.take_of_length_le (by omega)
      clear hlt
      rw [HS.out] at HGk HZk
      have RK2 := RK.out
      rw [HS.out] at RK2
      have HE : chkE sp vni os fr.length = if fr.length ≤ 9018 then 0 else 3 := chk_long HSP.out hv HGk.out HZk.out
      have HNs : Hid ((N : Int) = szO os) := by
        show _ = _
        have h9 := RK2.own.1
        have h8 := opsB_len os
        simp at h9
        omega
      have HB9 : Hid (Below w.heap.size w wr) := BW.out.trans (RK.out.bel.mono BW.out.size)
      by_cases hL : (9018 : Int) < (fr.length : Int)
      · have HE3 : Hid (chkE sp vni os fr.length = 3) := by show _ = _; rw [HE, if_neg (by omega)]
        clear RK2 HE RK HGk HZk HS HNs
        go_wp2
        go_ret2
        exact REnc.no HE3.out (by decide) HB9.out
      have HE0 : Hid (chkE sp vni os fr.length = 0) := by show _ = _; rw [HE, if_pos (by omega)]
      have SO : Hid (BS wr ao N (opsB os)) := RK2.bs (opsB_fit os HFO.out) (by have := HNs.out; have := HZk.out; omega)
      have KC : Hid (∀ W, Below wr.heap.size wr W → W.heap[w.heap.size]? = some (.cells #[.int .u32 src, .int .u32 dst, .int .i64 sp, .int .i64 vni, .bool oam, .slice a n cap, .string (strOfNums fr)] 25 (0, 0))) := fun W hb => by
        have h0 := (RK.out.bel.block _ (Ca.lt_of_heap A0.out)).trans A0.out
        exact (hb.block _ (Ca.lt_of_heap h0)).trans h0
      have hNb : (N : Int) ≤ 252 := by have := HNs.out; have := HZk.out; omega
      have HCR : Hid (os.any critB = (os.take k).any critB) := by show _ = _; rw [HS.out]
      have HN4a : Hid (szO os / 4 = (N : Int) / 4) := by show _ = _; rw [HNs.out]
      obtain ⟨cp, hcp⟩ : ∃ c, (os.take k).any critB = c := ⟨_, rfl⟩
      rw [hcp] at HCR ⊢
      have hn4 : 0 ≤ (N : Int) / 4 ∧ (N : Int) / 4 ≤ 63 := by omega
      obtain ⟨n4, hn4e⟩ : ∃ q, (N : Int) / 4 = q := ⟨_, rfl⟩
      rw [hn4e] at HN4a hn4
      have HN4 : Hid _ := HN4a.out
      have hw0 : IntKind.u64.wrap vni = vni := by simp [IntKind.wrap, IntKind.bits, IntKind.signed]; omega
      have hw3 : IntKind.i64.wrap n4 = n4 := by simp [IntKind.wrap, IntKind.bits, IntKind.signed]; omega
      have hw2 : IntKind.u8.wrap n4 = n4 := by simp [IntKind.wrap, IntKind.bits, IntKind.signed]; omega
      have hnw : ¬ w.heap.size = wr.heap.size := by
        have h1 := Ca.lt_of_heap A0.out
        have h2 := RK.out.bel.size
        omega
      clear HE RK2 hcp HS HN4a HGk
      cases oam
      · cases cp
        · have HPAY : Hid (payB vni false os fr = [n4, 0, 101, 88] ++ be vni 3 ++ [0] ++ opsB os ++ fr) := pay_four HN4.out (by omega) (by rw [HCR.out]; rfl)
          clear HCR x0 x1 x2 x3 x4 x5
          have hfz := x6
          clear x6
          obtain ⟨x0, x1, x2, x3, x4, x5, x6⟩ := seven (KC.out wr (Below.refl _ _))
          obtain ⟨z0, z1, z2, z3, z4, z5, z6⟩ := seven (KC.out (wr.alloc (.cells #[.int .u8 n4, .int .u8 0, .int .u8 101, .int .u8 88] 5)) (below1 wr _))
          clear hfz
          go_wp2_with fail
          clear z0 z1 z2 z3 z4 z5 z6
          refine (three_next (rb_four wr n4 0 101 88) vni (by omega)).mono ?_
          rintro e W1 ⟨a1, rfl, u, b⟩
          have U1 : Hid (RB wr W1 (.slice (some ⟨wr.heap.size, 0, none⟩) 4 4) 4 [n4, 0, 101, 88]) := u
          have B1 : Hid (BS W1 a1 3 (be vni 3)) := b
          clear u b
          go_wp2_with (at_builtin; refine wpList_append_rb Try.underlying26 info5 (by rfl) _ _ rfl _ 4 [n4, 0, 101, 88] rfl U1.out _ 3 3 (be vni 3) rfl B1.out (by omega) ?_)
          intro a2 c2 W2 u
          have U2 : Hid (RB wr W2.drew (.slice a2 7 c2) 7 ([n4, 0, 101, 88] ++ be vni 3)) := u.drew
          clear u U1 B1
          go_wp2_with fail
          refine wp_region_held_drew (S := (fun W => W.cell? ⟨w.heap.size, 6, none⟩ = some (.string (strOfNums fr)))) (by kernel_rfl) ?_ (fun hHeld => ?_)
          · exact (seven (KC.out _ U2.out.bel)).2.2.2.2.2.2
          obtain ⟨VD, hVD⟩ : ∃ V', W2.drew = V' := ⟨_, rfl⟩
          rw [hVD] at U2 hHeld ⊢
          clear hVD
          refine wpAnyH_take (i := 0) (v := ?_) rfl (by kernel_rfl) (by kernel_rfl) (by kernel_rfl) (fun _ _ _ h => h) (Or.inl ⟨by rfl, ?_⟩) (by assumption) ?_
          rotate_left
          · (intro w hSw; (try dsimp only at hSw); go_simp; try with_reducible rfl)
          try simp only [List.getElem_toArray, List.getElem_cons_zero, List.getElem_cons_succ, Act.put, List.setIfInBounds_toArray, List.set_cons_zero, List.set_cons_succ]
          refine wpAnyH_take (i := 3) (v := ?_) rfl (by kernel_rfl) (by kernel_rfl) (by kernel_rfl) (fun _ _ _ h => h) (Or.inl ⟨by rfl, ?_⟩) (by assumption) ?_
          rotate_left
          · (intro w hSw; (try dsimp only at hSw); go_simp; try with_reducible rfl)
          try simp only [List.getElem_toArray, List.getElem_cons_zero, List.getElem_cons_succ, Act.put, List.setIfInBounds_toArray, List.set_cons_zero, List.set_cons_succ]
          refine wpAnyH_take (i := 5) (v := ?_) rfl (by kernel_rfl) (by kernel_rfl) (by kernel_rfl) (fun _ _ _ h => h) (Or.inl ⟨by rfl, ?_⟩) (by assumption) ?_
          rotate_left
          · (intro w hSw; (try dsimp only at hSw); go_simp; try with_reducible rfl)
          try simp only [List.getElem_toArray, List.getElem_cons_zero, List.getElem_cons_succ, Act.put, List.setIfInBounds_toArray, List.set_cons_zero, List.set_cons_succ]
          refine wpAnyH_take (i := 6) (v := ?_) rfl (by kernel_rfl) (by kernel_rfl) (by kernel_rfl) (fun _ _ _ h => h) (Or.inl ⟨by rfl, ?_⟩) (by assumption) ?_
          rotate_left
          · (intro w hSw; (try dsimp only at hSw); go_simp; try with_reducible rfl)
          try simp only [List.getElem_toArray, List.getElem_cons_zero, List.getElem_cons_succ, Act.put, List.setIfInBounds_toArray, List.set_cons_zero, List.set_cons_succ]
          refine wpAnyH_ready (rs := [1]) (by kernel_rfl) (by simp) ?_
          refine AllReadyH.cons (o := _) rfl (fun K hK => ?_) AllReadyH.nil
          go_simp
          have U4 : Hid (RB wr (VD.alloc (.cells #[.int .u8 0] 5)) (.slice a2 7 c2) 7 ([n4, 0, 101, 88] ++ be vni 3)) := ⟨U2.out.own.alloc _, U2.out.bel.alloc U2.out.bel.size _⟩
          have B4 : Hid (BS (VD.alloc (.cells #[.int .u8 0] 5)) (some ⟨VD.heap.size, 0, none⟩) 1 [0]) := bs_one VD 0 _ rfl (by omega)
          clear U2
          refine hK _ _ ((seven (KC.out _ U4.out.bel)).2.2.2.2.2.2) (fun hHeld => ?_)
          try simp only [List.getElem_toArray, List.getElem_cons_zero, List.getElem_cons_succ, Act.put, List.setIfInBounds_toArray, List.set_cons_zero, List.set_cons_succ]
          refine wpAnyH_ready (rs := [2]) (by kernel_rfl) (by simp) ?_
          refine AllReadyH.cons (o := _) rfl (fun K hK => ?_) AllReadyH.nil
          refine step_append_rb Try.underlying26 info5 rfl (.tmp 124) (.tmp 125) rfl _ 7 ([n4, 0, 101, 88] ++ be vni 3) rfl U4.out _ 1 1 [0] rfl B4.out (by omega) ?_
          intro a5 c5 V5 u
          have U5 : Hid (RB wr V5 (.slice a5 8 c5) 8 ([n4, 0, 101, 88] ++ be vni 3 ++ [0])) := u
          clear u U4 B4
          refine hK _ _ ((seven (KC.out _ U5.out.bel)).2.2.2.2.2.2) (fun hHeld => ?_)
          try simp only [List.getElem_toArray, List.getElem_cons_zero, List.getElem_cons_succ, Act.put, List.setIfInBounds_toArray, List.set_cons_zero, List.set_cons_succ]
          refine wpAnyH_ready (rs := [4]) (by kernel_rfl) (by simp) ?_
          refine AllReadyH.cons (o := _) rfl (fun K hK => ?_) AllReadyH.nil
          refine step_append_rb Try.underlying26 info5 rfl (.tmp 126) (.tmp 127) rfl _ 8 ([n4, 0, 101, 88] ++ be vni 3 ++ [0]) rfl U5.out _ N co (opsB os) rfl (SO.out.below U5.out.bel) (by omega) ?_
          intro a6 c6 V6 u
          have U6 : Hid (RB wr V6 (.slice a6 (8 + N) c6) (8 + N) ([n4, 0, 101, 88] ++ be vni 3 ++ [0] ++ opsB os)) := u
          clear u U5
          refine hK _ _ ((seven (KC.out _ U6.out.bel)).2.2.2.2.2.2) (fun hHeld => ?_)
          try simp only [List.getElem_toArray, List.getElem_cons_zero, List.getElem_cons_succ, Act.put, List.setIfInBounds_toArray, List.set_cons_zero, List.set_cons_succ]
          refine wpAnyH_ready (rs := [7]) (by kernel_rfl) (by simp) ?_
          refine AllReadyH.cons (o := _) rfl (fun K hK => ?_) AllReadyH.nil
          refine step_append_upstr Try.underlying26 Try.underlying9 info5 rfl (.tmp 128) (.tmp 130) rfl _ (8 + N) ([n4, 0, 101, 88] ++ be vni 3 ++ [0] ++ opsB os) rfl U6.out fr hff rfl (by omega) ?_
          intro a7 c7 V7 u
          have U7a : Hid (RB wr V7 (.slice a7 (8 + N + fr.length) c7) (8 + N + fr.length) ([n4, 0, 101, 88] ++ be vni 3 ++ [0] ++ opsB os ++ fr)) := u
          clear u U6
          refine hK _ _ ((seven (KC.out _ U7a.out.bel)).2.2.2.2.2.2) (fun hHeld => ?_)
          try simp only [List.getElem_toArray, List.getElem_cons_zero, List.getElem_cons_succ, Act.put, List.setIfInBounds_toArray, List.set_cons_zero, List.set_cons_succ]
          refine wpAnyH_take (i := 8) (v := ?_) rfl (by kernel_rfl) (by kernel_rfl) (by kernel_rfl) (fun _ _ _ h => h) (Or.inl ⟨by rfl, ?_⟩) (by assumption) ?_
          rotate_left
          · (intro w hSw; (try dsimp only at hSw); go_simp; try with_reducible rfl)
          try simp only [List.getElem_toArray, List.getElem_cons_zero, List.getElem_cons_succ, Act.put, List.setIfInBounds_toArray, List.set_cons_zero, List.set_cons_succ]
          refine wpAnyH_done (by kernel_rfl) ?_ _
          clear hHeld SO
          try simp only [List.getElem_toArray, List.getElem_cons_zero, List.getElem_cons_succ, Act.put, List.setIfInBounds_toArray, List.set_cons_zero, List.set_cons_succ]
          rw [← HPAY.out] at U7a
          obtain ⟨pay, hpay⟩ : ∃ p, payB vni false os fr = p := ⟨_, rfl⟩
          have hpl := payB_len vni false os fr
          have hpf : Fit pay := by rw [← hpay]; exact payB_fit vni false os fr HFO.out hff
          rw [hpay] at U7a HPAY hpl
          obtain ⟨m7, hm7⟩ : ∃ m, 8 + N + fr.length = m := ⟨_, rfl⟩
          rw [hm7] at U7a ⊢
          have hpl2 : pay.length ≤ 10000 := by have := HZk.out; omega
          have hm8 : m7 ≤ 10000 := by have := HNs.out; have := HZk.out; omega
          have HPY : Hid _ := hpay
          have BP : Hid (BS V7 a7 m7 pay) := U7a.out.bs hpf (by omega)
          have cv := run_conv_bs (P := Try.prog) c7 BP.out 26 9 5 Try.underlying26 Try.underlying5 Try.underlying9
          have AV : Hid (V7.heap[w.heap.size]? = some (.cells #[.int .u32 src, .int .u32 dst, .int .i64 sp, .int .i64 vni, .bool false, .slice a n cap, .string (strOfNums fr)] 25 (0, 0))) := KC.out _ U7a.out.bel
          have BV : Hid (Below w.heap.size w V7) := BW.out.trans ((RK.out.bel.trans (U7a.out.bel.mono RK.out.bel.size)).mono BW.out.size)
          have HM : Hid ((udpR sp pay).body.length ≤ 20000) := by show _ ≤ _; rw [udp_body_len]; omega
          have HEB : Hid (encB src dst sp vni false os fr = Ip.ipB 0 0 16384 64 17 src dst [] ((udpR sp pay).body.length : Int) ++ (udpR sp pay).body) := by show _ = _; unfold encB udpB; rw [HPY.out]
          have hEF : Fit (encB src dst sp vni false os fr) := encB_fit9 src dst sp vni false os fr HFO.out hff hs0 hd HE0.out
          have HEF : Hid _ := hEF
          have hLq : Hid (∀ W, Calls Try.prog 22 #[.int .u32 src, .int .u32 dst, .agg #[.int .i64 2, .int .i64 0, .int .i64 0, .int .u32 0, .int .i64 sp, .int .i64 6081, .bool true, .int .u32 0, .int .u32 0, .int .i64 0, .int .i64 0, .int .i64 0, .string ⟨#[]⟩, .string (strOfNums pay)]] W fun e w' => ∃ a cap, e = .returned (.tuple #[.slice a (udpR sp pay).body.length cap, .int .i64 0]) ∧ BS w' a (udpR sp pay).body.length (udpR sp pay).body ∧ Below W.heap.size W w') := fun W => rencode_udp src dst sp pay hs0 hd HSP.out hpf hpl2 W
          have hIq : Hid (∀ W, Calls Try.prog 23 #[.agg #[.int .i64 0, .int .i64 0, .int .i64 16384, .int .i64 64, .int .i64 17, .int .u32 src, .int .u32 dst, .string ⟨#[]⟩], .int .i64 ((udpR sp pay).body.length : Int)] W fun e w' => ∃ a cap, e = .returned (.tuple #[.slice a 20 cap, .int .i64 0]) ∧ w'.ownsRow W.heap.size 5 1 (.slice a 20 cap) 20 ((Ip.ipB 0 0 16384 64 17 src dst [] ((udpR sp pay).body.length : Int)).map (Value.int .u8)) ∧ Below W.heap.size W w') := fun W => Ip.rencode_own 0 0 16384 64 17 src dst [] ((udpR sp pay).body.length : Int) W hs0 hd (fun i => by simp) (by have := HM.out; unfold Ip.encOk; rw [show Ip.headOk 0 0 16384 64 17 ([] : List Int).length = true from by decide +kernel]; simp; omega)
          have hipl : (Ip.ipB 0 0 16384 64 17 src dst [] ((udpR sp pay).body.length : Int)).length = 20 := rfl
          have HIL : Hid _ := hipl
          obtain ⟨D, hD⟩ : ∃ D, (udpR sp pay).body = D := ⟨_, rfl⟩
          rw [hD] at HM HEB hLq hIq HIL
          obtain ⟨M, hMM⟩ : ∃ M, D.length = M := ⟨_, rfl⟩
          rw [hMM] at HM HEB hLq hIq HIL
          obtain ⟨J, hJ⟩ : ∃ J, Ip.ipB 0 0 16384 64 17 src dst [] (M : Int) = J := ⟨_, rfl⟩
          rw [hJ] at HEB hIq HIL
          have HMM : Hid _ := hMM
          obtain ⟨i0, hi, hz0, hz1, hz2⟩ := info_parts info5
          clear hpl hpf hpl2 hipl hD hJ hMM U7a HPAY HPY BP hpay KC hEF
          obtain ⟨y0, y1, y2, y3, y4, y5, y6⟩ := seven AV.out
          go_wp2_with fail
          refine (hLq.out _).mono ?_
          rintro e W8 ⟨a8, c8, rfl, b8, l8⟩
          have S8 : Hid _ := b8
          have B8 : Hid (Below w.heap.size w W8) := BV.out.trans (l8.mono BV.out.size)
          have A8 : Hid _ := (l8.block _ (Ca.lt_of_heap AV.out)).trans AV.out
          clear b8 l8 y0 y1 y2 y3 y4 y5 y6 cv AV BV hLq
          obtain ⟨y0, y1, y2, y3, y4, y5, y6⟩ := seven A8.out
          go_wp2_with fail
          refine (hIq.out _).mono ?_
          rintro e W9 ⟨a9, c9, rfl, o9, l9⟩
          have S9 : Hid _ := S8.out.below l9
          have B9 : Hid (Below w.heap.size w W9) := B8.out.trans (l9.mono B8.out.size)
          have O9 : Hid _ := o9
          have L9 : Hid _ := l9
          clear o9 l9 y0 y1 y2 y3 y4 y5 y6 S8 hIq
          go_wp2_with (at_builtin; refine wpList_append_bs (by rfl) _ _ 26 rfl W8.heap.size 5 i0 Try.underlying26 hi hz0 hz1 hz2 _ 20 J rfl O9.out _ M c8 D rfl S9.out (by have := HM.out; omega) L9.out.size ?_)
          intro a' cap' w' h1 h2
          rw [← List.map_append] at h1
          have HB2 : Hid (Below w.heap.size w w') := B8.out.trans ((L9.out.grown h2 L9.out.size (fun k hk => (World.ownsRow.lt O9.out k hk).1)).mono B8.out.size)
          have HBS : Hid (BS w' a' (20 + M) (J ++ D)) := own_bs h1 (by rw [← HEB.out]; exact HEF.out) (by have := HM.out; omega)
          clear h1 h2
          go_wp2
          go_ret2
          exact REnc.yes HE0.out HB2.out HEB.out (by rw [List.length_append, HIL.out, HMM.out]) HBS.out
        · have HPAY : Hid (payB vni false os fr = [n4, 64, 101, 88] ++ be vni 3 ++ [0] ++ opsB os ++ fr) := pay_four HN4.out (by omega) (by rw [HCR.out]; rfl)
          clear HCR x0 x1 x2 x3 x4 x5
          have hfz := x6
          clear x6
          obtain ⟨x0, x1, x2, x3, x4, x5, x6⟩ := seven (KC.out wr (Below.refl _ _))
          obtain ⟨z0, z1, z2, z3, z4, z5, z6⟩ := seven (KC.out (wr.alloc (.cells #[.int .u8 n4, .int .u8 64, .int .u8 101, .int .u8 88] 5)) (below1 wr _))
          clear hfz
          go_wp2_with fail
          clear z0 z1 z2 z3 z4 z5 z6
          refine (three_next (rb_four wr n4 64 101 88) vni (by omega)).mono ?_
          rintro e W1 ⟨a1, rfl, u, b⟩
          have U1 : Hid (RB wr W1 (.slice (some ⟨wr.heap.size, 0, none⟩) 4 4) 4 [n4, 64, 101, 88]) := u
          have B1 : Hid (BS W1 a1 3 (be vni 3)) := b
          clear u b
          go_wp2_with (at_builtin; refine wpList_append_rb Try.underlying26 info5 (by rfl) _ _ rfl _ 4 [n4, 64, 101, 88] rfl U1.out _ 3 3 (be vni 3) rfl B1.out (by omega) ?_)
          intro a2 c2 W2 u
          have U2 : Hid (RB wr W2.drew (.slice a2 7 c2) 7 ([n4, 64, 101, 88] ++ be vni 3)) := u.drew
          clear u U1 B1
          go_wp2_with fail
          refine wp_region_held_drew (S := (fun W => W.cell? ⟨w.heap.size, 6, none⟩ = some (.string (strOfNums fr)))) (by kernel_rfl) ?_ (fun hHeld => ?_)
          · exact (seven (KC.out _ U2.out.bel)).2.2.2.2.2.2
          obtain ⟨VD, hVD⟩ : ∃ V', W2.drew = V' := ⟨_, rfl⟩
          rw [hVD] at U2 hHeld ⊢
          clear hVD
          refine wpAnyH_take (i := 0) (v := ?_) rfl (by kernel_rfl) (by kernel_rfl) (by kernel_rfl) (fun _ _ _ h => h) (Or.inl ⟨by rfl, ?_⟩) (by assumption) ?_
          rotate_left
          · (intro w hSw; (try dsimp only at hSw); go_simp; try with_reducible rfl)
          try simp only [List.getElem_toArray, List.getElem_cons_zero, List.getElem_cons_succ, Act.put, List.setIfInBounds_toArray, List.set_cons_zero, List.set_cons_succ]
          refine wpAnyH_take (i := 3) (v := ?_) rfl (by kernel_rfl) (by kernel_rfl) (by kernel_rfl) (fun _ _ _ h => h) (Or.inl ⟨by rfl, ?_⟩) (by assumption) ?_
          rotate_left
          · (intro w hSw; (try dsimp only at hSw); go_simp; try with_reducible rfl)
          try simp only [List.getElem_toArray, List.getElem_cons_zero, List.getElem_cons_succ, Act.put, List.setIfInBounds_toArray, List.set_cons_zero, List.set_cons_succ]
          refine wpAnyH_take (i := 5) (v := ?_) rfl (by kernel_rfl) (by kernel_rfl) (by kernel_rfl) (fun _ _ _ h => h) (Or.inl ⟨by rfl, ?_⟩) (by assumption) ?_
          rotate_left
          · (intro w hSw; (try dsimp only at hSw); go_simp; try with_reducible rfl)
          try simp only [List.getElem_toArray, List.getElem_cons_zero, List.getElem_cons_succ, Act.put, List.setIfInBounds_toArray, List.set_cons_zero, List.set_cons_succ]
          refine wpAnyH_take (i := 6) (v := ?_) rfl (by kernel_rfl) (by kernel_rfl) (by kernel_rfl) (fun _ _ _ h => h) (Or.inl ⟨by rfl, ?_⟩) (by assumption) ?_
          rotate_left
          · (intro w hSw; (try dsimp only at hSw); go_simp; try with_reducible rfl)
          try simp only [List.getElem_toArray, List.getElem_cons_zero, List.getElem_cons_succ, Act.put, List.setIfInBounds_toArray, List.set_cons_zero, List.set_cons_succ]
          refine wpAnyH_ready (rs := [1]) (by kernel_rfl) (by simp) ?_
          refine AllReadyH.cons (o := _) rfl (fun K hK => ?_) AllReadyH.nil
          go_simp
          have U4 : Hid (RB wr (VD.alloc (.cells #[.int .u8 0] 5)) (.slice a2 7 c2) 7 ([n4, 64, 101, 88] ++ be vni 3)) := ⟨U2.out.own.alloc _, U2.out.bel.alloc U2.out.bel.size _⟩
          have B4 : Hid (BS (VD.alloc (.cells #[.int .u8 0] 5)) (some ⟨VD.heap.size, 0, none⟩) 1 [0]) := bs_one VD 0 _ rfl (by omega)
          clear U2
          refine hK _ _ ((seven (KC.out _ U4.out.bel)).2.2.2.2.2.2) (fun hHeld => ?_)
          try simp only [List.getElem_toArray, List.getElem_cons_zero, List.getElem_cons_succ, Act.put, List.setIfInBounds_toArray, List.set_cons_zero, List.set_cons_succ]
          refine wpAnyH_ready (rs := [2]) (by kernel_rfl) (by simp) ?_
          refine AllReadyH.cons (o := _) rfl (fun K hK => ?_) AllReadyH.nil
          refine step_append_rb Try.underlying26 info5 rfl (.tmp 124) (.tmp 125) rfl _ 7 ([n4, 64, 101, 88] ++ be vni 3) rfl U4.out _ 1 1 [0] rfl B4.out (by omega) ?_
          intro a5 c5 V5 u
          have U5 : Hid (RB wr V5 (.slice a5 8 c5) 8 ([n4, 64, 101, 88] ++ be vni 3 ++ [0])) := u
          clear u U4 B4
          refine hK _ _ ((seven (KC.out _ U5.out.bel)).2.2.2.2.2.2) (fun hHeld => ?_)
          try simp only [List.getElem_toArray, List.getElem_cons_zero, List.getElem_cons_succ, Act.put, List.setIfInBounds_toArray, List.set_cons_zero, List.set_cons_succ]
          refine wpAnyH_ready (rs := [4]) (by kernel_rfl) (by simp) ?_
          refine AllReadyH.cons (o := _) rfl (fun K hK => ?_) AllReadyH.nil
          refine step_append_rb Try.underlying26 info5 rfl (.tmp 126) (.tmp 127) rfl _ 8 ([n4, 64, 101, 88] ++ be vni 3 ++ [0]) rfl U5.out _ N co (opsB os) rfl (SO.out.below U5.out.bel) (by omega) ?_
          intro a6 c6 V6 u
          have U6 : Hid (RB wr V6 (.slice a6 (8 + N) c6) (8 + N) ([n4, 64, 101, 88] ++ be vni 3 ++ [0] ++ opsB os)) := u
          clear u U5
          refine hK _ _ ((seven (KC.out _ U6.out.bel)).2.2.2.2.2.2) (fun hHeld => ?_)
          try simp only [List.getElem_toArray, List.getElem_cons_zero, List.getElem_cons_succ, Act.put, List.setIfInBounds_toArray, List.set_cons_zero, List.set_cons_succ]
          refine wpAnyH_ready (rs := [7]) (by kernel_rfl) (by simp) ?_
          refine AllReadyH.cons (o := _) rfl (fun K hK => ?_) AllReadyH.nil
          refine step_append_upstr Try.underlying26 Try.underlying9 info5 rfl (.tmp 128) (.tmp 130) rfl _ (8 + N) ([n4, 64, 101, 88] ++ be vni 3 ++ [0] ++ opsB os) rfl U6.out fr hff rfl (by omega) ?_
          intro a7 c7 V7 u
          have U7a : Hid (RB wr V7 (.slice a7 (8 + N + fr.length) c7) (8 + N + fr.length) ([n4, 64, 101, 88] ++ be vni 3 ++ [0] ++ opsB os ++ fr)) := u
          clear u U6
          refine hK _ _ ((seven (KC.out _ U7a.out.bel)).2.2.2.2.2.2) (fun hHeld => ?_)
          try simp only [List.getElem_toArray, List.getElem_cons_zero, List.getElem_cons_succ, Act.put, List.setIfInBounds_toArray, List.set_cons_zero, List.set_cons_succ]
          refine wpAnyH_take (i := 8) (v := ?_) rfl (by kernel_rfl) (by kernel_rfl) (by kernel_rfl) (fun _ _ _ h => h) (Or.inl ⟨by rfl, ?_⟩) (by assumption) ?_
          rotate_left
          · (intro w hSw; (try dsimp only at hSw); go_simp; try with_reducible rfl)
          try simp only [List.getElem_toArray, List.getElem_cons_zero, List.getElem_cons_succ, Act.put, List.setIfInBounds_toArray, List.set_cons_zero, List.set_cons_succ]
          refine wpAnyH_done (by kernel_rfl) ?_ _
          clear hHeld SO
          try simp only [List.getElem_toArray, List.getElem_cons_zero, List.getElem_cons_succ, Act.put, List.setIfInBounds_toArray, List.set_cons_zero, List.set_cons_succ]
          rw [← HPAY.out] at U7a
          obtain ⟨pay, hpay⟩ : ∃ p, payB vni false os fr = p := ⟨_, rfl⟩
          have hpl := payB_len vni false os fr
          have hpf : Fit pay := by rw [← hpay]; exact payB_fit vni false os fr HFO.out hff
          rw [hpay] at U7a HPAY hpl
          obtain ⟨m7, hm7⟩ : ∃ m, 8 + N + fr.length = m := ⟨_, rfl⟩
          rw [hm7] at U7a ⊢
          have hpl2 : pay.length ≤ 10000 := by have := HZk.out; omega
          have hm8 : m7 ≤ 10000 := by have := HNs.out; have := HZk.out; omega
          have HPY : Hid _ := hpay
          have BP : Hid (BS V7 a7 m7 pay) := U7a.out.bs hpf (by omega)
          have cv := run_conv_bs (P := Try.prog) c7 BP.out 26 9 5 Try.underlying26 Try.underlying5 Try.underlying9
          have AV : Hid (V7.heap[w.heap.size]? = some (.cells #[.int .u32 src, .int .u32 dst, .int .i64 sp, .int .i64 vni, .bool false, .slice a n cap, .string (strOfNums fr)] 25 (0, 0))) := KC.out _ U7a.out.bel
          have BV : Hid (Below w.heap.size w V7) := BW.out.trans ((RK.out.bel.trans (U7a.out.bel.mono RK.out.bel.size)).mono BW.out.size)
          have HM : Hid ((udpR sp pay).body.length ≤ 20000) := by show _ ≤ _; rw [udp_body_len]; omega
          have HEB : Hid (encB src dst sp vni false os fr = Ip.ipB 0 0 16384 64 17 src dst [] ((udpR sp pay).body.length : Int) ++ (udpR sp pay).body) := by show _ = _; unfold encB udpB; rw [HPY.out]
          have hEF : Fit (encB src dst sp vni false os fr) := encB_fit9 src dst sp vni false os fr HFO.out hff hs0 hd HE0.out
          have HEF : Hid _ := hEF
          have hLq : Hid (∀ W, Calls Try.prog 22 #[.int .u32 src, .int .u32 dst, .agg #[.int .i64 2, .int .i64 0, .int .i64 0, .int .u32 0, .int .i64 sp, .int .i64 6081, .bool true, .int .u32 0, .int .u32 0, .int .i64 0, .int .i64 0, .int .i64 0, .string ⟨#[]⟩, .string (strOfNums pay)]] W fun e w' => ∃ a cap, e = .returned (.tuple #[.slice a (udpR sp pay).body.length cap, .int .i64 0]) ∧ BS w' a (udpR sp pay).body.length (udpR sp pay).body ∧ Below W.heap.size W w') := fun W => rencode_udp src dst sp pay hs0 hd HSP.out hpf hpl2 W
          have hIq : Hid (∀ W, Calls Try.prog 23 #[.agg #[.int .i64 0, .int .i64 0, .int .i64 16384, .int .i64 64, .int .i64 17, .int .u32 src, .int .u32 dst, .string ⟨#[]⟩], .int .i64 ((udpR sp pay).body.length : Int)] W fun e w' => ∃ a cap, e = .returned (.tuple #[.slice a 20 cap, .int .i64 0]) ∧ w'.ownsRow W.heap.size 5 1 (.slice a 20 cap) 20 ((Ip.ipB 0 0 16384 64 17 src dst [] ((udpR sp pay).body.length : Int)).map (Value.int .u8)) ∧ Below W.heap.size W w') := fun W => Ip.rencode_own 0 0 16384 64 17 src dst [] ((udpR sp pay).body.length : Int) W hs0 hd (fun i => by simp) (by have := HM.out; unfold Ip.encOk; rw [show Ip.headOk 0 0 16384 64 17 ([] : List Int).length = true from by decide +kernel]; simp; omega)
          have hipl : (Ip.ipB 0 0 16384 64 17 src dst [] ((udpR sp pay).body.length : Int)).length = 20 := rfl
          have HIL : Hid _ := hipl
          obtain ⟨D, hD⟩ : ∃ D, (udpR sp pay).body = D := ⟨_, rfl⟩
          rw [hD] at HM HEB hLq hIq HIL
          obtain ⟨M, hMM⟩ : ∃ M, D.length = M := ⟨_, rfl⟩
          rw [hMM] at HM HEB hLq hIq HIL
          obtain ⟨J, hJ⟩ : ∃ J, Ip.ipB 0 0 16384 64 17 src dst [] (M : Int) = J := ⟨_, rfl⟩
          rw [hJ] at HEB hIq HIL
          have HMM : Hid _ := hMM
          obtain ⟨i0, hi, hz0, hz1, hz2⟩ := info_parts info5
          clear hpl hpf hpl2 hipl hD hJ hMM U7a HPAY HPY BP hpay KC hEF
          obtain ⟨y0, y1, y2, y3, y4, y5, y6⟩ := seven AV.out
          go_wp2_with fail
          refine (hLq.out _).mono ?_
          rintro e W8 ⟨a8, c8, rfl, b8, l8⟩
          have S8 : Hid _ := b8
          have B8 : Hid (Below w.heap.size w W8) := BV.out.trans (l8.mono BV.out.size)
          have A8 : Hid _ := (l8.block _ (Ca.lt_of_heap AV.out)).trans AV.out
          clear b8 l8 y0 y1 y2 y3 y4 y5 y6 cv AV BV hLq
          obtain ⟨y0, y1, y2, y3, y4, y5, y6⟩ := seven A8.out
          go_wp2_with fail
          refine (hIq.out _).mono ?_
          rintro e W9 ⟨a9, c9, rfl, o9, l9⟩
          have S9 : Hid _ := S8.out.below l9
          have B9 : Hid (Below w.heap.size w W9) := B8.out.trans (l9.mono B8.out.size)
          have O9 : Hid _ := o9
          have L9 : Hid _ := l9
          clear o9 l9 y0 y1 y2 y3 y4 y5 y6 S8 hIq
          go_wp2_with (at_builtin; refine wpList_append_bs (by rfl) _ _ 26 rfl W8.heap.size 5 i0 Try.underlying26 hi hz0 hz1 hz2 _ 20 J rfl O9.out _ M c8 D rfl S9.out (by have := HM.out; omega) L9.out.size ?_)
          intro a' cap' w' h1 h2
          rw [← List.map_append] at h1
          have HB2 : Hid (Below w.heap.size w w') := B8.out.trans ((L9.out.grown h2 L9.out.size (fun k hk => (World.ownsRow.lt O9.out k hk).1)).mono B8.out.size)
          have HBS : Hid (BS w' a' (20 + M) (J ++ D)) := own_bs h1 (by rw [← HEB.out]; exact HEF.out) (by have := HM.out; omega)
          clear h1 h2
          go_wp2
          go_ret2
          exact REnc.yes HE0.out HB2.out HEB.out (by rw [List.length_append, HIL.out, HMM.out]) HBS.out
      · cases cp
        · have HPAY : Hid (payB vni true os fr = [n4, 128, 101, 88] ++ be vni 3 ++ [0] ++ opsB os ++ fr) := pay_four HN4.out (by omega) (by rw [HCR.out]; rfl)
          clear HCR x0 x1 x2 x3 x4 x5
          have hfz := x6
          clear x6
          obtain ⟨x0, x1, x2, x3, x4, x5, x6⟩ := seven (KC.out wr (Below.refl _ _))
          obtain ⟨z0, z1, z2, z3, z4, z5, z6⟩ := seven (KC.out (wr.alloc (.cells #[.int .u8 n4, .int .u8 128, .int .u8 101, .int .u8 88] 5)) (below1 wr _))
          clear hfz
          go_wp2_with fail
          clear z0 z1 z2 z3 z4 z5 z6
          refine (three_next (rb_four wr n4 128 101 88) vni (by omega)).mono ?_
          rintro e W1 ⟨a1, rfl, u, b⟩
          have U1 : Hid (RB wr W1 (.slice (some ⟨wr.heap.size, 0, none⟩) 4 4) 4 [n4, 128, 101, 88]) := u
          have B1 : Hid (BS W1 a1 3 (be vni 3)) := b
          clear u b
          go_wp2_with (at_builtin; refine wpList_append_rb Try.underlying26 info5 (by rfl) _ _ rfl _ 4 [n4, 128, 101, 88] rfl U1.out _ 3 3 (be vni 3) rfl B1.out (by omega) ?_)
          intro a2 c2 W2 u
          have U2 : Hid (RB wr W2.drew (.slice a2 7 c2) 7 ([n4, 128, 101, 88] ++ be vni 3)) := u.drew
          clear u U1 B1
          go_wp2_with fail
          refine wp_region_held_drew (S := (fun W => W.cell? ⟨w.heap.size, 6, none⟩ = some (.string (strOfNums fr)))) (by kernel_rfl) ?_ (fun hHeld => ?_)
          · exact (seven (KC.out _ U2.out.bel)).2.2.2.2.2.2
          obtain ⟨VD, hVD⟩ : ∃ V', W2.drew = V' := ⟨_, rfl⟩
          rw [hVD] at U2 hHeld ⊢
          clear hVD
          refine wpAnyH_take (i := 0) (v := ?_) rfl (by kernel_rfl) (by kernel_rfl) (by kernel_rfl) (fun _ _ _ h => h) (Or.inl ⟨by rfl, ?_⟩) (by assumption) ?_
          rotate_left
          · (intro w hSw; (try dsimp only at hSw); go_simp; try with_reducible rfl)
          try simp only [List.getElem_toArray, List.getElem_cons_zero, List.getElem_cons_succ, Act.put, List.setIfInBounds_toArray, List.set_cons_zero, List.set_cons_succ]
          refine wpAnyH_take (i := 3) (v := ?_) rfl (by kernel_rfl) (by kernel_rfl) (by kernel_rfl) (fun _ _ _ h => h) (Or.inl ⟨by rfl, ?_⟩) (by assumption) ?_
          rotate_left
          · (intro w hSw; (try dsimp only at hSw); go_simp; try with_reducible rfl)
          try simp only [List.getElem_toArray, List.getElem_cons_zero, List.getElem_cons_succ, Act.put, List.setIfInBounds_toArray, List.set_cons_zero, List.set_cons_succ]
          refine wpAnyH_take (i := 5) (v := ?_) rfl (by kernel_rfl) (by kernel_rfl) (by kernel_rfl) (fun _ _ _ h => h) (Or.inl ⟨by rfl, ?_⟩) (by assumption) ?_
          rotate_left
          · (intro w hSw; (try dsimp only at hSw); go_simp; try with_reducible rfl)
          try simp only [List.getElem_toArray, List.getElem_cons_zero, List.getElem_cons_succ, Act.put, List.setIfInBounds_toArray, List.set_cons_zero, List.set_cons_succ]
          refine wpAnyH_take (i := 6) (v := ?_) rfl (by kernel_rfl) (by kernel_rfl) (by kernel_rfl) (fun _ _ _ h => h) (Or.inl ⟨by rfl, ?_⟩) (by assumption) ?_
          rotate_left
          · (intro w hSw; (try dsimp only at hSw); go_simp; try with_reducible rfl)
          try simp only [List.getElem_toArray, List.getElem_cons_zero, List.getElem_cons_succ, Act.put, List.setIfInBounds_toArray, List.set_cons_zero, List.set_cons_succ]
          refine wpAnyH_ready (rs := [1]) (by kernel_rfl) (by simp) ?_
          refine AllReadyH.cons (o := _) rfl (fun K hK => ?_) AllReadyH.nil
          go_simp
          have U4 : Hid (RB wr (VD.alloc (.cells #[.int .u8 0] 5)) (.slice a2 7 c2) 7 ([n4, 128, 101, 88] ++ be vni 3)) := ⟨U2.out.own.alloc _, U2.out.bel.alloc U2.out.bel.size _⟩
          have B4 : Hid (BS (VD.alloc (.cells #[.int .u8 0] 5)) (some ⟨VD.heap.size, 0, none⟩) 1 [0]) := bs_one VD 0 _ rfl (by omega)
          clear U2
          refine hK _ _ ((seven (KC.out _ U4.out.bel)).2.2.2.2.2.2) (fun hHeld => ?_)
          try simp only [List.getElem_toArray, List.getElem_cons_zero, List.getElem_cons_succ, Act.put, List.setIfInBounds_toArray, List.set_cons_zero, List.set_cons_succ]
          refine wpAnyH_ready (rs := [2]) (by kernel_rfl) (by simp) ?_
          refine AllReadyH.cons (o := _) rfl (fun K hK => ?_) AllReadyH.nil
          refine step_append_rb Try.underlying26 info5 rfl (.tmp 124) (.tmp 125) rfl _ 7 ([n4, 128, 101, 88] ++ be vni 3) rfl U4.out _ 1 1 [0] rfl B4.out (by omega) ?_
          intro a5 c5 V5 u
          have U5 : Hid (RB wr V5 (.slice a5 8 c5) 8 ([n4, 128, 101, 88] ++ be vni 3 ++ [0])) := u
          clear u U4 B4
          refine hK _ _ ((seven (KC.out _ U5.out.bel)).2.2.2.2.2.2) (fun hHeld => ?_)
          try simp only [List.getElem_toArray, List.getElem_cons_zero, List.getElem_cons_succ, Act.put, List.setIfInBounds_toArray, List.set_cons_zero, List.set_cons_succ]
          refine wpAnyH_ready (rs := [4]) (by kernel_rfl) (by simp) ?_
          refine AllReadyH.cons (o := _) rfl (fun K hK => ?_) AllReadyH.nil
          refine step_append_rb Try.underlying26 info5 rfl (.tmp 126) (.tmp 127) rfl _ 8 ([n4, 128, 101, 88] ++ be vni 3 ++ [0]) rfl U5.out _ N co (opsB os) rfl (SO.out.below U5.out.bel) (by omega) ?_
          intro a6 c6 V6 u
          have U6 : Hid (RB wr V6 (.slice a6 (8 + N) c6) (8 + N) ([n4, 128, 101, 88] ++ be vni 3 ++ [0] ++ opsB os)) := u
          clear u U5
          refine hK _ _ ((seven (KC.out _ U6.out.bel)).2.2.2.2.2.2) (fun hHeld => ?_)
          try simp only [List.getElem_toArray, List.getElem_cons_zero, List.getElem_cons_succ, Act.put, List.setIfInBounds_toArray, List.set_cons_zero, List.set_cons_succ]
          refine wpAnyH_ready (rs := [7]) (by kernel_rfl) (by simp) ?_
          refine AllReadyH.cons (o := _) rfl (fun K hK => ?_) AllReadyH.nil
          refine step_append_upstr Try.underlying26 Try.underlying9 info5 rfl (.tmp 128) (.tmp 130) rfl _ (8 + N) ([n4, 128, 101, 88] ++ be vni 3 ++ [0] ++ opsB os) rfl U6.out fr hff rfl (by omega) ?_
          intro a7 c7 V7 u
          have U7a : Hid (RB wr V7 (.slice a7 (8 + N + fr.length) c7) (8 + N + fr.length) ([n4, 128, 101, 88] ++ be vni 3 ++ [0] ++ opsB os ++ fr)) := u
          clear u U6
          refine hK _ _ ((seven (KC.out _ U7a.out.bel)).2.2.2.2.2.2) (fun hHeld => ?_)
          try simp only [List.getElem_toArray, List.getElem_cons_zero, List.getElem_cons_succ, Act.put, List.setIfInBounds_toArray, List.set_cons_zero, List.set_cons_succ]
          refine wpAnyH_take (i := 8) (v := ?_) rfl (by kernel_rfl) (by kernel_rfl) (by kernel_rfl) (fun _ _ _ h => h) (Or.inl ⟨by rfl, ?_⟩) (by assumption) ?_
          rotate_left
          · (intro w hSw; (try dsimp only at hSw); go_simp; try with_reducible rfl)
          try simp only [List.getElem_toArray, List.getElem_cons_zero, List.getElem_cons_succ, Act.put, List.setIfInBounds_toArray, List.set_cons_zero, List.set_cons_succ]
          refine wpAnyH_done (by kernel_rfl) ?_ _
          clear hHeld SO
          try simp only [List.getElem_toArray, List.getElem_cons_zero, List.getElem_cons_succ, Act.put, List.setIfInBounds_toArray, List.set_cons_zero, List.set_cons_succ]
          rw [← HPAY.out] at U7a
          obtain ⟨pay, hpay⟩ : ∃ p, payB vni true os fr = p := ⟨_, rfl⟩
          have hpl := payB_len vni true os fr
          have hpf : Fit pay := by rw [← hpay]; exact payB_fit vni true os fr HFO.out hff
          rw [hpay] at U7a HPAY hpl
          obtain ⟨m7, hm7⟩ : ∃ m, 8 + N + fr.length = m := ⟨_, rfl⟩
          rw [hm7] at U7a ⊢
          have hpl2 : pay.length ≤ 10000 := by have := HZk.out; omega
          have hm8 : m7 ≤ 10000 := by have := HNs.out; have := HZk.out; omega
          have HPY : Hid _ := hpay
          have BP : Hid (BS V7 a7 m7 pay) := U7a.out.bs hpf (by omega)
          have cv := run_conv_bs (P := Try.prog) c7 BP.out 26 9 5 Try.underlying26 Try.underlying5 Try.underlying9
          have AV : Hid (V7.heap[w.heap.size]? = some (.cells #[.int .u32 src, .int .u32 dst, .int .i64 sp, .int .i64 vni, .bool true, .slice a n cap, .string (strOfNums fr)] 25 (0, 0))) := KC.out _ U7a.out.bel
          have BV : Hid (Below w.heap.size w V7) := BW.out.trans ((RK.out.bel.trans (U7a.out.bel.mono RK.out.bel.size)).mono BW.out.size)
          have HM : Hid ((udpR sp pay).body.length ≤ 20000) := by show _ ≤ _; rw [udp_body_len]; omega
          have HEB : Hid (encB src dst sp vni true os fr = Ip.ipB 0 0 16384 64 17 src dst [] ((udpR sp pay).body.length : Int) ++ (udpR sp pay).body) := by show _ = _; unfold encB udpB; rw [HPY.out]
          have hEF : Fit (encB src dst sp vni true os fr) := encB_fit9 src dst sp vni true os fr HFO.out hff hs0 hd HE0.out
          have HEF : Hid _ := hEF
          have hLq : Hid (∀ W, Calls Try.prog 22 #[.int .u32 src, .int .u32 dst, .agg #[.int .i64 2, .int .i64 0, .int .i64 0, .int .u32 0, .int .i64 sp, .int .i64 6081, .bool true, .int .u32 0, .int .u32 0, .int .i64 0, .int .i64 0, .int .i64 0, .string ⟨#[]⟩, .string (strOfNums pay)]] W fun e w' => ∃ a cap, e = .returned (.tuple #[.slice a (udpR sp pay).body.length cap, .int .i64 0]) ∧ BS w' a (udpR sp pay).body.length (udpR sp pay).body ∧ Below W.heap.size W w') := fun W => rencode_udp src dst sp pay hs0 hd HSP.out hpf hpl2 W
          have hIq : Hid (∀ W, Calls Try.prog 23 #[.agg #[.int .i64 0, .int .i64 0, .int .i64 16384, .int .i64 64, .int .i64 17, .int .u32 src, .int .u32 dst, .string ⟨#[]⟩], .int .i64 ((udpR sp pay).body.length : Int)] W fun e w' => ∃ a cap, e = .returned (.tuple #[.slice a 20 cap, .int .i64 0]) ∧ w'.ownsRow W.heap.size 5 1 (.slice a 20 cap) 20 ((Ip.ipB 0 0 16384 64 17 src dst [] ((udpR sp pay).body.length : Int)).map (Value.int .u8)) ∧ Below W.heap.size W w') := fun W => Ip.rencode_own 0 0 16384 64 17 src dst [] ((udpR sp pay).body.length : Int) W hs0 hd (fun i => by simp) (by have := HM.out; unfold Ip.encOk; rw [show Ip.headOk 0 0 16384 64 17 ([] : List Int).length = true from by decide +kernel]; simp; omega)
          have hipl : (Ip.ipB 0 0 16384 64 17 src dst [] ((udpR sp pay).body.length : Int)).length = 20 := rfl
          have HIL : Hid _ := hipl
          obtain ⟨D, hD⟩ : ∃ D, (udpR sp pay).body = D := ⟨_, rfl⟩
          rw [hD] at HM HEB hLq hIq HIL
          obtain ⟨M, hMM⟩ : ∃ M, D.length = M := ⟨_, rfl⟩
          rw [hMM] at HM HEB hLq hIq HIL
          obtain ⟨J, hJ⟩ : ∃ J, Ip.ipB 0 0 16384 64 17 src dst [] (M : Int) = J := ⟨_, rfl⟩
          rw [hJ] at HEB hIq HIL
          have HMM : Hid _ := hMM
          obtain ⟨i0, hi, hz0, hz1, hz2⟩ := info_parts info5
          clear hpl hpf hpl2 hipl hD hJ hMM U7a HPAY HPY BP hpay KC hEF
          obtain ⟨y0, y1, y2, y3, y4, y5, y6⟩ := seven AV.out
          go_wp2_with fail
          refine (hLq.out _).mono ?_
          rintro e W8 ⟨a8, c8, rfl, b8, l8⟩
          have S8 : Hid _ := b8
          have B8 : Hid (Below w.heap.size w W8) := BV.out.trans (l8.mono BV.out.size)
          have A8 : Hid _ := (l8.block _ (Ca.lt_of_heap AV.out)).trans AV.out
          clear b8 l8 y0 y1 y2 y3 y4 y5 y6 cv AV BV hLq
          obtain ⟨y0, y1, y2, y3, y4, y5, y6⟩ := seven A8.out
          go_wp2_with fail
          refine (hIq.out _).mono ?_
          rintro e W9 ⟨a9, c9, rfl, o9, l9⟩
          have S9 : Hid _ := S8.out.below l9
          have B9 : Hid (Below w.heap.size w W9) := B8.out.trans (l9.mono B8.out.size)
          have O9 : Hid _ := o9
          have L9 : Hid _ := l9
          clear o9 l9 y0 y1 y2 y3 y4 y5 y6 S8 hIq
          go_wp2_with (at_builtin; refine wpList_append_bs (by rfl) _ _ 26 rfl W8.heap.size 5 i0 Try.underlying26 hi hz0 hz1 hz2 _ 20 J rfl O9.out _ M c8 D rfl S9.out (by have := HM.out; omega) L9.out.size ?_)
          intro a' cap' w' h1 h2
          rw [← List.map_append] at h1
          have HB2 : Hid (Below w.heap.size w w') := B8.out.trans ((L9.out.grown h2 L9.out.size (fun k hk => (World.ownsRow.lt O9.out k hk).1)).mono B8.out.size)
          have HBS : Hid (BS w' a' (20 + M) (J ++ D)) := own_bs h1 (by rw [← HEB.out]; exact HEF.out) (by have := HM.out; omega)
          clear h1 h2
          go_wp2
          go_ret2
          exact REnc.yes HE0.out HB2.out HEB.out (by rw [List.length_append, HIL.out, HMM.out]) HBS.out
        · have HPAY : Hid (payB vni true os fr = [n4, 192, 101, 88] ++ be vni 3 ++ [0] ++ opsB os ++ fr) := pay_four HN4.out (by omega) (by rw [HCR.out]; rfl)
          clear HCR x0 x1 x2 x3 x4 x5
          have hfz := x6
          clear x6
          obtain ⟨x0, x1, x2, x3, x4, x5, x6⟩ := seven (KC.out wr (Below.refl _ _))
          obtain ⟨z0, z1, z2, z3, z4, z5, z6⟩ := seven (KC.out (wr.alloc (.cells #[.int .u8 n4, .int .u8 192, .int .u8 101, .int .u8 88] 5)) (below1 wr _))
          clear hfz
          go_wp2_with fail
          clear z0 z1 z2 z3 z4 z5 z6
          refine (three_next (rb_four wr n4 192 101 88) vni (by omega)).mono ?_
          rintro e W1 ⟨a1, rfl, u, b⟩
          have U1 : Hid (RB wr W1 (.slice (some ⟨wr.heap.size, 0, none⟩) 4 4) 4 [n4, 192, 101, 88]) := u
          have B1 : Hid (BS W1 a1 3 (be vni 3)) := b
          clear u b
          go_wp2_with (at_builtin; refine wpList_append_rb Try.underlying26 info5 (by rfl) _ _ rfl _ 4 [n4, 192, 101, 88] rfl U1.out _ 3 3 (be vni 3) rfl B1.out (by omega) ?_)
          intro a2 c2 W2 u
          have U2 : Hid (RB wr W2.drew (.slice a2 7 c2) 7 ([n4, 192, 101, 88] ++ be vni 3)) := u.drew
          clear u U1 B1
          go_wp2_with fail
          refine wp_region_held_drew (S := (fun W => W.cell? ⟨w.heap.size, 6, none⟩ = some (.string (strOfNums fr)))) (by kernel_rfl) ?_ (fun hHeld => ?_)
          · exact (seven (KC.out _ U2.out.bel)).2.2.2.2.2.2
          obtain ⟨VD, hVD⟩ : ∃ V', W2.drew = V' := ⟨_, rfl⟩
          rw [hVD] at U2 hHeld ⊢
          clear hVD
          refine wpAnyH_take (i := 0) (v := ?_) rfl (by kernel_rfl) (by kernel_rfl) (by kernel_rfl) (fun _ _ _ h => h) (Or.inl ⟨by rfl, ?_⟩) (by assumption) ?_
          rotate_left
          · (intro w hSw; (try dsimp only at hSw); go_simp; try with_reducible rfl)
          try simp only [List.getElem_toArray, List.getElem_cons_zero, List.getElem_cons_succ, Act.put, List.setIfInBounds_toArray, List.set_cons_zero, List.set_cons_succ]
          refine wpAnyH_take (i := 3) (v := ?_) rfl (by kernel_rfl) (by kernel_rfl) (by kernel_rfl) (fun _ _ _ h => h) (Or.inl ⟨by rfl, ?_⟩) (by assumption) ?_
          rotate_left
          · (intro w hSw; (try dsimp only at hSw); go_simp; try with_reducible rfl)
          try simp only [List.getElem_toArray, List.getElem_cons_zero, List.getElem_cons_succ, Act.put, List.setIfInBounds_toArray, List.set_cons_zero, List.set_cons_succ]
          refine wpAnyH_take (i := 5) (v := ?_) rfl (by kernel_rfl) (by kernel_rfl) (by kernel_rfl) (fun _ _ _ h => h) (Or.inl ⟨by rfl, ?_⟩) (by assumption) ?_
          rotate_left
          · (intro w hSw; (try dsimp only at hSw); go_simp; try with_reducible rfl)
          try simp only [List.getElem_toArray, List.getElem_cons_zero, List.getElem_cons_succ, Act.put, List.setIfInBounds_toArray, List.set_cons_zero, List.set_cons_succ]
          refine wpAnyH_take (i := 6) (v := ?_) rfl (by kernel_rfl) (by kernel_rfl) (by kernel_rfl) (fun _ _ _ h => h) (Or.inl ⟨by rfl, ?_⟩) (by assumption) ?_
          rotate_left
          · (intro w hSw; (try dsimp only at hSw); go_simp; try with_reducible rfl)
          try simp only [List.getElem_toArray, List.getElem_cons_zero, List.getElem_cons_succ, Act.put, List.setIfInBounds_toArray, List.set_cons_zero, List.set_cons_succ]
          refine wpAnyH_ready (rs := [1]) (by kernel_rfl) (by simp) ?_
          refine AllReadyH.cons (o := _) rfl (fun K hK => ?_) AllReadyH.nil
          go_simp
          have U4 : Hid (RB wr (VD.alloc (.cells #[.int .u8 0] 5)) (.slice a2 7 c2) 7 ([n4, 192, 101, 88] ++ be vni 3)) := ⟨U2.out.own.alloc _, U2.out.bel.alloc U2.out.bel.size _⟩
          have B4 : Hid (BS (VD.alloc (.cells #[.int .u8 0] 5)) (some ⟨VD.heap.size, 0, none⟩) 1 [0]) := bs_one VD 0 _ rfl (by omega)
          clear U2
          refine hK _ _ ((seven (KC.out _ U4.out.bel)).2.2.2.2.2.2) (fun hHeld => ?_)
          try simp only [List.getElem_toArray, List.getElem_cons_zero, List.getElem_cons_succ, Act.put, List.setIfInBounds_toArray, List.set_cons_zero, List.set_cons_succ]
          refine wpAnyH_ready (rs := [2]) (by kernel_rfl) (by simp) ?_
          refine AllReadyH.cons (o := _) rfl (fun K hK => ?_) AllReadyH.nil
          refine step_append_rb Try.underlying26 info5 rfl (.tmp 124) (.tmp 125) rfl _ 7 ([n4, 192, 101, 88] ++ be vni 3) rfl U4.out _ 1 1 [0] rfl B4.out (by omega) ?_
          intro a5 c5 V5 u
          have U5 : Hid (RB wr V5 (.slice a5 8 c5) 8 ([n4, 192, 101, 88] ++ be vni 3 ++ [0])) := u
          clear u U4 B4
          refine hK _ _ ((seven (KC.out _ U5.out.bel)).2.2.2.2.2.2) (fun hHeld => ?_)
          try simp only [List.getElem_toArray, List.getElem_cons_zero, List.getElem_cons_succ, Act.put, List.setIfInBounds_toArray, List.set_cons_zero, List.set_cons_succ]
          refine wpAnyH_ready (rs := [4]) (by kernel_rfl) (by simp) ?_
          refine AllReadyH.cons (o := _) rfl (fun K hK => ?_) AllReadyH.nil
          refine step_append_rb Try.underlying26 info5 rfl (.tmp 126) (.tmp 127) rfl _ 8 ([n4, 192, 101, 88] ++ be vni 3 ++ [0]) rfl U5.out _ N co (opsB os) rfl (SO.out.below U5.out.bel) (by omega) ?_
          intro a6 c6 V6 u
          have U6 : Hid (RB wr V6 (.slice a6 (8 + N) c6) (8 + N) ([n4, 192, 101, 88] ++ be vni 3 ++ [0] ++ opsB os)) := u
          clear u U5
          refine hK _ _ ((seven (KC.out _ U6.out.bel)).2.2.2.2.2.2) (fun hHeld => ?_)
          try simp only [List.getElem_toArray, List.getElem_cons_zero, List.getElem_cons_succ, Act.put, List.setIfInBounds_toArray, List.set_cons_zero, List.set_cons_succ]
          refine wpAnyH_ready (rs := [7]) (by kernel_rfl) (by simp) ?_
          refine AllReadyH.cons (o := _) rfl (fun K hK => ?_) AllReadyH.nil
          refine step_append_upstr Try.underlying26 Try.underlying9 info5 rfl (.tmp 128) (.tmp 130) rfl _ (8 + N) ([n4, 192, 101, 88] ++ be vni 3 ++ [0] ++ opsB os) rfl U6.out fr hff rfl (by omega) ?_
          intro a7 c7 V7 u
          have U7a : Hid (RB wr V7 (.slice a7 (8 + N + fr.length) c7) (8 + N + fr.length) ([n4, 192, 101, 88] ++ be vni 3 ++ [0] ++ opsB os ++ fr)) := u
          clear u U6
          refine hK _ _ ((seven (KC.out _ U7a.out.bel)).2.2.2.2.2.2) (fun hHeld => ?_)
          try simp only [List.getElem_toArray, List.getElem_cons_zero, List.getElem_cons_succ, Act.put, List.setIfInBounds_toArray, List.set_cons_zero, List.set_cons_succ]
          refine wpAnyH_take (i := 8) (v := ?_) rfl (by kernel_rfl) (by kernel_rfl) (by kernel_rfl) (fun _ _ _ h => h) (Or.inl ⟨by rfl, ?_⟩) (by assumption) ?_
          rotate_left
          · (intro w hSw; (try dsimp only at hSw); go_simp; try with_reducible rfl)
          try simp only [List.getElem_toArray, List.getElem_cons_zero, List.getElem_cons_succ, Act.put, List.setIfInBounds_toArray, List.set_cons_zero, List.set_cons_succ]
          refine wpAnyH_done (by kernel_rfl) ?_ _
          clear hHeld SO
          try simp only [List.getElem_toArray, List.getElem_cons_zero, List.getElem_cons_succ, Act.put, List.setIfInBounds_toArray, List.set_cons_zero, List.set_cons_succ]
          rw [← HPAY.out] at U7a
          obtain ⟨pay, hpay⟩ : ∃ p, payB vni true os fr = p := ⟨_, rfl⟩
          have hpl := payB_len vni true os fr
          have hpf : Fit pay := by rw [← hpay]; exact payB_fit vni true os fr HFO.out hff
          rw [hpay] at U7a HPAY hpl
          obtain ⟨m7, hm7⟩ : ∃ m, 8 + N + fr.length = m := ⟨_, rfl⟩
          rw [hm7] at U7a ⊢
          have hpl2 : pay.length ≤ 10000 := by have := HZk.out; omega
          have hm8 : m7 ≤ 10000 := by have := HNs.out; have := HZk.out; omega
          have HPY : Hid _ := hpay
          have BP : Hid (BS V7 a7 m7 pay) := U7a.out.bs hpf (by omega)
          have cv := run_conv_bs (P := Try.prog) c7 BP.out 26 9 5 Try.underlying26 Try.underlying5 Try.underlying9
          have AV : Hid (V7.heap[w.heap.size]? = some (.cells #[.int .u32 src, .int .u32 dst, .int .i64 sp, .int .i64 vni, .bool true, .slice a n cap, .string (strOfNums fr)] 25 (0, 0))) := KC.out _ U7a.out.bel
          have BV : Hid (Below w.heap.size w V7) := BW.out.trans ((RK.out.bel.trans (U7a.out.bel.mono RK.out.bel.size)).mono BW.out.size)
          have HM : Hid ((udpR sp pay).body.length ≤ 20000) := by show _ ≤ _; rw [udp_body_len]; omega
          have HEB : Hid (encB src dst sp vni true os fr = Ip.ipB 0 0 16384 64 17 src dst [] ((udpR sp pay).body.length : Int) ++ (udpR sp pay).body) := by show _ = _; unfold encB udpB; rw [HPY.out]
          have hEF : Fit (encB src dst sp vni true os fr) := encB_fit9 src dst sp vni true os fr HFO.out hff hs0 hd HE0.out
          have HEF : Hid _ := hEF
          have hLq : Hid (∀ W, Calls Try.prog 22 #[.int .u32 src, .int .u32 dst, .agg #[.int .i64 2, .int .i64 0, .int .i64 0, .int .u32 0, .int .i64 sp, .int .i64 6081, .bool true, .int .u32 0, .int .u32 0, .int .i64 0, .int .i64 0, .int .i64 0, .string ⟨#[]⟩, .string (strOfNums pay)]] W fun e w' => ∃ a cap, e = .returned (.tuple #[.slice a (udpR sp pay).body.length cap, .int .i64 0]) ∧ BS w' a (udpR sp pay).body.length (udpR sp pay).body ∧ Below W.heap.size W w') := fun W => rencode_udp src dst sp pay hs0 hd HSP.out hpf hpl2 W
          have hIq : Hid (∀ W, Calls Try.prog 23 #[.agg #[.int .i64 0, .int .i64 0, .int .i64 16384, .int .i64 64, .int .i64 17, .int .u32 src, .int .u32 dst, .string ⟨#[]⟩], .int .i64 ((udpR sp pay).body.length : Int)] W fun e w' => ∃ a cap, e = .returned (.tuple #[.slice a 20 cap, .int .i64 0]) ∧ w'.ownsRow W.heap.size 5 1 (.slice a 20 cap) 20 ((Ip.ipB 0 0 16384 64 17 src dst [] ((udpR sp pay).body.length : Int)).map (Value.int .u8)) ∧ Below W.heap.size W w') := fun W => Ip.rencode_own 0 0 16384 64 17 src dst [] ((udpR sp pay).body.length : Int) W hs0 hd (fun i => by simp) (by have := HM.out; unfold Ip.encOk; rw [show Ip.headOk 0 0 16384 64 17 ([] : List Int).length = true from by decide +kernel]; simp; omega)
          have hipl : (Ip.ipB 0 0 16384 64 17 src dst [] ((udpR sp pay).body.length : Int)).length = 20 := rfl
          have HIL : Hid _ := hipl
          obtain ⟨D, hD⟩ : ∃ D, (udpR sp pay).body = D := ⟨_, rfl⟩
          rw [hD] at HM HEB hLq hIq HIL
          obtain ⟨M, hMM⟩ : ∃ M, D.length = M := ⟨_, rfl⟩
          rw [hMM] at HM HEB hLq hIq HIL
          obtain ⟨J, hJ⟩ : ∃ J, Ip.ipB 0 0 16384 64 17 src dst [] (M : Int) = J := ⟨_, rfl⟩
          rw [hJ] at HEB hIq HIL
          have HMM : Hid _ := hMM
          obtain ⟨i0, hi, hz0, hz1, hz2⟩ := info_parts info5
          clear hpl hpf hpl2 hipl hD hJ hMM U7a HPAY HPY BP hpay KC hEF
          obtain ⟨y0, y1, y2, y3, y4, y5, y6⟩ := seven AV.out
          go_wp2_with fail
          refine (hLq.out _).mono ?_
          rintro e W8 ⟨a8, c8, rfl, b8, l8⟩
          have S8 : Hid _ := b8
          have B8 : Hid (Below w.heap.size w W8) := BV.out.trans (l8.mono BV.out.size)
          have A8 : Hid _ := (l8.block _ (Ca.lt_of_heap AV.out)).trans AV.out
          clear b8 l8 y0 y1 y2 y3 y4 y5 y6 cv AV BV hLq
          obtain ⟨y0, y1, y2, y3, y4, y5, y6⟩ := seven A8.out
          go_wp2_with fail
          refine (hIq.out _).mono ?_
          rintro e W9 ⟨a9, c9, rfl, o9, l9⟩
          have S9 : Hid _ := S8.out.below l9
          have B9 : Hid (Below w.heap.size w W9) := B8.out.trans (l9.mono B8.out.size)
          have O9 : Hid _ := o9
          have L9 : Hid _ := l9
          clear o9 l9 y0 y1 y2 y3 y4 y5 y6 S8 hIq
          go_wp2_with (at_builtin; refine wpList_append_bs (by rfl) _ _ 26 rfl W8.heap.size 5 i0 Try.underlying26 hi hz0 hz1 hz2 _ 20 J rfl O9.out _ M c8 D rfl S9.out (by have := HM.out; omega) L9.out.size ?_)
          intro a' cap' w' h1 h2
          rw [← List.map_append] at h1
          have HB2 : Hid (Below w.heap.size w w') := B8.out.trans ((L9.out.grown h2 L9.out.size (fun k hk => (World.ownsRow.lt O9.out k hk).1)).mono B8.out.size)
          have HBS : Hid (BS w' a' (20 + M) (J ++ D)) := own_bs h1 (by rw [← HEB.out]; exact HEF.out) (by have := HM.out; omega)
          clear h1 h2
          go_wp2
          go_ret2
          exact REnc.yes HE0.out HB2.out HEB.out (by rw [List.length_append, HIL.out, HMM.out]) HBS.out
    · have hkI : (k : Int) < (n : Int) := by omega
      obtain ⟨o, b, off, ho, rfl, c0, c1', c2', hbl, hfit, hlen⟩ := os_cell (H.out.below RK.out.bel) (show k < n by omega)
      have hs := strOfNums_size o.data
      have HBAD : Hid (optG o = false → chkE sp vni os fr.length = 1) := fun hb => chk_bad fun hall _ => by
        have := List.all_eq_true.1 hall o (List.mem_of_getElem? ho)
        rw [hb] at this; cases this
      have HBAD2 : Hid ((252 : Int) < szO (os.take (k + 1)) → chkE sp vni os fr.length = 1) := fun hb => chk_bad fun _ hz => by
        have := szO_take os (k + 1); omega
      have HALL0 : Hid (optG o = true → (os.take (k + 1)).all optG = true) := fun hb => by
        show _ = _
        rw [take_snocO ho, List.all_append, HGk.out]; simp [hb]
      have HCR0 : Hid ((os.take (k + 1)).any critB = ((os.take k).any critB || critB o)) := by
        show _ = _
        rw [take_snocO ho, List.any_append]; simp
      have HSZ0 : Hid (szO (os.take (k + 1)) = szO (os.take k) + (4 + (o.data.length : Int))) := by
        show _ = _
        rw [take_snocO ho, szO_snoc]
      have HOB0 : Hid (opsB (os.take (k + 1)) = opsB (os.take k) ++ (be o.cls 2 ++ be o.code 1 ++ be ((o.data.length : Int) / 4) 1 ++ o.data)) := by
        show _ = _
        rw [take_snocO ho, opsB_snoc]; rfl
      have HG1 : Hid (optG o = true → _) := fun hb => optG_of hb
      have HG2 : Hid ((0 ≤ o.cls ∧ o.cls ≤ 65535) → (0 ≤ o.code ∧ o.code ≤ 255) → o.data.length ≤ 124 → o.data.length % 4 = 0 → optG o = true) := fun h1 h2 h3 h4 => optG_mk h1 h2 h3 h4
      have HCG : Hid (optG o = true → critB o = decide (128 ≤ o.code)) := fun hb => crit_ge o hb
      have HNk : Hid ((N : Int) = szO (os.take k)) := by
        show _ = _
        have h9 := RK.out.own.1
        have h8 := opsB_len (os.take k)
        simp at h9
        omega
      have hne : ¬ b = wr.heap.size := by omega
      have HB9 : Hid (Below w.heap.size w (wr.alloc (.cells #[.int .i64 o.cls, .int .i64 o.code, .string (strOfNums o.data)] 38))) := BW.out.trans ((RK.out.bel.alloc RK.out.bel.size _).mono BW.out.size)
      have R_q : Hid ((wr.alloc (.cells #[.int .i64 o.cls, .int .i64 o.code, .string (strOfNums o.data)] 38)).heap[wr.heap.size]? = some (.cells #[.int .i64 o.cls, .int .i64 o.code, .string (strOfNums o.data)] 38 (0, 0))) := heap_alloc_new wr _
      by_cases hgo : optG o = false
      · replace HBAD := HBAD.out hgo
        have HBAD : Hid _ := HBAD
        have hbad : o.cls < 0 ∨ 65535 < o.cls ∨ o.code < 0 ∨ 255 < o.code ∨ 124 < o.data.length ∨ (o.data.length ≤ 124 ∧ ¬ o.data.length % 4 = 0) := by
          by_cases h1 : o.cls < 0
          · exact .inl h1
          by_cases h2 : 65535 < o.cls
          · exact .inr (.inl h2)
          by_cases h3 : o.code < 0
          · exact .inr (.inr (.inl h3))
          by_cases h4 : 255 < o.code
          · exact .inr (.inr (.inr (.inl h4)))
          by_cases h5 : 124 < o.data.length
          · exact .inr (.inr (.inr (.inr (.inl h5))))
          refine .inr (.inr (.inr (.inr (.inr ⟨by omega, fun h6 => ?_⟩))))
          have := HG2.out (by omega) (by omega) (by omega) h6
          rw [hgo] at this; cases this
        clear HG2 HG1 HCG HALL0 HCR0 HSZ0 HOB0 hgo RK HGk HZk HBAD2 HNk ho H
        generalize o.cls = oc at *
        generalize o.code = od at *
        generalize o.data = ds at *
        have hsI : ((strOfNums ds).size : Int) = (ds.length : Int) := by rw [hs]
        by_cases e1 : oc < 0
        · clear hbad
          go_wp2
          go_ret2
          exact REnc.no HBAD.out (by decide) HB9.out
        by_cases e2 : 65535 < oc
        · clear hbad
          go_wp2
          go_ret2
          exact REnc.no HBAD.out (by decide) HB9.out
        by_cases e3 : od < 0
        · clear hbad
          go_wp2
          go_ret2
          exact REnc.no HBAD.out (by decide) HB9.out
        by_cases e4 : 255 < od
        · clear hbad
          go_wp2
          go_ret2
          exact REnc.no HBAD.out (by decide) HB9.out
        by_cases e5 : (124 : Int) < (ds.length : Int)
        · clear hbad
          go_wp2
          go_ret2
          exact REnc.no HBAD.out (by decide) HB9.out
        have e6 : ((ds.length : Int) % 4 != 0) = true := by simp; omega
        clear hbad
        go_wp2
        go_ret2
        exact REnc.no HBAD.out (by decide) HB9.out
      · have hgt : optG o = true := by cases hq : optG o <;> simp_all
        obtain ⟨g1, g2, g3, g4⟩ := optG_of hgt
        have HCB := HCG.out hgt
        have HALL : Hid _ := HALL0.out hgt
        have HCR : Hid _ := HCR0.out
        have HSZ : Hid _ := HSZ0.out
        have HOB1 := HOB0.out
        rw [be_one9 _ g2, be_one9 _ (by omega)] at HOB1
        have HOB : Hid _ := HOB1
        clear HG2 HG1 HCG HALL0 HCR0 HSZ0 HOB0 HOB1 hgo hgt HGk HBAD ho H
        generalize o.cls = oc at *
        generalize o.code = od at *
        generalize o.data = ds at *
        generalize critB o = cb at *
        have hsI : ((strOfNums ds).size : Int) = (ds.length : Int) := by rw [hs]
        have e1 : ¬ oc < 0 := by omega
        have e2 : ¬ 65535 < oc := by omega
        have e3 : ¬ od < 0 := by omega
        have e4 : ¬ 255 < od := by omega
        have e5 : ¬ (124 : Int) < (ds.length : Int) := by omega
        have e6 : ((ds.length : Int) % 4 != 0) = false := by simp; omega
        have HCB : Hid _ := HCB
        obtain ⟨cp, hcp⟩ : ∃ c, (os.take k).any critB = c := ⟨_, rfl⟩
        rw [hcp] at HCR ⊢
        clear hcp
        have hq8 : 0 ≤ (ds.length : Int) / 4 ∧ (ds.length : Int) / 4 ≤ 31 := by omega
        by_cases hc8 : 128 ≤ od
        · cases cp
          · have CRK : Hid (Value.bool true = Value.bool ((os.take (k + 1)).any critB)) := by show _ = _; rw [HCR.out, HCB.out]; simp [hc8]
            clear HCB HCR
            go_wp2_with fail
            have d9 : True := trivial
            clear e1 e2 e3 e4 e5 e6 c0 c1' c2' d9
            have hNb : (N : Int) ≤ 252 := by have := HNk.out; have := HZk.out; omega
            have UP : Hid (Up od ((ds.length : Int) / 4) none wr.heap.size #[.int .i64 oc, .int .i64 od, .string (strOfNums ds)] w0 (wr.alloc (.cells #[.int .i64 oc, .int .i64 od, .string (strOfNums ds)] 38)) (.slice ao N co) N (opsB (os.take k))) := ⟨⟨RK.out.own.alloc _, RK.out.bel.alloc RK.out.bel.size _⟩, fun b hb => (by cases hb), fun b hb => (by cases hb), R_q.out⟩
            obtain ⟨q, hqq⟩ : ∃ q, (ds.length : Int) / 4 = q := ⟨_, rfl⟩
            rw [hqq] at UP hq8 HOB
            have hw0 : IntKind.u64.wrap oc = oc := by simp [IntKind.wrap, IntKind.bits, IntKind.signed]; omega
            have hw1 : IntKind.u8.wrap od = od := by simp [IntKind.wrap, IntKind.bits, IntKind.signed]; omega
            have hw3 : IntKind.i64.wrap q = q := by simp [IntKind.wrap, IntKind.bits, IntKind.signed]; omega
            have hw2 : IntKind.u8.wrap q = q := by simp [IntKind.wrap, IntKind.bits, IntKind.signed]; omega
            obtain ⟨g, hg⟩ : ∃ g, wr.heap.size = g := ⟨_, rfl⟩
            rw [hg] at UP ⊢
            obtain ⟨V0, hV0⟩ : ∃ V', wr.alloc (.cells #[.int .i64 oc, .int .i64 od, .string (strOfNums ds)] 38) = V' := ⟨_, rfl⟩
            rw [hV0] at UP ⊢
            clear hg hV0
            have UD : Hid (Up od q none g #[.int .i64 oc, .int .i64 od, .string (strOfNums ds)] w0 V0.drew (.slice ao N co) N (opsB (os.take k))) := ⟨UP.out.rb.drew, UP.out.at0, UP.out.ap, UP.out.op⟩
            clear UP
            refine wp_region_held_drew (S := (fun W => W.cell? ⟨g, 0, none⟩ = some (.int .i64 oc) ∧ W.cell? ⟨g, 1, none⟩ = some (.int .i64 od) ∧ W.cell? ⟨g, 2, none⟩ = some (.string (strOfNums ds)))) (by kernel_rfl) ?_ (fun hHeld => ?_)
            · exact three UD.out.op
            obtain ⟨VD, hVD⟩ : ∃ V', V0.drew = V' := ⟨_, rfl⟩
            rw [hVD] at UD hHeld ⊢
            clear hVD
            refine wpAnyH_take (i := 0) (v := ?_) rfl (by kernel_rfl) (by kernel_rfl) (by kernel_rfl) (fun _ _ _ h => h) (Or.inl ⟨by rfl, ?_⟩) (by assumption) ?_
            rotate_left
            · (intro w hSw; (try dsimp only at hSw); go_simp; try with_reducible rfl)
            try simp only [List.getElem_toArray, List.getElem_cons_zero, List.getElem_cons_succ, Act.put, List.setIfInBounds_toArray, List.set_cons_zero, List.set_cons_succ]
            refine wpAnyH_take (i := 1) (v := ?_) rfl (by kernel_rfl) (by kernel_rfl) (by kernel_rfl) (fun _ _ _ h => h) (Or.inl ⟨by rfl, ?_⟩) (by assumption) ?_
            rotate_left
            · (intro w hSw; (try dsimp only at hSw); go_simp; try with_reducible rfl)
            try simp only [List.getElem_toArray, List.getElem_cons_zero, List.getElem_cons_succ, Act.put, List.setIfInBounds_toArray, List.set_cons_zero, List.set_cons_succ]
            refine wpAnyH_take (i := 2) (v := ?_) rfl (by kernel_rfl) (by kernel_rfl) (by kernel_rfl) (fun _ _ _ h => h) (Or.inl ⟨by rfl, ?_⟩) (by assumption) ?_
            rotate_left
            · (intro w hSw; (try dsimp only at hSw); go_simp; try with_reducible rfl)
            try simp only [List.getElem_toArray, List.getElem_cons_zero, List.getElem_cons_succ, Act.put, List.setIfInBounds_toArray, List.set_cons_zero, List.set_cons_succ]
            refine wpAnyH_take (i := 3) (v := ?_) rfl (by kernel_rfl) (by kernel_rfl) (by kernel_rfl) (fun _ _ _ h => h) (Or.inl ⟨by rfl, ?_⟩) (by assumption) ?_
            rotate_left
            · (intro w hSw; (try dsimp only at hSw); go_simp; try with_reducible rfl)
            try simp only [List.getElem_toArray, List.getElem_cons_zero, List.getElem_cons_succ, Act.put, List.setIfInBounds_toArray, List.set_cons_zero, List.set_cons_succ]
            refine wpAnyH_take (i := 6) (v := ?_) rfl (by kernel_rfl) (by kernel_rfl) (by kernel_rfl) (fun _ _ _ h => h) (Or.inl ⟨by rfl, ?_⟩) (by assumption) ?_
            rotate_left
            · (intro w hSw; (try dsimp only at hSw); go_simp; try with_reducible rfl)
            try simp only [List.getElem_toArray, List.getElem_cons_zero, List.getElem_cons_succ, Act.put, List.setIfInBounds_toArray, List.set_cons_zero, List.set_cons_succ]
            refine wpAnyH_take (i := 7) (v := ?_) rfl (by kernel_rfl) (by kernel_rfl) (by kernel_rfl) (fun _ _ _ h => h) (Or.inl ⟨by rfl, ?_⟩) (by assumption) ?_
            rotate_left
            · (intro w hSw; (try dsimp only at hSw); go_simp; try with_reducible rfl)
            try simp only [List.getElem_toArray, List.getElem_cons_zero, List.getElem_cons_succ, Act.put, List.setIfInBounds_toArray, List.set_cons_zero, List.set_cons_succ]
            refine wpAnyH_take (i := 8) (v := ?_) rfl (by kernel_rfl) (by kernel_rfl) (by kernel_rfl) (fun _ _ _ h => h) (Or.inl ⟨by rfl, ?_⟩) (by assumption) ?_
            rotate_left
            · (intro w hSw; (try dsimp only at hSw); go_simp; try with_reducible rfl)
            try simp only [List.getElem_toArray, List.getElem_cons_zero, List.getElem_cons_succ, Act.put, List.setIfInBounds_toArray, List.set_cons_zero, List.set_cons_succ]
            refine wpAnyH_take (i := 9) (v := ?_) rfl (by kernel_rfl) (by kernel_rfl) (by kernel_rfl) (fun _ _ _ h => h) (Or.inl ⟨by rfl, ?_⟩) (by assumption) ?_
            rotate_left
            · (intro w hSw; (try dsimp only at hSw); go_simp; try with_reducible rfl)
            try simp only [List.getElem_toArray, List.getElem_cons_zero, List.getElem_cons_succ, Act.put, List.setIfInBounds_toArray, List.set_cons_zero, List.set_cons_succ]
            refine wpAnyH_take (i := 10) (v := ?_) rfl (by kernel_rfl) (by kernel_rfl) (by kernel_rfl) (fun _ _ _ h => h) (Or.inl ⟨by rfl, ?_⟩) (by assumption) ?_
            rotate_left
            · (intro w hSw; (try dsimp only at hSw); go_simp; try with_reducible rfl)
            try simp only [List.getElem_toArray, List.getElem_cons_zero, List.getElem_cons_succ, Act.put, List.setIfInBounds_toArray, List.set_cons_zero, List.set_cons_succ]
            refine wpAnyH_take (i := 11) (v := ?_) rfl (by kernel_rfl) (by kernel_rfl) (by kernel_rfl) (fun _ _ _ h => h) (Or.inl ⟨by rfl, ?_⟩) (by assumption) ?_
            rotate_left
            · (intro w hSw; (try dsimp only at hSw); go_simp; try with_reducible rfl)
            try simp only [List.getElem_toArray, List.getElem_cons_zero, List.getElem_cons_succ, Act.put, List.setIfInBounds_toArray, List.set_cons_zero, List.set_cons_succ]
            refine wpAnyH_take (i := 12) (v := ?_) rfl (by kernel_rfl) (by kernel_rfl) (by kernel_rfl) (fun _ _ _ h => h) (Or.inl ⟨by rfl, ?_⟩) (by assumption) ?_
            rotate_left
            · (intro w hSw; (try dsimp only at hSw); go_simp; try with_reducible rfl)
            try simp only [List.getElem_toArray, List.getElem_cons_zero, List.getElem_cons_succ, Act.put, List.setIfInBounds_toArray, List.set_cons_zero, List.set_cons_succ]
            refine wpAnyH_take (i := 13) (v := ?_) rfl (by kernel_rfl) (by kernel_rfl) (by kernel_rfl) (fun _ _ _ h => h) (Or.inl ⟨by rfl, ?_⟩) (by assumption) ?_
            rotate_left
            · (intro w hSw; (try dsimp only at hSw); go_simp; try with_reducible rfl)
            try simp only [List.getElem_toArray, List.getElem_cons_zero, List.getElem_cons_succ, Act.put, List.setIfInBounds_toArray, List.set_cons_zero, List.set_cons_succ]
            refine wpAnyH_take (i := 16) (v := ?_) rfl (by kernel_rfl) (by kernel_rfl) (by kernel_rfl) (fun _ _ _ h => h) (Or.inl ⟨by rfl, ?_⟩) (by assumption) ?_
            rotate_left
            · (intro w hSw; (try dsimp only at hSw); go_simp; try with_reducible rfl)
            try simp only [List.getElem_toArray, List.getElem_cons_zero, List.getElem_cons_succ, Act.put, List.setIfInBounds_toArray, List.set_cons_zero, List.set_cons_succ]
            refine wpAnyH_take (i := 17) (v := ?_) rfl (by kernel_rfl) (by kernel_rfl) (by kernel_rfl) (fun _ _ _ h => h) (Or.inl ⟨by rfl, ?_⟩) (by assumption) ?_
            rotate_left
            · (intro w hSw; (try dsimp only at hSw); go_simp; try with_reducible rfl)
            try simp only [List.getElem_toArray, List.getElem_cons_zero, List.getElem_cons_succ, Act.put, List.setIfInBounds_toArray, List.set_cons_zero, List.set_cons_succ]
            refine wpAnyH_ready (rs := [4, 14]) (by kernel_rfl) (by simp) ?_
            refine AllReadyH.cons (o := _) rfl (fun K hK => ?_) (AllReadyH.cons (o := _) rfl (fun K hK => ?_) AllReadyH.nil)
            · go_simp
              refine (up_two UD.out oc (by omega)).mono ?_
              rintro e V1 ⟨b1, rfl, u, b⟩
              have U1 : Hid (Up od q none g #[.int .i64 oc, .int .i64 od, .string (strOfNums ds)] w0 V1 (.slice ao N co) N (opsB (os.take k))) := u
              have B1 : Hid (BS V1 b1 2 (be oc 2)) := b
              clear u b UD
              refine hK _ _ (three U1.out.op) (fun hHeld => ?_)
              try simp only [List.getElem_toArray, List.getElem_cons_zero, List.getElem_cons_succ, Act.put, List.setIfInBounds_toArray, List.set_cons_zero, List.set_cons_succ]
              refine wpAnyH_ready (rs := [5, 14]) (by kernel_rfl) (by simp) ?_
              refine AllReadyH.cons (o := _) rfl (fun K hK => ?_) (AllReadyH.cons (o := _) rfl (fun K hK => ?_) AllReadyH.nil)
              · refine step_append_up Try.underlying26 info5 rfl (.tmp 80) (.tmp 84) rfl _ N (opsB (os.take k)) rfl U1.out _ 2 2 (be oc 2) rfl B1.out (by omega) ?_
                intro a2 c2 V2 u
                have U2 : Hid (Up od q none g #[.int .i64 oc, .int .i64 od, .string (strOfNums ds)] w0 V2 (.slice a2 (N + 2) c2) (N + 2) ((opsB (os.take k)) ++ be oc 2)) := u
                clear u U1 B1
                refine hK _ _ (three U2.out.op) (fun hHeld => ?_)
                try simp only [List.getElem_toArray, List.getElem_cons_zero, List.getElem_cons_succ, Act.put, List.setIfInBounds_toArray, List.set_cons_zero, List.set_cons_succ]
                refine wpAnyH_ready (rs := [14]) (by kernel_rfl) (by simp) ?_
                refine AllReadyH.cons (o := _) rfl (fun K hK => ?_) AllReadyH.nil
                go_simp
                have U3 : Hid (Up od q (some V2.heap.size) g #[.int .i64 oc, .int .i64 od, .string (strOfNums ds)] w0 (V2.alloc (.cells #[.int .u8 od, .int .u8 q] 5)) (.slice a2 (N + 2) c2) (N + 2) ((opsB (os.take k)) ++ be oc 2)) := U2.out.build
                clear U2
                obtain ⟨V3, hV⟩ : ∃ V', V2.alloc (.cells #[.int .u8 od, .int .u8 q] 5) = V' := ⟨_, rfl⟩
                obtain ⟨g3, hb⟩ : ∃ b', V2.heap.size = b' := ⟨_, rfl⟩
                rw [hV] at U3 ⊢
                rw [hb] at U3 ⊢
                clear hV hb
                refine hK _ _ (three U3.out.op) (fun hHeld => ?_)
                try simp only [List.getElem_toArray, List.getElem_cons_zero, List.getElem_cons_succ, Act.put, List.setIfInBounds_toArray, List.set_cons_zero, List.set_cons_succ]
                refine wpAnyH_ready (rs := [15]) (by kernel_rfl) (by simp) ?_
                refine AllReadyH.cons (o := _) rfl (fun K hK => ?_) AllReadyH.nil
                refine step_append_up Try.underlying26 info5 rfl (.tmp 85) (.tmp 94) rfl _ (N + 2) ((opsB (os.take k)) ++ be oc 2) rfl U3.out _ 2 2 ([od, q]) rfl (U3.out.bs (by omega) (by omega)) (by omega) ?_
                intro a4 c4 V4 u
                have U4 : Hid (Up od q (some g3) g #[.int .i64 oc, .int .i64 od, .string (strOfNums ds)] w0 V4 (.slice a4 ((N + 2) + 2) c4) ((N + 2) + 2) (((opsB (os.take k)) ++ be oc 2) ++ [od, q])) := u
                clear u U3
                refine hK _ _ (three U4.out.op) (fun hHeld => ?_)
                try simp only [List.getElem_toArray, List.getElem_cons_zero, List.getElem_cons_succ, Act.put, List.setIfInBounds_toArray, List.set_cons_zero, List.set_cons_succ]
                refine wpAnyH_ready (rs := [18]) (by kernel_rfl) (by simp) ?_
                refine AllReadyH.cons (o := _) rfl (fun K hK => ?_) AllReadyH.nil
                refine step_append_upt rfl (.tmp 95) (.tmp 97) rfl _ ((N + 2) + 2) (((opsB (os.take k)) ++ be oc 2) ++ [od, q]) rfl U4.out ds hfit rfl (by omega) ?_
                intro a5 c5 V5 u uo
                have OK : Hid (V5.heap[g]? = some (.cells #[.int .i64 oc, .int .i64 od, .string (strOfNums ds)] 38 (0, 0))) := uo
                have R5 : Hid (RB w0 V5 (.slice a5 (((N + 2) + 2) + ds.length) c5) (((N + 2) + 2) + ds.length) ((((opsB (os.take k)) ++ be oc 2) ++ [od, q]) ++ ds)) := u
                clear u uo U4
                refine hK _ _ (three OK.out) (fun hHeld => ?_)
                try simp only [List.getElem_toArray, List.getElem_cons_zero, List.getElem_cons_succ, Act.put, List.setIfInBounds_toArray, List.set_cons_zero, List.set_cons_succ]
                refine wpAnyH_take (i := 19) (v := ?_) rfl (by kernel_rfl) (by kernel_rfl) (by kernel_rfl) (fun _ _ _ h => h) (Or.inl ⟨by rfl, ?_⟩) (by assumption) ?_
                rotate_left
                · (intro w hSw; (try dsimp only at hSw); go_simp; try with_reducible rfl)
                try simp only [List.getElem_toArray, List.getElem_cons_zero, List.getElem_cons_succ, Act.put, List.setIfInBounds_toArray, List.set_cons_zero, List.set_cons_succ]
                refine wpAnyH_done (by kernel_rfl) ?_ _
                clear hHeld
                try simp only [List.getElem_toArray, List.getElem_cons_zero, List.getElem_cons_succ, Act.put, List.setIfInBounds_toArray, List.set_cons_zero, List.set_cons_succ]
                have RX : Hid (∃ a c, Value.slice a5 (((N + 2) + 2) + ds.length) c5 = .slice a (((N + 2) + 2) + ds.length) c ∧ RB w0 V5 (.slice a (((N + 2) + 2) + ds.length) c) (((N + 2) + 2) + ds.length) ((((opsB (os.take k)) ++ be oc 2) ++ [od, q]) ++ ds)) := ⟨_, _, rfl, R5.out⟩
                obtain ⟨M, hM⟩ : ∃ M, (((N + 2) + 2) + ds.length) = M := ⟨_, rfl⟩
                have hMI : (M : Int) = szO (os.take (k + 1)) := by have h9 := HNk.out; rw [← hM, HSZ.out, ← h9]; push_cast; omega
                have RY : Hid (RB w0 V5 (.slice a5 M c5) M (opsB (os.take (k + 1)))) := by
                  rw [HOB.out, ← hM]
                  have := R5.out
                  simp only [List.append_assoc, List.cons_append, List.nil_append] at this ⊢
                  exact this
                have HM3 : Hid _ := hM
                rw [hM]
                clear hM RX R5
                by_cases hz : (252 : Int) < (M : Int)
                · have HE1 : Hid (chkE sp vni os fr.length = 1) := HBAD2.out (by omega)
                  have HB2 : Hid (Below w.heap.size w V5) := BW.out.trans (RY.out.bel.mono BW.out.size)
                  clear RY hMI
                  go_wp2
                  go_ret2
                  exact REnc.no HE1.out (by decide) HB2.out
                · have hN2 : Hid (szO (os.take (k + 1)) ≤ 252) := by show _ ≤ _; omega
                  clear hMI
                  go_wp2
                  go_roundw
                  case rel => exact ⟨k + 1, _, _, M, by omega, by go_num, CRK.out, rfl, RY.out, HALL.out, hN2.out⟩
                  case measure => simp [intOf]; omega
              · go_simp
                have U6 : Hid (Up od q (some V1.heap.size) g #[.int .i64 oc, .int .i64 od, .string (strOfNums ds)] w0 (V1.alloc (.cells #[.int .u8 od, .int .u8 q] 5)) (.slice ao N co) N (opsB (os.take k))) := U1.out.build
                have B6 : Hid (BS (V1.alloc (.cells #[.int .u8 od, .int .u8 q] 5)) b1 2 (be oc 2)) := B1.out.below (below1 _ _)
                clear U1 B1
                obtain ⟨V6, hV⟩ : ∃ V', V1.alloc (.cells #[.int .u8 od, .int .u8 q] 5) = V' := ⟨_, rfl⟩
                obtain ⟨g6, hb⟩ : ∃ b', V1.heap.size = b' := ⟨_, rfl⟩
                rw [hV] at U6 B6 ⊢
                rw [hb] at U6 ⊢
                clear hV hb
                refine hK _ _ (three U6.out.op) (fun hHeld => ?_)
                try simp only [List.getElem_toArray, List.getElem_cons_zero, List.getElem_cons_succ, Act.put, List.setIfInBounds_toArray, List.set_cons_zero, List.set_cons_succ]
                refine wpAnyH_ready (rs := [5]) (by kernel_rfl) (by simp) ?_
                refine AllReadyH.cons (o := _) rfl (fun K hK => ?_) AllReadyH.nil
                refine step_append_up Try.underlying26 info5 rfl (.tmp 80) (.tmp 84) rfl _ N (opsB (os.take k)) rfl U6.out _ 2 2 (be oc 2) rfl B6.out (by omega) ?_
                intro a7 c7 V7 u
                have U7 : Hid (Up od q (some g6) g #[.int .i64 oc, .int .i64 od, .string (strOfNums ds)] w0 V7 (.slice a7 (N + 2) c7) (N + 2) ((opsB (os.take k)) ++ be oc 2)) := u
                clear u U6 B6
                refine hK _ _ (three U7.out.op) (fun hHeld => ?_)
                try simp only [List.getElem_toArray, List.getElem_cons_zero, List.getElem_cons_succ, Act.put, List.setIfInBounds_toArray, List.set_cons_zero, List.set_cons_succ]
                refine wpAnyH_ready (rs := [15]) (by kernel_rfl) (by simp) ?_
                refine AllReadyH.cons (o := _) rfl (fun K hK => ?_) AllReadyH.nil
                refine step_append_up Try.underlying26 info5 rfl (.tmp 85) (.tmp 94) rfl _ (N + 2) ((opsB (os.take k)) ++ be oc 2) rfl U7.out _ 2 2 ([od, q]) rfl (U7.out.bs (by omega) (by omega)) (by omega) ?_
                intro a8 c8 V8 u
                have U8 : Hid (Up od q (some g6) g #[.int .i64 oc, .int .i64 od, .string (strOfNums ds)] w0 V8 (.slice a8 ((N + 2) + 2) c8) ((N + 2) + 2) (((opsB (os.take k)) ++ be oc 2) ++ [od, q])) := u
                clear u U7
                refine hK _ _ (three U8.out.op) (fun hHeld => ?_)
                try simp only [List.getElem_toArray, List.getElem_cons_zero, List.getElem_cons_succ, Act.put, List.setIfInBounds_toArray, List.set_cons_zero, List.set_cons_succ]
                refine wpAnyH_ready (rs := [18]) (by kernel_rfl) (by simp) ?_
                refine AllReadyH.cons (o := _) rfl (fun K hK => ?_) AllReadyH.nil
                refine step_append_upt rfl (.tmp 95) (.tmp 97) rfl _ ((N + 2) + 2) (((opsB (os.take k)) ++ be oc 2) ++ [od, q]) rfl U8.out ds hfit rfl (by omega) ?_
                intro a9 c9 V9 u uo
                have OK : Hid (V9.heap[g]? = some (.cells #[.int .i64 oc, .int .i64 od, .string (strOfNums ds)] 38 (0, 0))) := uo
                have R9 : Hid (RB w0 V9 (.slice a9 (((N + 2) + 2) + ds.length) c9) (((N + 2) + 2) + ds.length) ((((opsB (os.take k)) ++ be oc 2) ++ [od, q]) ++ ds)) := u
                clear u uo U8
                refine hK _ _ (three OK.out) (fun hHeld => ?_)
                try simp only [List.getElem_toArray, List.getElem_cons_zero, List.getElem_cons_succ, Act.put, List.setIfInBounds_toArray, List.set_cons_zero, List.set_cons_succ]
                refine wpAnyH_take (i := 19) (v := ?_) rfl (by kernel_rfl) (by kernel_rfl) (by kernel_rfl) (fun _ _ _ h => h) (Or.inl ⟨by rfl, ?_⟩) (by assumption) ?_
                rotate_left
                · (intro w hSw; (try dsimp only at hSw); go_simp; try with_reducible rfl)
                try simp only [List.getElem_toArray, List.getElem_cons_zero, List.getElem_cons_succ, Act.put, List.setIfInBounds_toArray, List.set_cons_zero, List.set_cons_succ]
                refine wpAnyH_done (by kernel_rfl) ?_ _
                clear hHeld
                try simp only [List.getElem_toArray, List.getElem_cons_zero, List.getElem_cons_succ, Act.put, List.setIfInBounds_toArray, List.set_cons_zero, List.set_cons_succ]
                have RX : Hid (∃ a c, Value.slice a9 (((N + 2) + 2) + ds.length) c9 = .slice a (((N + 2) + 2) + ds.length) c ∧ RB w0 V9 (.slice a (((N + 2) + 2) + ds.length) c) (((N + 2) + 2) + ds.length) ((((opsB (os.take k)) ++ be oc 2) ++ [od, q]) ++ ds)) := ⟨_, _, rfl, R9.out⟩
                obtain ⟨M, hM⟩ : ∃ M, (((N + 2) + 2) + ds.length) = M := ⟨_, rfl⟩
                have hMI : (M : Int) = szO (os.take (k + 1)) := by have h9 := HNk.out; rw [← hM, HSZ.out, ← h9]; push_cast; omega
                have RY : Hid (RB w0 V9 (.slice a9 M c9) M (opsB (os.take (k + 1)))) := by
                  rw [HOB.out, ← hM]
                  have := R9.out
                  simp only [List.append_assoc, List.cons_append, List.nil_append] at this ⊢
                  exact this
                have HM3 : Hid _ := hM
                rw [hM]
                clear hM RX R9
                by_cases hz : (252 : Int) < (M : Int)
                · have HE1 : Hid (chkE sp vni os fr.length = 1) := HBAD2.out (by omega)
                  have HB2 : Hid (Below w.heap.size w V9) := BW.out.trans (RY.out.bel.mono BW.out.size)
                  clear RY hMI
                  go_wp2
                  go_ret2
                  exact REnc.no HE1.out (by decide) HB2.out
                · have hN2 : Hid (szO (os.take (k + 1)) ≤ 252) := by show _ ≤ _; omega
                  clear hMI
                  go_wp2
                  go_roundw
                  case rel => exact ⟨k + 1, _, _, M, by omega, by go_num, CRK.out, rfl, RY.out, HALL.out, hN2.out⟩
                  case measure => simp [intOf]; omega
            · go_simp
              have U10 : Hid (Up od q (some VD.heap.size) g #[.int .i64 oc, .int .i64 od, .string (strOfNums ds)] w0 (VD.alloc (.cells #[.int .u8 od, .int .u8 q] 5)) (.slice ao N co) N (opsB (os.take k))) := UD.out.build
              clear UD
              obtain ⟨V10, hV⟩ : ∃ V', VD.alloc (.cells #[.int .u8 od, .int .u8 q] 5) = V' := ⟨_, rfl⟩
              obtain ⟨g10, hb⟩ : ∃ b', VD.heap.size = b' := ⟨_, rfl⟩
              rw [hV] at U10 ⊢
              rw [hb] at U10 ⊢
              clear hV hb
              refine hK _ _ (three U10.out.op) (fun hHeld => ?_)
              try simp only [List.getElem_toArray, List.getElem_cons_zero, List.getElem_cons_succ, Act.put, List.setIfInBounds_toArray, List.set_cons_zero, List.set_cons_succ]
              refine wpAnyH_ready (rs := [4]) (by kernel_rfl) (by simp) ?_
              refine AllReadyH.cons (o := _) rfl (fun K hK => ?_) AllReadyH.nil
              go_simp
              refine (up_two U10.out oc (by omega)).mono ?_
              rintro e V11 ⟨b11, rfl, u, b⟩
              have U11 : Hid (Up od q (some g10) g #[.int .i64 oc, .int .i64 od, .string (strOfNums ds)] w0 V11 (.slice ao N co) N (opsB (os.take k))) := u
              have B11 : Hid (BS V11 b11 2 (be oc 2)) := b
              clear u b U10
              refine hK _ _ (three U11.out.op) (fun hHeld => ?_)
              try simp only [List.getElem_toArray, List.getElem_cons_zero, List.getElem_cons_succ, Act.put, List.setIfInBounds_toArray, List.set_cons_zero, List.set_cons_succ]
              refine wpAnyH_ready (rs := [5]) (by kernel_rfl) (by simp) ?_
              refine AllReadyH.cons (o := _) rfl (fun K hK => ?_) AllReadyH.nil
              refine step_append_up Try.underlying26 info5 rfl (.tmp 80) (.tmp 84) rfl _ N (opsB (os.take k)) rfl U11.out _ 2 2 (be oc 2) rfl B11.out (by omega) ?_
              intro a12 c12 V12 u
              have U12 : Hid (Up od q (some g10) g #[.int .i64 oc, .int .i64 od, .string (strOfNums ds)] w0 V12 (.slice a12 (N + 2) c12) (N + 2) ((opsB (os.take k)) ++ be oc 2)) := u
              clear u U11 B11
              refine hK _ _ (three U12.out.op) (fun hHeld => ?_)
              try simp only [List.getElem_toArray, List.getElem_cons_zero, List.getElem_cons_succ, Act.put, List.setIfInBounds_toArray, List.set_cons_zero, List.set_cons_succ]
              refine wpAnyH_ready (rs := [15]) (by kernel_rfl) (by simp) ?_
              refine AllReadyH.cons (o := _) rfl (fun K hK => ?_) AllReadyH.nil
              refine step_append_up Try.underlying26 info5 rfl (.tmp 85) (.tmp 94) rfl _ (N + 2) ((opsB (os.take k)) ++ be oc 2) rfl U12.out _ 2 2 ([od, q]) rfl (U12.out.bs (by omega) (by omega)) (by omega) ?_
              intro a13 c13 V13 u
              have U13 : Hid (Up od q (some g10) g #[.int .i64 oc, .int .i64 od, .string (strOfNums ds)] w0 V13 (.slice a13 ((N + 2) + 2) c13) ((N + 2) + 2) (((opsB (os.take k)) ++ be oc 2) ++ [od, q])) := u
              clear u U12
              refine hK _ _ (three U13.out.op) (fun hHeld => ?_)
              try simp only [List.getElem_toArray, List.getElem_cons_zero, List.getElem_cons_succ, Act.put, List.setIfInBounds_toArray, List.set_cons_zero, List.set_cons_succ]
              refine wpAnyH_ready (rs := [18]) (by kernel_rfl) (by simp) ?_
              refine AllReadyH.cons (o := _) rfl (fun K hK => ?_) AllReadyH.nil
              refine step_append_upt rfl (.tmp 95) (.tmp 97) rfl _ ((N + 2) + 2) (((opsB (os.take k)) ++ be oc 2) ++ [od, q]) rfl U13.out ds hfit rfl (by omega) ?_
              intro a14 c14 V14 u uo
              have OK : Hid (V14.heap[g]? = some (.cells #[.int .i64 oc, .int .i64 od, .string (strOfNums ds)] 38 (0, 0))) := uo
              have R14 : Hid (RB w0 V14 (.slice a14 (((N + 2) + 2) + ds.length) c14) (((N + 2) + 2) + ds.length) ((((opsB (os.take k)) ++ be oc 2) ++ [od, q]) ++ ds)) := u
              clear u uo U13
              refine hK _ _ (three OK.out) (fun hHeld => ?_)
              try simp only [List.getElem_toArray, List.getElem_cons_zero, List.getElem_cons_succ, Act.put, List.setIfInBounds_toArray, List.set_cons_zero, List.set_cons_succ]
              refine wpAnyH_take (i := 19) (v := ?_) rfl (by kernel_rfl) (by kernel_rfl) (by kernel_rfl) (fun _ _ _ h => h) (Or.inl ⟨by rfl, ?_⟩) (by assumption) ?_
              rotate_left
              · (intro w hSw; (try dsimp only at hSw); go_simp; try with_reducible rfl)
              try simp only [List.getElem_toArray, List.getElem_cons_zero, List.getElem_cons_succ, Act.put, List.setIfInBounds_toArray, List.set_cons_zero, List.set_cons_succ]
              refine wpAnyH_done (by kernel_rfl) ?_ _
              clear hHeld
              try simp only [List.getElem_toArray, List.getElem_cons_zero, List.getElem_cons_succ, Act.put, List.setIfInBounds_toArray, List.set_cons_zero, List.set_cons_succ]
              have RX : Hid (∃ a c, Value.slice a14 (((N + 2) + 2) + ds.length) c14 = .slice a (((N + 2) + 2) + ds.length) c ∧ RB w0 V14 (.slice a (((N + 2) + 2) + ds.length) c) (((N + 2) + 2) + ds.length) ((((opsB (os.take k)) ++ be oc 2) ++ [od, q]) ++ ds)) := ⟨_, _, rfl, R14.out⟩
              obtain ⟨M, hM⟩ : ∃ M, (((N + 2) + 2) + ds.length) = M := ⟨_, rfl⟩
              have hMI : (M : Int) = szO (os.take (k + 1)) := by have h9 := HNk.out; rw [← hM, HSZ.out, ← h9]; push_cast; omega
              have RY : Hid (RB w0 V14 (.slice a14 M c14) M (opsB (os.take (k + 1)))) := by
                rw [HOB.out, ← hM]
                have := R14.out
                simp only [List.append_assoc, List.cons_append, List.nil_append] at this ⊢
                exact this
              have HM3 : Hid _ := hM
              rw [hM]
              clear hM RX R14
              by_cases hz : (252 : Int) < (M : Int)
              · have HE1 : Hid (chkE sp vni os fr.length = 1) := HBAD2.out (by omega)
                have HB2 : Hid (Below w.heap.size w V14) := BW.out.trans (RY.out.bel.mono BW.out.size)
                clear RY hMI
                go_wp2
                go_ret2
                exact REnc.no HE1.out (by decide) HB2.out
              · have hN2 : Hid (szO (os.take (k + 1)) ≤ 252) := by show _ ≤ _; omega
                clear hMI
                go_wp2
                go_roundw
                case rel => exact ⟨k + 1, _, _, M, by omega, by go_num, CRK.out, rfl, RY.out, HALL.out, hN2.out⟩
                case measure => simp [intOf]; omega
          · have CRK : Hid (Value.bool true = Value.bool ((os.take (k + 1)).any critB)) := by show _ = _; rw [HCR.out, HCB.out]; simp [hc8]
            clear HCB HCR
            go_wp2_with fail
            have d9 : True := trivial
            clear e1 e2 e3 e4 e5 e6 c0 c1' c2' d9
            have hNb : (N : Int) ≤ 252 := by have := HNk.out; have := HZk.out; omega
            have UP : Hid (Up od ((ds.length : Int) / 4) none wr.heap.size #[.int .i64 oc, .int .i64 od, .string (strOfNums ds)] w0 (wr.alloc (.cells #[.int .i64 oc, .int .i64 od, .string (strOfNums ds)] 38)) (.slice ao N co) N (opsB (os.take k))) := ⟨⟨RK.out.own.alloc _, RK.out.bel.alloc RK.out.bel.size _⟩, fun b hb => (by cases hb), fun b hb => (by cases hb), R_q.out⟩
            obtain ⟨q, hqq⟩ : ∃ q, (ds.length : Int) / 4 = q := ⟨_, rfl⟩
            rw [hqq] at UP hq8 HOB
            have hw0 : IntKind.u64.wrap oc = oc := by simp [IntKind.wrap, IntKind.bits, IntKind.signed]; omega
            have hw1 : IntKind.u8.wrap od = od := by simp [IntKind.wrap, IntKind.bits, IntKind.signed]; omega
            have hw3 : IntKind.i64.wrap q = q := by simp [IntKind.wrap, IntKind.bits, IntKind.signed]; omega
            have hw2 : IntKind.u8.wrap q = q := by simp [IntKind.wrap, IntKind.bits, IntKind.signed]; omega
            obtain ⟨g, hg⟩ : ∃ g, wr.heap.size = g := ⟨_, rfl⟩
            rw [hg] at UP ⊢
            obtain ⟨V0, hV0⟩ : ∃ V', wr.alloc (.cells #[.int .i64 oc, .int .i64 od, .string (strOfNums ds)] 38) = V' := ⟨_, rfl⟩
            rw [hV0] at UP ⊢
            clear hg hV0
            have UD : Hid (Up od q none g #[.int .i64 oc, .int .i64 od, .string (strOfNums ds)] w0 V0.drew (.slice ao N co) N (opsB (os.take k))) := ⟨UP.out.rb.drew, UP.out.at0, UP.out.ap, UP.out.op⟩
            clear UP
            refine wp_region_held_drew (S := (fun W => W.cell? ⟨g, 0, none⟩ = some (.int .i64 oc) ∧ W.cell? ⟨g, 1, none⟩ = some (.int .i64 od) ∧ W.cell? ⟨g, 2, none⟩ = some (.string (strOfNums ds)))) (by kernel_rfl) ?_ (fun hHeld => ?_)
            · exact three UD.out.op
            obtain ⟨VD, hVD⟩ : ∃ V', V0.drew = V' := ⟨_, rfl⟩
            rw [hVD] at UD hHeld ⊢
            clear hVD
            refine wpAnyH_take (i := 0) (v := ?_) rfl (by kernel_rfl) (by kernel_rfl) (by kernel_rfl) (fun _ _ _ h => h) (Or.inl ⟨by rfl, ?_⟩) (by assumption) ?_
            rotate_left
            · (intro w hSw; (try dsimp only at hSw); go_simp; try with_reducible rfl)
            try simp only [List.getElem_toArray, List.getElem_cons_zero, List.getElem_cons_succ, Act.put, List.setIfInBounds_toArray, List.set_cons_zero, List.set_cons_succ]
            refine wpAnyH_take (i := 1) (v := ?_) rfl (by kernel_rfl) (by kernel_rfl) (by kernel_rfl) (fun _ _ _ h => h) (Or.inl ⟨by rfl, ?_⟩) (by assumption) ?_
            rotate_left
            · (intro w hSw; (try dsimp only at hSw); go_simp; try with_reducible rfl)
            try simp only [List.getElem_toArray, List.getElem_cons_zero, List.getElem_cons_succ, Act.put, List.setIfInBounds_toArray, List.set_cons_zero, List.set_cons_succ]
            refine wpAnyH_take (i := 2) (v := ?_) rfl (by kernel_rfl) (by kernel_rfl) (by kernel_rfl) (fun _ _ _ h => h) (Or.inl ⟨by rfl, ?_⟩) (by assumption) ?_
            rotate_left
            · (intro w hSw; (try dsimp only at hSw); go_simp; try with_reducible rfl)
            try simp only [List.getElem_toArray, List.getElem_cons_zero, List.getElem_cons_succ, Act.put, List.setIfInBounds_toArray, List.set_cons_zero, List.set_cons_succ]
            refine wpAnyH_take (i := 3) (v := ?_) rfl (by kernel_rfl) (by kernel_rfl) (by kernel_rfl) (fun _ _ _ h => h) (Or.inl ⟨by rfl, ?_⟩) (by assumption) ?_
            rotate_left
            · (intro w hSw; (try dsimp only at hSw); go_simp; try with_reducible rfl)
            try simp only [List.getElem_toArray, List.getElem_cons_zero, List.getElem_cons_succ, Act.put, List.setIfInBounds_toArray, List.set_cons_zero, List.set_cons_succ]
            refine wpAnyH_take (i := 6) (v := ?_) rfl (by kernel_rfl) (by kernel_rfl) (by kernel_rfl) (fun _ _ _ h => h) (Or.inl ⟨by rfl, ?_⟩) (by assumption) ?_
            rotate_left
            · (intro w hSw; (try dsimp only at hSw); go_simp; try with_reducible rfl)
            try simp only [List.getElem_toArray, List.getElem_cons_zero, List.getElem_cons_succ, Act.put, List.setIfInBounds_toArray, List.set_cons_zero, List.set_cons_succ]
            refine wpAnyH_take (i := 7) (v := ?_) rfl (by kernel_rfl) (by kernel_rfl) (by kernel_rfl) (fun _ _ _ h => h) (Or.inl ⟨by rfl, ?_⟩) (by assumption) ?_
            rotate_left
            · (intro w hSw; (try dsimp only at hSw); go_simp; try with_reducible rfl)
            try simp only [List.getElem_toArray, List.getElem_cons_zero, List.getElem_cons_succ, Act.put, List.setIfInBounds_toArray, List.set_cons_zero, List.set_cons_succ]
            refine wpAnyH_take (i := 8) (v := ?_) rfl (by kernel_rfl) (by kernel_rfl) (by kernel_rfl) (fun _ _ _ h => h) (Or.inl ⟨by rfl, ?_⟩) (by assumption) ?_
            rotate_left
            · (intro w hSw; (try dsimp only at hSw); go_simp; try with_reducible rfl)
            try simp only [List.getElem_toArray, List.getElem_cons_zero, List.getElem_cons_succ, Act.put, List.setIfInBounds_toArray, List.set_cons_zero, List.set_cons_succ]
            refine wpAnyH_take (i := 9) (v := ?_) rfl (by kernel_rfl) (by kernel_rfl) (by kernel_rfl) (fun _ _ _ h => h) (Or.inl ⟨by rfl, ?_⟩) (by assumption) ?_
            rotate_left
            · (intro w hSw; (try dsimp only at hSw); go_simp; try with_reducible rfl)
            try simp only [List.getElem_toArray, List.getElem_cons_zero, List.getElem_cons_succ, Act.put, List.setIfInBounds_toArray, List.set_cons_zero, List.set_cons_succ]
            refine wpAnyH_take (i := 10) (v := ?_) rfl (by kernel_rfl) (by kernel_rfl) (by kernel_rfl) (fun _ _ _ h => h) (Or.inl ⟨by rfl, ?_⟩) (by assumption) ?_
            rotate_left
            · (intro w hSw; (try dsimp only at hSw); go_simp; try with_reducible rfl)
            try simp only [List.getElem_toArray, List.getElem_cons_zero, List.getElem_cons_succ, Act.put, List.setIfInBounds_toArray, List.set_cons_zero, List.set_cons_succ]
            refine wpAnyH_take (i := 11) (v := ?_) rfl (by kernel_rfl) (by kernel_rfl) (by kernel_rfl) (fun _ _ _ h => h) (Or.inl ⟨by rfl, ?_⟩) (by assumption) ?_
            rotate_left
            · (intro w hSw; (try dsimp only at hSw); go_simp; try with_reducible rfl)
            try simp only [List.getElem_toArray, List.getElem_cons_zero, List.getElem_cons_succ, Act.put, List.setIfInBounds_toArray, List.set_cons_zero, List.set_cons_succ]
            refine wpAnyH_take (i := 12) (v := ?_) rfl (by kernel_rfl) (by kernel_rfl) (by kernel_rfl) (fun _ _ _ h => h) (Or.inl ⟨by rfl, ?_⟩) (by assumption) ?_
            rotate_left
            · (intro w hSw; (try dsimp only at hSw); go_simp; try with_reducible rfl)
            try simp only [List.getElem_toArray, List.getElem_cons_zero, List.getElem_cons_succ, Act.put, List.setIfInBounds_toArray, List.set_cons_zero, List.set_cons_succ]
            refine wpAnyH_take (i := 13) (v := ?_) rfl (by kernel_rfl) (by kernel_rfl) (by kernel_rfl) (fun _ _ _ h => h) (Or.inl ⟨by rfl, ?_⟩) (by assumption) ?_
            rotate_left
            · (intro w hSw; (try dsimp only at hSw); go_simp; try with_reducible rfl)
            try simp only [List.getElem_toArray, List.getElem_cons_zero, List.getElem_cons_succ, Act.put, List.setIfInBounds_toArray, List.set_cons_zero, List.set_cons_succ]
            refine wpAnyH_take (i := 16) (v := ?_) rfl (by kernel_rfl) (by kernel_rfl) (by kernel_rfl) (fun _ _ _ h => h) (Or.inl ⟨by rfl, ?_⟩) (by assumption) ?_
            rotate_left
            · (intro w hSw; (try dsimp only at hSw); go_simp; try with_reducible rfl)
            try simp only [List.getElem_toArray, List.getElem_cons_zero, List.getElem_cons_succ, Act.put, List.setIfInBounds_toArray, List.set_cons_zero, List.set_cons_succ]
            refine wpAnyH_take (i := 17) (v := ?_) rfl (by kernel_rfl) (by kernel_rfl) (by kernel_rfl) (fun _ _ _ h => h) (Or.inl ⟨by rfl, ?_⟩) (by assumption) ?_
            rotate_left
            · (intro w hSw; (try dsimp only at hSw); go_simp; try with_reducible rfl)
            try simp only [List.getElem_toArray, List.getElem_cons_zero, List.getElem_cons_succ, Act.put, List.setIfInBounds_toArray, List.set_cons_zero, List.set_cons_succ]
            refine wpAnyH_ready (rs := [4, 14]) (by kernel_rfl) (by simp) ?_
            refine AllReadyH.cons (o := _) rfl (fun K hK => ?_) (AllReadyH.cons (o := _) rfl (fun K hK => ?_) AllReadyH.nil)
            · go_simp
              refine (up_two UD.out oc (by omega)).mono ?_
              rintro e V1 ⟨b1, rfl, u, b⟩
              have U1 : Hid (Up od q none g #[.int .i64 oc, .int .i64 od, .string (strOfNums ds)] w0 V1 (.slice ao N co) N (opsB (os.take k))) := u
              have B1 : Hid (BS V1 b1 2 (be oc 2)) := b
              clear u b UD
              refine hK _ _ (three U1.out.op) (fun hHeld => ?_)
              try simp only [List.getElem_toArray, List.getElem_cons_zero, List.getElem_cons_succ, Act.put, List.setIfInBounds_toArray, List.set_cons_zero, List.set_cons_succ]
              refine wpAnyH_ready (rs := [5, 14]) (by kernel_rfl) (by simp) ?_
              refine AllReadyH.cons (o := _) rfl (fun K hK => ?_) (AllReadyH.cons (o := _) rfl (fun K hK => ?_) AllReadyH.nil)
              · refine step_append_up Try.underlying26 info5 rfl (.tmp 80) (.tmp 84) rfl _ N (opsB (os.take k)) rfl U1.out _ 2 2 (be oc 2) rfl B1.out (by omega) ?_
                intro a2 c2 V2 u
                have U2 : Hid (Up od q none g #[.int .i64 oc, .int .i64 od, .string (strOfNums ds)] w0 V2 (.slice a2 (N + 2) c2) (N + 2) ((opsB (os.take k)) ++ be oc 2)) := u
                clear u U1 B1
                refine hK _ _ (three U2.out.op) (fun hHeld => ?_)
                try simp only [List.getElem_toArray, List.getElem_cons_zero, List.getElem_cons_succ, Act.put, List.setIfInBounds_toArray, List.set_cons_zero, List.set_cons_succ]
                refine wpAnyH_ready (rs := [14]) (by kernel_rfl) (by simp) ?_
                refine AllReadyH.cons (o := _) rfl (fun K hK => ?_) AllReadyH.nil
                go_simp
                have U3 : Hid (Up od q (some V2.heap.size) g #[.int .i64 oc, .int .i64 od, .string (strOfNums ds)] w0 (V2.alloc (.cells #[.int .u8 od, .int .u8 q] 5)) (.slice a2 (N + 2) c2) (N + 2) ((opsB (os.take k)) ++ be oc 2)) := U2.out.build
                clear U2
                obtain ⟨V3, hV⟩ : ∃ V', V2.alloc (.cells #[.int .u8 od, .int .u8 q] 5) = V' := ⟨_, rfl⟩
                obtain ⟨g3, hb⟩ : ∃ b', V2.heap.size = b' := ⟨_, rfl⟩
                rw [hV] at U3 ⊢
                rw [hb] at U3 ⊢
                clear hV hb
                refine hK _ _ (three U3.out.op) (fun hHeld => ?_)
                try simp only [List.getElem_toArray, List.getElem_cons_zero, List.getElem_cons_succ, Act.put, List.setIfInBounds_toArray, List.set_cons_zero, List.set_cons_succ]
                refine wpAnyH_ready (rs := [15]) (by kernel_rfl) (by simp) ?_
                refine AllReadyH.cons (o := _) rfl (fun K hK => ?_) AllReadyH.nil
                refine step_append_up Try.underlying26 info5 rfl (.tmp 85) (.tmp 94) rfl _ (N + 2) ((opsB (os.take k)) ++ be oc 2) rfl U3.out _ 2 2 ([od, q]) rfl (U3.out.bs (by omega) (by omega)) (by omega) ?_
                intro a4 c4 V4 u
                have U4 : Hid (Up od q (some g3) g #[.int .i64 oc, .int .i64 od, .string (strOfNums ds)] w0 V4 (.slice a4 ((N + 2) + 2) c4) ((N + 2) + 2) (((opsB (os.take k)) ++ be oc 2) ++ [od, q])) := u
                clear u U3
                refine hK _ _ (three U4.out.op) (fun hHeld => ?_)
                try simp only [List.getElem_toArray, List.getElem_cons_zero, List.getElem_cons_succ, Act.put, List.setIfInBounds_toArray, List.set_cons_zero, List.set_cons_succ]
                refine wpAnyH_ready (rs := [18]) (by kernel_rfl) (by simp) ?_
                refine AllReadyH.cons (o := _) rfl (fun K hK => ?_) AllReadyH.nil
                refine step_append_upt rfl (.tmp 95) (.tmp 97) rfl _ ((N + 2) + 2) (((opsB (os.take k)) ++ be oc 2) ++ [od, q]) rfl U4.out ds hfit rfl (by omega) ?_
                intro a5 c5 V5 u uo
                have OK : Hid (V5.heap[g]? = some (.cells #[.int .i64 oc, .int .i64 od, .string (strOfNums ds)] 38 (0, 0))) := uo
                have R5 : Hid (RB w0 V5 (.slice a5 (((N + 2) + 2) + ds.length) c5) (((N + 2) + 2) + ds.length) ((((opsB (os.take k)) ++ be oc 2) ++ [od, q]) ++ ds)) := u
                clear u uo U4
                refine hK _ _ (three OK.out) (fun hHeld => ?_)
                try simp only [List.getElem_toArray, List.getElem_cons_zero, List.getElem_cons_succ, Act.put, List.setIfInBounds_toArray, List.set_cons_zero, List.set_cons_succ]
                refine wpAnyH_take (i := 19) (v := ?_) rfl (by kernel_rfl) (by kernel_rfl) (by kernel_rfl) (fun _ _ _ h => h) (Or.inl ⟨by rfl, ?_⟩) (by assumption) ?_
                rotate_left
                · (intro w hSw; (try dsimp only at hSw); go_simp; try with_reducible rfl)
                try simp only [List.getElem_toArray, List.getElem_cons_zero, List.getElem_cons_succ, Act.put, List.setIfInBounds_toArray, List.set_cons_zero, List.set_cons_succ]
                refine wpAnyH_done (by kernel_rfl) ?_ _
                clear hHeld
                try simp only [List.getElem_toArray, List.getElem_cons_zero, List.getElem_cons_succ, Act.put, List.setIfInBounds_toArray, List.set_cons_zero, List.set_cons_succ]
                have RX : Hid (∃ a c, Value.slice a5 (((N + 2) + 2) + ds.length) c5 = .slice a (((N + 2) + 2) + ds.length) c ∧ RB w0 V5 (.slice a (((N + 2) + 2) + ds.length) c) (((N + 2) + 2) + ds.length) ((((opsB (os.take k)) ++ be oc 2) ++ [od, q]) ++ ds)) := ⟨_, _, rfl, R5.out⟩
                obtain ⟨M, hM⟩ : ∃ M, (((N + 2) + 2) + ds.length) = M := ⟨_, rfl⟩
                have hMI : (M : Int) = szO (os.take (k + 1)) := by have h9 := HNk.out; rw [← hM, HSZ.out, ← h9]; push_cast; omega
                have RY : Hid (RB w0 V5 (.slice a5 M c5) M (opsB (os.take (k + 1)))) := by
                  rw [HOB.out, ← hM]
                  have := R5.out
                  simp only [List.append_assoc, List.cons_append, List.nil_append] at this ⊢
                  exact this
                have HM3 : Hid _ := hM
                rw [hM]
                clear hM RX R5
                by_cases hz : (252 : Int) < (M : Int)
                · have HE1 : Hid (chkE sp vni os fr.length = 1) := HBAD2.out (by omega)
                  have HB2 : Hid (Below w.heap.size w V5) := BW.out.trans (RY.out.bel.mono BW.out.size)
                  clear RY hMI
                  go_wp2
                  go_ret2
                  exact REnc.no HE1.out (by decide) HB2.out
                · have hN2 : Hid (szO (os.take (k + 1)) ≤ 252) := by show _ ≤ _; omega
                  clear hMI
                  go_wp2
                  go_roundw
                  case rel => exact ⟨k + 1, _, _, M, by omega, by go_num, CRK.out, rfl, RY.out, HALL.out, hN2.out⟩
                  case measure => simp [intOf]; omega
              · go_simp
                have U6 : Hid (Up od q (some V1.heap.size) g #[.int .i64 oc, .int .i64 od, .string (strOfNums ds)] w0 (V1.alloc (.cells #[.int .u8 od, .int .u8 q] 5)) (.slice ao N co) N (opsB (os.take k))) := U1.out.build
                have B6 : Hid (BS (V1.alloc (.cells #[.int .u8 od, .int .u8 q] 5)) b1 2 (be oc 2)) := B1.out.below (below1 _ _)
                clear U1 B1
                obtain ⟨V6, hV⟩ : ∃ V', V1.alloc (.cells #[.int .u8 od, .int .u8 q] 5) = V' := ⟨_, rfl⟩
                obtain ⟨g6, hb⟩ : ∃ b', V1.heap.size = b' := ⟨_, rfl⟩
                rw [hV] at U6 B6 ⊢
                rw [hb] at U6 ⊢
                clear hV hb
                refine hK _ _ (three U6.out.op) (fun hHeld => ?_)
                try simp only [List.getElem_toArray, List.getElem_cons_zero, List.getElem_cons_succ, Act.put, List.setIfInBounds_toArray, List.set_cons_zero, List.set_cons_succ]
                refine wpAnyH_ready (rs := [5]) (by kernel_rfl) (by simp) ?_
                refine AllReadyH.cons (o := _) rfl (fun K hK => ?_) AllReadyH.nil
                refine step_append_up Try.underlying26 info5 rfl (.tmp 80) (.tmp 84) rfl _ N (opsB (os.take k)) rfl U6.out _ 2 2 (be oc 2) rfl B6.out (by omega) ?_
                intro a7 c7 V7 u
                have U7 : Hid (Up od q (some g6) g #[.int .i64 oc, .int .i64 od, .string (strOfNums ds)] w0 V7 (.slice a7 (N + 2) c7) (N + 2) ((opsB (os.take k)) ++ be oc 2)) := u
                clear u U6 B6
                refine hK _ _ (three U7.out.op) (fun hHeld => ?_)
                try simp only [List.getElem_toArray, List.getElem_cons_zero, List.getElem_cons_succ, Act.put, List.setIfInBounds_toArray, List.set_cons_zero, List.set_cons_succ]
                refine wpAnyH_ready (rs := [15]) (by kernel_rfl) (by simp) ?_
                refine AllReadyH.cons (o := _) rfl (fun K hK => ?_) AllReadyH.nil
                refine step_append_up Try.underlying26 info5 rfl (.tmp 85) (.tmp 94) rfl _ (N + 2) ((opsB (os.take k)) ++ be oc 2) rfl U7.out _ 2 2 ([od, q]) rfl (U7.out.bs (by omega) (by omega)) (by omega) ?_
                intro a8 c8 V8 u
                have U8 : Hid (Up od q (some g6) g #[.int .i64 oc, .int .i64 od, .string (strOfNums ds)] w0 V8 (.slice a8 ((N + 2) + 2) c8) ((N + 2) + 2) (((opsB (os.take k)) ++ be oc 2) ++ [od, q])) := u
                clear u U7
                refine hK _ _ (three U8.out.op) (fun hHeld => ?_)
                try simp only [List.getElem_toArray, List.getElem_cons_zero, List.getElem_cons_succ, Act.put, List.setIfInBounds_toArray, List.set_cons_zero, List.set_cons_succ]
                refine wpAnyH_ready (rs := [18]) (by kernel_rfl) (by simp) ?_
                refine AllReadyH.cons (o := _) rfl (fun K hK => ?_) AllReadyH.nil
                refine step_append_upt rfl (.tmp 95) (.tmp 97) rfl _ ((N + 2) + 2) (((opsB (os.take k)) ++ be oc 2) ++ [od, q]) rfl U8.out ds hfit rfl (by omega) ?_
                intro a9 c9 V9 u uo
                have OK : Hid (V9.heap[g]? = some (.cells #[.int .i64 oc, .int .i64 od, .string (strOfNums ds)] 38 (0, 0))) := uo
                have R9 : Hid (RB w0 V9 (.slice a9 (((N + 2) + 2) + ds.length) c9) (((N + 2) + 2) + ds.length) ((((opsB (os.take k)) ++ be oc 2) ++ [od, q]) ++ ds)) := u
                clear u uo U8
                refine hK _ _ (three OK.out) (fun hHeld => ?_)
                try simp only [List.getElem_toArray, List.getElem_cons_zero, List.getElem_cons_succ, Act.put, List.setIfInBounds_toArray, List.set_cons_zero, List.set_cons_succ]
                refine wpAnyH_take (i := 19) (v := ?_) rfl (by kernel_rfl) (by kernel_rfl) (by kernel_rfl) (fun _ _ _ h => h) (Or.inl ⟨by rfl, ?_⟩) (by assumption) ?_
                rotate_left
                · (intro w hSw; (try dsimp only at hSw); go_simp; try with_reducible rfl)
                try simp only [List.getElem_toArray, List.getElem_cons_zero, List.getElem_cons_succ, Act.put, List.setIfInBounds_toArray, List.set_cons_zero, List.set_cons_succ]
                refine wpAnyH_done (by kernel_rfl) ?_ _
                clear hHeld
                try simp only [List.getElem_toArray, List.getElem_cons_zero, List.getElem_cons_succ, Act.put, List.setIfInBounds_toArray, List.set_cons_zero, List.set_cons_succ]
                have RX : Hid (∃ a c, Value.slice a9 (((N + 2) + 2) + ds.length) c9 = .slice a (((N + 2) + 2) + ds.length) c ∧ RB w0 V9 (.slice a (((N + 2) + 2) + ds.length) c) (((N + 2) + 2) + ds.length) ((((opsB (os.take k)) ++ be oc 2) ++ [od, q]) ++ ds)) := ⟨_, _, rfl, R9.out⟩
                obtain ⟨M, hM⟩ : ∃ M, (((N + 2) + 2) + ds.length) = M := ⟨_, rfl⟩
                have hMI : (M : Int) = szO (os.take (k + 1)) := by have h9 := HNk.out; rw [← hM, HSZ.out, ← h9]; push_cast; omega
                have RY : Hid (RB w0 V9 (.slice a9 M c9) M (opsB (os.take (k + 1)))) := by
                  rw [HOB.out, ← hM]
                  have := R9.out
                  simp only [List.append_assoc, List.cons_append, List.nil_append] at this ⊢
                  exact this
                have HM3 : Hid _ := hM
                rw [hM]
                clear hM RX R9
                by_cases hz : (252 : Int) < (M : Int)
                · have HE1 : Hid (chkE sp vni os fr.length = 1) := HBAD2.out (by omega)
                  have HB2 : Hid (Below w.heap.size w V9) := BW.out.trans (RY.out.bel.mono BW.out.size)
                  clear RY hMI
                  go_wp2
                  go_ret2
                  exact REnc.no HE1.out (by decide) HB2.out
                · have hN2 : Hid (szO (os.take (k + 1)) ≤ 252) := by show _ ≤ _; omega
                  clear hMI
                  go_wp2
                  go_roundw
                  case rel => exact ⟨k + 1, _, _, M, by omega, by go_num, CRK.out, rfl, RY.out, HALL.out, hN2.out⟩
                  case measure => simp [intOf]; omega
            · go_simp
              have U10 : Hid (Up od q (some VD.heap.size) g #[.int .i64 oc, .int .i64 od, .string (strOfNums ds)] w0 (VD.alloc (.cells #[.int .u8 od, .int .u8 q] 5)) (.slice ao N co) N (opsB (os.take k))) := UD.out.build
              clear UD
              obtain ⟨V10, hV⟩ : ∃ V', VD.alloc (.cells #[.int .u8 od, .int .u8 q] 5) = V' := ⟨_, rfl⟩
              obtain ⟨g10, hb⟩ : ∃ b', VD.heap.size = b' := ⟨_, rfl⟩
              rw [hV] at U10 ⊢
              rw [hb] at U10 ⊢
              clear hV hb
              refine hK _ _ (three U10.out.op) (fun hHeld => ?_)
              try simp only [List.getElem_toArray, List.getElem_cons_zero, List.getElem_cons_succ, Act.put, List.setIfInBounds_toArray, List.set_cons_zero, List.set_cons_succ]
              refine wpAnyH_ready (rs := [4]) (by kernel_rfl) (by simp) ?_
              refine AllReadyH.cons (o := _) rfl (fun K hK => ?_) AllReadyH.nil
              go_simp
              refine (up_two U10.out oc (by omega)).mono ?_
              rintro e V11 ⟨b11, rfl, u, b⟩
              have U11 : Hid (Up od q (some g10) g #[.int .i64 oc, .int .i64 od, .string (strOfNums ds)] w0 V11 (.slice ao N co) N (opsB (os.take k))) := u
              have B11 : Hid (BS V11 b11 2 (be oc 2)) := b
              clear u b U10
              refine hK _ _ (three U11.out.op) (fun hHeld => ?_)
              try simp only [List.getElem_toArray, List.getElem_cons_zero, List.getElem_cons_succ, Act.put, List.setIfInBounds_toArray, List.set_cons_zero, List.set_cons_succ]
              refine wpAnyH_ready (rs := [5]) (by kernel_rfl) (by simp) ?_
              refine AllReadyH.cons (o := _) rfl (fun K hK => ?_) AllReadyH.nil
              refine step_append_up Try.underlying26 info5 rfl (.tmp 80) (.tmp 84) rfl _ N (opsB (os.take k)) rfl U11.out _ 2 2 (be oc 2) rfl B11.out (by omega) ?_
              intro a12 c12 V12 u
              have U12 : Hid (Up od q (some g10) g #[.int .i64 oc, .int .i64 od, .string (strOfNums ds)] w0 V12 (.slice a12 (N + 2) c12) (N + 2) ((opsB (os.take k)) ++ be oc 2)) := u
              clear u U11 B11
              refine hK _ _ (three U12.out.op) (fun hHeld => ?_)
              try simp only [List.getElem_toArray, List.getElem_cons_zero, List.getElem_cons_succ, Act.put, List.setIfInBounds_toArray, List.set_cons_zero, List.set_cons_succ]
              refine wpAnyH_ready (rs := [15]) (by kernel_rfl) (by simp) ?_
              refine AllReadyH.cons (o := _) rfl (fun K hK => ?_) AllReadyH.nil
              refine step_append_up Try.underlying26 info5 rfl (.tmp 85) (.tmp 94) rfl _ (N + 2) ((opsB (os.take k)) ++ be oc 2) rfl U12.out _ 2 2 ([od, q]) rfl (U12.out.bs (by omega) (by omega)) (by omega) ?_
              intro a13 c13 V13 u
              have U13 : Hid (Up od q (some g10) g #[.int .i64 oc, .int .i64 od, .string (strOfNums ds)] w0 V13 (.slice a13 ((N + 2) + 2) c13) ((N + 2) + 2) (((opsB (os.take k)) ++ be oc 2) ++ [od, q])) := u
              clear u U12
              refine hK _ _ (three U13.out.op) (fun hHeld => ?_)
              try simp only [List.getElem_toArray, List.getElem_cons_zero, List.getElem_cons_succ, Act.put, List.setIfInBounds_toArray, List.set_cons_zero, List.set_cons_succ]
              refine wpAnyH_ready (rs := [18]) (by kernel_rfl) (by simp) ?_
              refine AllReadyH.cons (o := _) rfl (fun K hK => ?_) AllReadyH.nil
              refine step_append_upt rfl (.tmp 95) (.tmp 97) rfl _ ((N + 2) + 2) (((opsB (os.take k)) ++ be oc 2) ++ [od, q]) rfl U13.out ds hfit rfl (by omega) ?_
              intro a14 c14 V14 u uo
              have OK : Hid (V14.heap[g]? = some (.cells #[.int .i64 oc, .int .i64 od, .string (strOfNums ds)] 38 (0, 0))) := uo
              have R14 : Hid (RB w0 V14 (.slice a14 (((N + 2) + 2) + ds.length) c14) (((N + 2) + 2) + ds.length) ((((opsB (os.take k)) ++ be oc 2) ++ [od, q]) ++ ds)) := u
              clear u uo U13
              refine hK _ _ (three OK.out) (fun hHeld => ?_)
              try simp only [List.getElem_toArray, List.getElem_cons_zero, List.getElem_cons_succ, Act.put, List.setIfInBounds_toArray, List.set_cons_zero, List.set_cons_succ]
              refine wpAnyH_take (i := 19) (v := ?_) rfl (by kernel_rfl) (by kernel_rfl) (by kernel_rfl) (fun _ _ _ h => h) (Or.inl ⟨by rfl, ?_⟩) (by assumption) ?_
              rotate_left
              · (intro w hSw; (try dsimp only at hSw); go_simp; try with_reducible rfl)
              try simp only [List.getElem_toArray, List.getElem_cons_zero, List.getElem_cons_succ, Act.put, List.setIfInBounds_toArray, List.set_cons_zero, List.set_cons_succ]
              refine wpAnyH_done (by kernel_rfl) ?_ _
              clear hHeld
              try simp only [List.getElem_toArray, List.getElem_cons_zero, List.getElem_cons_succ, Act.put, List.setIfInBounds_toArray, List.set_cons_zero, List.set_cons_succ]
              have RX : Hid (∃ a c, Value.slice a14 (((N + 2) + 2) + ds.length) c14 = .slice a (((N + 2) + 2) + ds.length) c ∧ RB w0 V14 (.slice a (((N + 2) + 2) + ds.length) c) (((N + 2) + 2) + ds.length) ((((opsB (os.take k)) ++ be oc 2) ++ [od, q]) ++ ds)) := ⟨_, _, rfl, R14.out⟩
              obtain ⟨M, hM⟩ : ∃ M, (((N + 2) + 2) + ds.length) = M := ⟨_, rfl⟩
              have hMI : (M : Int) = szO (os.take (k + 1)) := by have h9 := HNk.out; rw [← hM, HSZ.out, ← h9]; push_cast; omega
              have RY : Hid (RB w0 V14 (.slice a14 M c14) M (opsB (os.take (k + 1)))) := by
                rw [HOB.out, ← hM]
                have := R14.out
                simp only [List.append_assoc, List.cons_append, List.nil_append] at this ⊢
                exact this
              have HM3 : Hid _ := hM
              rw [hM]
              clear hM RX R14
              by_cases hz : (252 : Int) < (M : Int)
              · have HE1 : Hid (chkE sp vni os fr.length = 1) := HBAD2.out (by omega)
                have HB2 : Hid (Below w.heap.size w V14) := BW.out.trans (RY.out.bel.mono BW.out.size)
                clear RY hMI
                go_wp2
                go_ret2
                exact REnc.no HE1.out (by decide) HB2.out
              · have hN2 : Hid (szO (os.take (k + 1)) ≤ 252) := by show _ ≤ _; omega
                clear hMI
                go_wp2
                go_roundw
                case rel => exact ⟨k + 1, _, _, M, by omega, by go_num, CRK.out, rfl, RY.out, HALL.out, hN2.out⟩
                case measure => simp [intOf]; omega
        · cases cp
          · have CRK : Hid (Value.bool false = Value.bool ((os.take (k + 1)).any critB)) := by show _ = _; rw [HCR.out, HCB.out]; simp [hc8]
            clear HCB HCR
            go_wp2_with fail
            have d9 : True := trivial
            clear e1 e2 e3 e4 e5 e6 c0 c1' c2' d9
            have hNb : (N : Int) ≤ 252 := by have := HNk.out; have := HZk.out; omega
            have UP : Hid (Up od ((ds.length : Int) / 4) none wr.heap.size #[.int .i64 oc, .int .i64 od, .string (strOfNums ds)] w0 (wr.alloc (.cells #[.int .i64 oc, .int .i64 od, .string (strOfNums ds)] 38)) (.slice ao N co) N (opsB (os.take k))) := ⟨⟨RK.out.own.alloc _, RK.out.bel.alloc RK.out.bel.size _⟩, fun b hb => (by cases hb), fun b hb => (by cases hb), R_q.out⟩
            obtain ⟨q, hqq⟩ : ∃ q, (ds.length : Int) / 4 = q := ⟨_, rfl⟩
            rw [hqq] at UP hq8 HOB
            have hw0 : IntKind.u64.wrap oc = oc := by simp [IntKind.wrap, IntKind.bits, IntKind.signed]; omega
            have hw1 : IntKind.u8.wrap od = od := by simp [IntKind.wrap, IntKind.bits, IntKind.signed]; omega
            have hw3 : IntKind.i64.wrap q = q := by simp [IntKind.wrap, IntKind.bits, IntKind.signed]; omega
            have hw2 : IntKind.u8.wrap q = q := by simp [IntKind.wrap, IntKind.bits, IntKind.signed]; omega
            obtain ⟨g, hg⟩ : ∃ g, wr.heap.size = g := ⟨_, rfl⟩
            rw [hg] at UP ⊢
            obtain ⟨V0, hV0⟩ : ∃ V', wr.alloc (.cells #[.int .i64 oc, .int .i64 od, .string (strOfNums ds)] 38) = V' := ⟨_, rfl⟩
            rw [hV0] at UP ⊢
            clear hg hV0
            have UD : Hid (Up od q none g #[.int .i64 oc, .int .i64 od, .string (strOfNums ds)] w0 V0.drew (.slice ao N co) N (opsB (os.take k))) := ⟨UP.out.rb.drew, UP.out.at0, UP.out.ap, UP.out.op⟩
            clear UP
            refine wp_region_held_drew (S := (fun W => W.cell? ⟨g, 0, none⟩ = some (.int .i64 oc) ∧ W.cell? ⟨g, 1, none⟩ = some (.int .i64 od) ∧ W.cell? ⟨g, 2, none⟩ = some (.string (strOfNums ds)))) (by kernel_rfl) ?_ (fun hHeld => ?_)
            · exact three UD.out.op
            obtain ⟨VD, hVD⟩ : ∃ V', V0.drew = V' := ⟨_, rfl⟩
            rw [hVD] at UD hHeld ⊢
            clear hVD
            refine wpAnyH_take (i := 0) (v := ?_) rfl (by kernel_rfl) (by kernel_rfl) (by kernel_rfl) (fun _ _ _ h => h) (Or.inl ⟨by rfl, ?_⟩) (by assumption) ?_
            rotate_left
            · (intro w hSw; (try dsimp only at hSw); go_simp; try with_reducible rfl)
            try simp only [List.getElem_toArray, List.getElem_cons_zero, List.getElem_cons_succ, Act.put, List.setIfInBounds_toArray, List.set_cons_zero, List.set_cons_succ]
            refine wpAnyH_take (i := 1) (v := ?_) rfl (by kernel_rfl) (by kernel_rfl) (by kernel_rfl) (fun _ _ _ h => h) (Or.inl ⟨by rfl, ?_⟩) (by assumption) ?_
            rotate_left
            · (intro w hSw; (try dsimp only at hSw); go_simp; try with_reducible rfl)
            try simp only [List.getElem_toArray, List.getElem_cons_zero, List.getElem_cons_succ, Act.put, List.setIfInBounds_toArray, List.set_cons_zero, List.set_cons_succ]
            refine wpAnyH_take (i := 2) (v := ?_) rfl (by kernel_rfl) (by kernel_rfl) (by kernel_rfl) (fun _ _ _ h => h) (Or.inl ⟨by rfl, ?_⟩) (by assumption) ?_
            rotate_left
            · (intro w hSw; (try dsimp only at hSw); go_simp; try with_reducible rfl)
            try simp only [List.getElem_toArray, List.getElem_cons_zero, List.getElem_cons_succ, Act.put, List.setIfInBounds_toArray, List.set_cons_zero, List.set_cons_succ]
            refine wpAnyH_take (i := 3) (v := ?_) rfl (by kernel_rfl) (by kernel_rfl) (by kernel_rfl) (fun _ _ _ h => h) (Or.inl ⟨by rfl, ?_⟩) (by assumption) ?_
            rotate_left
            · (intro w hSw; (try dsimp only at hSw); go_simp; try with_reducible rfl)
            try simp only [List.getElem_toArray, List.getElem_cons_zero, List.getElem_cons_succ, Act.put, List.setIfInBounds_toArray, List.set_cons_zero, List.set_cons_succ]
            refine wpAnyH_take (i := 6) (v := ?_) rfl (by kernel_rfl) (by kernel_rfl) (by kernel_rfl) (fun _ _ _ h => h) (Or.inl ⟨by rfl, ?_⟩) (by assumption) ?_
            rotate_left
            · (intro w hSw; (try dsimp only at hSw); go_simp; try with_reducible rfl)
            try simp only [List.getElem_toArray, List.getElem_cons_zero, List.getElem_cons_succ, Act.put, List.setIfInBounds_toArray, List.set_cons_zero, List.set_cons_succ]
            refine wpAnyH_take (i := 7) (v := ?_) rfl (by kernel_rfl) (by kernel_rfl) (by kernel_rfl) (fun _ _ _ h => h) (Or.inl ⟨by rfl, ?_⟩) (by assumption) ?_
            rotate_left
            · (intro w hSw; (try dsimp only at hSw); go_simp; try with_reducible rfl)
            try simp only [List.getElem_toArray, List.getElem_cons_zero, List.getElem_cons_succ, Act.put, List.setIfInBounds_toArray, List.set_cons_zero, List.set_cons_succ]
            refine wpAnyH_take (i := 8) (v := ?_) rfl (by kernel_rfl) (by kernel_rfl) (by kernel_rfl) (fun _ _ _ h => h) (Or.inl ⟨by rfl, ?_⟩) (by assumption) ?_
            rotate_left
            · (intro w hSw; (try dsimp only at hSw); go_simp; try with_reducible rfl)
            try simp only [List.getElem_toArray, List.getElem_cons_zero, List.getElem_cons_succ, Act.put, List.setIfInBounds_toArray, List.set_cons_zero, List.set_cons_succ]
            refine wpAnyH_take (i := 9) (v := ?_) rfl (by kernel_rfl) (by kernel_rfl) (by kernel_rfl) (fun _ _ _ h => h) (Or.inl ⟨by rfl, ?_⟩) (by assumption) ?_
            rotate_left
            · (intro w hSw; (try dsimp only at hSw); go_simp; try with_reducible rfl)
            try simp only [List.getElem_toArray, List.getElem_cons_zero, List.getElem_cons_succ, Act.put, List.setIfInBounds_toArray, List.set_cons_zero, List.set_cons_succ]
            refine wpAnyH_take (i := 10) (v := ?_) rfl (by kernel_rfl) (by kernel_rfl) (by kernel_rfl) (fun _ _ _ h => h) (Or.inl ⟨by rfl, ?_⟩) (by assumption) ?_
            rotate_left
            · (intro w hSw; (try dsimp only at hSw); go_simp; try with_reducible rfl)
            try simp only [List.getElem_toArray, List.getElem_cons_zero, List.getElem_cons_succ, Act.put, List.setIfInBounds_toArray, List.set_cons_zero, List.set_cons_succ]
            refine wpAnyH_take (i := 11) (v := ?_) rfl (by kernel_rfl) (by kernel_rfl) (by kernel_rfl) (fun _ _ _ h => h) (Or.inl ⟨by rfl, ?_⟩) (by assumption) ?_
            rotate_left
            · (intro w hSw; (try dsimp only at hSw); go_simp; try with_reducible rfl)
            try simp only [List.getElem_toArray, List.getElem_cons_zero, List.getElem_cons_succ, Act.put, List.setIfInBounds_toArray, List.set_cons_zero, List.set_cons_succ]
            refine wpAnyH_take (i := 12) (v := ?_) rfl (by kernel_rfl) (by kernel_rfl) (by kernel_rfl) (fun _ _ _ h => h) (Or.inl ⟨by rfl, ?_⟩) (by assumption) ?_
            rotate_left
            · (intro w hSw; (try dsimp only at hSw); go_simp; try with_reducible rfl)
            try simp only [List.getElem_toArray, List.getElem_cons_zero, List.getElem_cons_succ, Act.put, List.setIfInBounds_toArray, List.set_cons_zero, List.set_cons_succ]
            refine wpAnyH_take (i := 13) (v := ?_) rfl (by kernel_rfl) (by kernel_rfl) (by kernel_rfl) (fun _ _ _ h => h) (Or.inl ⟨by rfl, ?_⟩) (by assumption) ?_
            rotate_left
            · (intro w hSw; (try dsimp only at hSw); go_simp; try with_reducible rfl)
            try simp only [List.getElem_toArray, List.getElem_cons_zero, List.getElem_cons_succ, Act.put, List.setIfInBounds_toArray, List.set_cons_zero, List.set_cons_succ]
            refine wpAnyH_take (i := 16) (v := ?_) rfl (by kernel_rfl) (by kernel_rfl) (by kernel_rfl) (fun _ _ _ h => h) (Or.inl ⟨by rfl, ?_⟩) (by assumption) ?_
            rotate_left
            · (intro w hSw; (try dsimp only at hSw); go_simp; try with_reducible rfl)
            try simp only [List.getElem_toArray, List.getElem_cons_zero, List.getElem_cons_succ, Act.put, List.setIfInBounds_toArray, List.set_cons_zero, List.set_cons_succ]
            refine wpAnyH_take (i := 17) (v := ?_) rfl (by kernel_rfl) (by kernel_rfl) (by kernel_rfl) (fun _ _ _ h => h) (Or.inl ⟨by rfl, ?_⟩) (by assumption) ?_
            rotate_left
            · (intro w hSw; (try dsimp only at hSw); go_simp; try with_reducible rfl)
            try simp only [List.getElem_toArray, List.getElem_cons_zero, List.getElem_cons_succ, Act.put, List.setIfInBounds_toArray, List.set_cons_zero, List.set_cons_succ]
            refine wpAnyH_ready (rs := [4, 14]) (by kernel_rfl) (by simp) ?_
            refine AllReadyH.cons (o := _) rfl (fun K hK => ?_) (AllReadyH.cons (o := _) rfl (fun K hK => ?_) AllReadyH.nil)
            · go_simp
              refine (up_two UD.out oc (by omega)).mono ?_
              rintro e V1 ⟨b1, rfl, u, b⟩
              have U1 : Hid (Up od q none g #[.int .i64 oc, .int .i64 od, .string (strOfNums ds)] w0 V1 (.slice ao N co) N (opsB (os.take k))) := u
              have B1 : Hid (BS V1 b1 2 (be oc 2)) := b
              clear u b UD
              refine hK _ _ (three U1.out.op) (fun hHeld => ?_)
              try simp only [List.getElem_toArray, List.getElem_cons_zero, List.getElem_cons_succ, Act.put, List.setIfInBounds_toArray, List.set_cons_zero, List.set_cons_succ]
              refine wpAnyH_ready (rs := [5, 14]) (by kernel_rfl) (by simp) ?_
              refine AllReadyH.cons (o := _) rfl (fun K hK => ?_) (AllReadyH.cons (o := _) rfl (fun K hK => ?_) AllReadyH.nil)
              · refine step_append_up Try.underlying26 info5 rfl (.tmp 80) (.tmp 84) rfl _ N (opsB (os.take k)) rfl U1.out _ 2 2 (be oc 2) rfl B1.out (by omega) ?_
                intro a2 c2 V2 u
                have U2 : Hid (Up od q none g #[.int .i64 oc, .int .i64 od, .string (strOfNums ds)] w0 V2 (.slice a2 (N + 2) c2) (N + 2) ((opsB (os.take k)) ++ be oc 2)) := u
                clear u U1 B1
                refine hK _ _ (three U2.out.op) (fun hHeld => ?_)
                try simp only [List.getElem_toArray, List.getElem_cons_zero, List.getElem_cons_succ, Act.put, List.setIfInBounds_toArray, List.set_cons_zero, List.set_cons_succ]
                refine wpAnyH_ready (rs := [14]) (by kernel_rfl) (by simp) ?_
                refine AllReadyH.cons (o := _) rfl (fun K hK => ?_) AllReadyH.nil
                go_simp
                have U3 : Hid (Up od q (some V2.heap.size) g #[.int .i64 oc, .int .i64 od, .string (strOfNums ds)] w0 (V2.alloc (.cells #[.int .u8 od, .int .u8 q] 5)) (.slice a2 (N + 2) c2) (N + 2) ((opsB (os.take k)) ++ be oc 2)) := U2.out.build
                clear U2
                obtain ⟨V3, hV⟩ : ∃ V', V2.alloc (.cells #[.int .u8 od, .int .u8 q] 5) = V' := ⟨_, rfl⟩
                obtain ⟨g3, hb⟩ : ∃ b', V2.heap.size = b' := ⟨_, rfl⟩
                rw [hV] at U3 ⊢
                rw [hb] at U3 ⊢
                clear hV hb
                refine hK _ _ (three U3.out.op) (fun hHeld => ?_)
                try simp only [List.getElem_toArray, List.getElem_cons_zero, List.getElem_cons_succ, Act.put, List.setIfInBounds_toArray, List.set_cons_zero, List.set_cons_succ]
                refine wpAnyH_ready (rs := [15]) (by kernel_rfl) (by simp) ?_
                refine AllReadyH.cons (o := _) rfl (fun K hK => ?_) AllReadyH.nil
                refine step_append_up Try.underlying26 info5 rfl (.tmp 85) (.tmp 94) rfl _ (N + 2) ((opsB (os.take k)) ++ be oc 2) rfl U3.out _ 2 2 ([od, q]) rfl (U3.out.bs (by omega) (by omega)) (by omega) ?_
                intro a4 c4 V4 u
                have U4 : Hid (Up od q (some g3) g #[.int .i64 oc, .int .i64 od, .string (strOfNums ds)] w0 V4 (.slice a4 ((N + 2) + 2) c4) ((N + 2) + 2) (((opsB (os.take k)) ++ be oc 2) ++ [od, q])) := u
                clear u U3
                refine hK _ _ (three U4.out.op) (fun hHeld => ?_)
                try simp only [List.getElem_toArray, List.getElem_cons_zero, List.getElem_cons_succ, Act.put, List.setIfInBounds_toArray, List.set_cons_zero, List.set_cons_succ]
                refine wpAnyH_ready (rs := [18]) (by kernel_rfl) (by simp) ?_
                refine AllReadyH.cons (o := _) rfl (fun K hK => ?_) AllReadyH.nil
                refine step_append_upt rfl (.tmp 95) (.tmp 97) rfl _ ((N + 2) + 2) (((opsB (os.take k)) ++ be oc 2) ++ [od, q]) rfl U4.out ds hfit rfl (by omega) ?_
                intro a5 c5 V5 u uo
                have OK : Hid (V5.heap[g]? = some (.cells #[.int .i64 oc, .int .i64 od, .string (strOfNums ds)] 38 (0, 0))) := uo
                have R5 : Hid (RB w0 V5 (.slice a5 (((N + 2) + 2) + ds.length) c5) (((N + 2) + 2) + ds.length) ((((opsB (os.take k)) ++ be oc 2) ++ [od, q]) ++ ds)) := u
                clear u uo U4
                refine hK _ _ (three OK.out) (fun hHeld => ?_)
                try simp only [List.getElem_toArray, List.getElem_cons_zero, List.getElem_cons_succ, Act.put, List.setIfInBounds_toArray, List.set_cons_zero, List.set_cons_succ]
                refine wpAnyH_take (i := 19) (v := ?_) rfl (by kernel_rfl) (by kernel_rfl) (by kernel_rfl) (fun _ _ _ h => h) (Or.inl ⟨by rfl, ?_⟩) (by assumption) ?_
                rotate_left
                · (intro w hSw; (try dsimp only at hSw); go_simp; try with_reducible rfl)
                try simp only [List.getElem_toArray, List.getElem_cons_zero, List.getElem_cons_succ, Act.put, List.setIfInBounds_toArray, List.set_cons_zero, List.set_cons_succ]
                refine wpAnyH_done (by kernel_rfl) ?_ _
                clear hHeld
                try simp only [List.getElem_toArray, List.getElem_cons_zero, List.getElem_cons_succ, Act.put, List.setIfInBounds_toArray, List.set_cons_zero, List.set_cons_succ]
                have RX : Hid (∃ a c, Value.slice a5 (((N + 2) + 2) + ds.length) c5 = .slice a (((N + 2) + 2) + ds.length) c ∧ RB w0 V5 (.slice a (((N + 2) + 2) + ds.length) c) (((N + 2) + 2) + ds.length) ((((opsB (os.take k)) ++ be oc 2) ++ [od, q]) ++ ds)) := ⟨_, _, rfl, R5.out⟩
                obtain ⟨M, hM⟩ : ∃ M, (((N + 2) + 2) + ds.length) = M := ⟨_, rfl⟩
                have hMI : (M : Int) = szO (os.take (k + 1)) := by have h9 := HNk.out; rw [← hM, HSZ.out, ← h9]; push_cast; omega
                have RY : Hid (RB w0 V5 (.slice a5 M c5) M (opsB (os.take (k + 1)))) := by
                  rw [HOB.out, ← hM]
                  have := R5.out
                  simp only [List.append_assoc, List.cons_append, List.nil_append] at this ⊢
                  exact this
                have HM3 : Hid _ := hM
                rw [hM]
                clear hM RX R5
                by_cases hz : (252 : Int) < (M : Int)
                · have HE1 : Hid (chkE sp vni os fr.length = 1) := HBAD2.out (by omega)
                  have HB2 : Hid (Below w.heap.size w V5) := BW.out.trans (RY.out.bel.mono BW.out.size)
                  clear RY hMI
                  go_wp2
                  go_ret2
                  exact REnc.no HE1.out (by decide) HB2.out
                · have hN2 : Hid (szO (os.take (k + 1)) ≤ 252) := by show _ ≤ _; omega
                  clear hMI
                  go_wp2
                  go_roundw
                  case rel => exact ⟨k + 1, _, _, M, by omega, by go_num, CRK.out, rfl, RY.out, HALL.out, hN2.out⟩
                  case measure => simp [intOf]; omega
              · go_simp
                have U6 : Hid (Up od q (some V1.heap.size) g #[.int .i64 oc, .int .i64 od, .string (strOfNums ds)] w0 (V1.alloc (.cells #[.int .u8 od, .int .u8 q] 5)) (.slice ao N co) N (opsB (os.take k))) := U1.out.build
                have B6 : Hid (BS (V1.alloc (.cells #[.int .u8 od, .int .u8 q] 5)) b1 2 (be oc 2)) := B1.out.below (below1 _ _)
                clear U1 B1
                obtain ⟨V6, hV⟩ : ∃ V', V1.alloc (.cells #[.int .u8 od, .int .u8 q] 5) = V' := ⟨_, rfl⟩
                obtain ⟨g6, hb⟩ : ∃ b', V1.heap.size = b' := ⟨_, rfl⟩
                rw [hV] at U6 B6 ⊢
                rw [hb] at U6 ⊢
                clear hV hb
                refine hK _ _ (three U6.out.op) (fun hHeld => ?_)
                try simp only [List.getElem_toArray, List.getElem_cons_zero, List.getElem_cons_succ, Act.put, List.setIfInBounds_toArray, List.set_cons_zero, List.set_cons_succ]
                refine wpAnyH_ready (rs := [5]) (by kernel_rfl) (by simp) ?_
                refine AllReadyH.cons (o := _) rfl (fun K hK => ?_) AllReadyH.nil
                refine step_append_up Try.underlying26 info5 rfl (.tmp 80) (.tmp 84) rfl _ N (opsB (os.take k)) rfl U6.out _ 2 2 (be oc 2) rfl B6.out (by omega) ?_
                intro a7 c7 V7 u
                have U7 : Hid (Up od q (some g6) g #[.int .i64 oc, .int .i64 od, .string (strOfNums ds)] w0 V7 (.slice a7 (N + 2) c7) (N + 2) ((opsB (os.take k)) ++ be oc 2)) := u
                clear u U6 B6
                refine hK _ _ (three U7.out.op) (fun hHeld => ?_)
                try simp only [List.getElem_toArray, List.getElem_cons_zero, List.getElem_cons_succ, Act.put, List.setIfInBounds_toArray, List.set_cons_zero, List.set_cons_succ]
                refine wpAnyH_ready (rs := [15]) (by kernel_rfl) (by simp) ?_
                refine AllReadyH.cons (o := _) rfl (fun K hK => ?_) AllReadyH.nil
                refine step_append_up Try.underlying26 info5 rfl (.tmp 85) (.tmp 94) rfl _ (N + 2) ((opsB (os.take k)) ++ be oc 2) rfl U7.out _ 2 2 ([od, q]) rfl (U7.out.bs (by omega) (by omega)) (by omega) ?_
                intro a8 c8 V8 u
                have U8 : Hid (Up od q (some g6) g #[.int .i64 oc, .int .i64 od, .string (strOfNums ds)] w0 V8 (.slice a8 ((N + 2) + 2) c8) ((N + 2) + 2) (((opsB (os.take k)) ++ be oc 2) ++ [od, q])) := u
                clear u U7
                refine hK _ _ (three U8.out.op) (fun hHeld => ?_)
                try simp only [List.getElem_toArray, List.getElem_cons_zero, List.getElem_cons_succ, Act.put, List.setIfInBounds_toArray, List.set_cons_zero, List.set_cons_succ]
                refine wpAnyH_ready (rs := [18]) (by kernel_rfl) (by simp) ?_
                refine AllReadyH.cons (o := _) rfl (fun K hK => ?_) AllReadyH.nil
                refine step_append_upt rfl (.tmp 95) (.tmp 97) rfl _ ((N + 2) + 2) (((opsB (os.take k)) ++ be oc 2) ++ [od, q]) rfl U8.out ds hfit rfl (by omega) ?_
                intro a9 c9 V9 u uo
                have OK : Hid (V9.heap[g]? = some (.cells #[.int .i64 oc, .int .i64 od, .string (strOfNums ds)] 38 (0, 0))) := uo
                have R9 : Hid (RB w0 V9 (.slice a9 (((N + 2) + 2) + ds.length) c9) (((N + 2) + 2) + ds.length) ((((opsB (os.take k)) ++ be oc 2) ++ [od, q]) ++ ds)) := u
                clear u uo U8
                refine hK _ _ (three OK.out) (fun hHeld => ?_)
                try simp only [List.getElem_toArray, List.getElem_cons_zero, List.getElem_cons_succ, Act.put, List.setIfInBounds_toArray, List.set_cons_zero, List.set_cons_succ]
                refine wpAnyH_take (i := 19) (v := ?_) rfl (by kernel_rfl) (by kernel_rfl) (by kernel_rfl) (fun _ _ _ h => h) (Or.inl ⟨by rfl, ?_⟩) (by assumption) ?_
                rotate_left
                · (intro w hSw; (try dsimp only at hSw); go_simp; try with_reducible rfl)
                try simp only [List.getElem_toArray, List.getElem_cons_zero, List.getElem_cons_succ, Act.put, List.setIfInBounds_toArray, List.set_cons_zero, List.set_cons_succ]
                refine wpAnyH_done (by kernel_rfl) ?_ _
                clear hHeld
                try simp only [List.getElem_toArray, List.getElem_cons_zero, List.getElem_cons_succ, Act.put, List.setIfInBounds_toArray, List.set_cons_zero, List.set_cons_succ]
                have RX : Hid (∃ a c, Value.slice a9 (((N + 2) + 2) + ds.length) c9 = .slice a (((N + 2) + 2) + ds.length) c ∧ RB w0 V9 (.slice a (((N + 2) + 2) + ds.length) c) (((N + 2) + 2) + ds.length) ((((opsB (os.take k)) ++ be oc 2) ++ [od, q]) ++ ds)) := ⟨_, _, rfl, R9.out⟩
                obtain ⟨M, hM⟩ : ∃ M, (((N + 2) + 2) + ds.length) = M := ⟨_, rfl⟩
                have hMI : (M : Int) = szO (os.take (k + 1)) := by have h9 := HNk.out; rw [← hM, HSZ.out, ← h9]; push_cast; omega
                have RY : Hid (RB w0 V9 (.slice a9 M c9) M (opsB (os.take (k + 1)))) := by
                  rw [HOB.out, ← hM]
                  have := R9.out
                  simp only [List.append_assoc, List.cons_append, List.nil_append] at this ⊢
                  exact this
                have HM3 : Hid _ := hM
                rw [hM]
                clear hM RX R9
                by_cases hz : (252 : Int) < (M : Int)
                · have HE1 : Hid (chkE sp vni os fr.length = 1) := HBAD2.out (by omega)
                  have HB2 : Hid (Below w.heap.size w V9) := BW.out.trans (RY.out.bel.mono BW.out.size)
                  clear RY hMI
                  go_wp2
                  go_ret2
                  exact REnc.no HE1.out (by decide) HB2.out
                · have hN2 : Hid (szO (os.take (k + 1)) ≤ 252) := by show _ ≤ _; omega
                  clear hMI
                  go_wp2
                  go_roundw
                  case rel => exact ⟨k + 1, _, _, M, by omega, by go_num, CRK.out, rfl, RY.out, HALL.out, hN2.out⟩
                  case measure => simp [intOf]; omega
            · go_simp
              have U10 : Hid (Up od q (some VD.heap.size) g #[.int .i64 oc, .int .i64 od, .string (strOfNums ds)] w0 (VD.alloc (.cells #[.int .u8 od, .int .u8 q] 5)) (.slice ao N co) N (opsB (os.take k))) := UD.out.build
              clear UD
              obtain ⟨V10, hV⟩ : ∃ V', VD.alloc (.cells #[.int .u8 od, .int .u8 q] 5) = V' := ⟨_, rfl⟩
              obtain ⟨g10, hb⟩ : ∃ b', VD.heap.size = b' := ⟨_, rfl⟩
              rw [hV] at U10 ⊢
              rw [hb] at U10 ⊢
              clear hV hb
              refine hK _ _ (three U10.out.op) (fun hHeld => ?_)
              try simp only [List.getElem_toArray, List.getElem_cons_zero, List.getElem_cons_succ, Act.put, List.setIfInBounds_toArray, List.set_cons_zero, List.set_cons_succ]
              refine wpAnyH_ready (rs := [4]) (by kernel_rfl) (by simp) ?_
              refine AllReadyH.cons (o := _) rfl (fun K hK => ?_) AllReadyH.nil
              go_simp
              refine (up_two U10.out oc (by omega)).mono ?_
              rintro e V11 ⟨b11, rfl, u, b⟩
              have U11 : Hid (Up od q (some g10) g #[.int .i64 oc, .int .i64 od, .string (strOfNums ds)] w0 V11 (.slice ao N co) N (opsB (os.take k))) := u
              have B11 : Hid (BS V11 b11 2 (be oc 2)) := b
              clear u b U10
              refine hK _ _ (three U11.out.op) (fun hHeld => ?_)
              try simp only [List.getElem_toArray, List.getElem_cons_zero, List.getElem_cons_succ, Act.put, List.setIfInBounds_toArray, List.set_cons_zero, List.set_cons_succ]
              refine wpAnyH_ready (rs := [5]) (by kernel_rfl) (by simp) ?_
              refine AllReadyH.cons (o := _) rfl (fun K hK => ?_) AllReadyH.nil
              refine step_append_up Try.underlying26 info5 rfl (.tmp 80) (.tmp 84) rfl _ N (opsB (os.take k)) rfl U11.out _ 2 2 (be oc 2) rfl B11.out (by omega) ?_
              intro a12 c12 V12 u
              have U12 : Hid (Up od q (some g10) g #[.int .i64 oc, .int .i64 od, .string (strOfNums ds)] w0 V12 (.slice a12 (N + 2) c12) (N + 2) ((opsB (os.take k)) ++ be oc 2)) := u
              clear u U11 B11
              refine hK _ _ (three U12.out.op) (fun hHeld => ?_)
              try simp only [List.getElem_toArray, List.getElem_cons_zero, List.getElem_cons_succ, Act.put, List.setIfInBounds_toArray, List.set_cons_zero, List.set_cons_succ]
              refine wpAnyH_ready (rs := [15]) (by kernel_rfl) (by simp) ?_
              refine AllReadyH.cons (o := _) rfl (fun K hK => ?_) AllReadyH.nil
              refine step_append_up Try.underlying26 info5 rfl (.tmp 85) (.tmp 94) rfl _ (N + 2) ((opsB (os.take k)) ++ be oc 2) rfl U12.out _ 2 2 ([od, q]) rfl (U12.out.bs (by omega) (by omega)) (by omega) ?_
              intro a13 c13 V13 u
              have U13 : Hid (Up od q (some g10) g #[.int .i64 oc, .int .i64 od, .string (strOfNums ds)] w0 V13 (.slice a13 ((N + 2) + 2) c13) ((N + 2) + 2) (((opsB (os.take k)) ++ be oc 2) ++ [od, q])) := u
              clear u U12
              refine hK _ _ (three U13.out.op) (fun hHeld => ?_)
              try simp only [List.getElem_toArray, List.getElem_cons_zero, List.getElem_cons_succ, Act.put, List.setIfInBounds_toArray, List.set_cons_zero, List.set_cons_succ]
              refine wpAnyH_ready (rs := [18]) (by kernel_rfl) (by simp) ?_
              refine AllReadyH.cons (o := _) rfl (fun K hK => ?_) AllReadyH.nil
              refine step_append_upt rfl (.tmp 95) (.tmp 97) rfl _ ((N + 2) + 2) (((opsB (os.take k)) ++ be oc 2) ++ [od, q]) rfl U13.out ds hfit rfl (by omega) ?_
              intro a14 c14 V14 u uo
              have OK : Hid (V14.heap[g]? = some (.cells #[.int .i64 oc, .int .i64 od, .string (strOfNums ds)] 38 (0, 0))) := uo
              have R14 : Hid (RB w0 V14 (.slice a14 (((N + 2) + 2) + ds.length) c14) (((N + 2) + 2) + ds.length) ((((opsB (os.take k)) ++ be oc 2) ++ [od, q]) ++ ds)) := u
              clear u uo U13
              refine hK _ _ (three OK.out) (fun hHeld => ?_)
              try simp only [List.getElem_toArray, List.getElem_cons_zero, List.getElem_cons_succ, Act.put, List.setIfInBounds_toArray, List.set_cons_zero, List.set_cons_succ]
              refine wpAnyH_take (i := 19) (v := ?_) rfl (by kernel_rfl) (by kernel_rfl) (by kernel_rfl) (fun _ _ _ h => h) (Or.inl ⟨by rfl, ?_⟩) (by assumption) ?_
              rotate_left
              · (intro w hSw; (try dsimp only at hSw); go_simp; try with_reducible rfl)
              try simp only [List.getElem_toArray, List.getElem_cons_zero, List.getElem_cons_succ, Act.put, List.setIfInBounds_toArray, List.set_cons_zero, List.set_cons_succ]
              refine wpAnyH_done (by kernel_rfl) ?_ _
              clear hHeld
              try simp only [List.getElem_toArray, List.getElem_cons_zero, List.getElem_cons_succ, Act.put, List.setIfInBounds_toArray, List.set_cons_zero, List.set_cons_succ]
              have RX : Hid (∃ a c, Value.slice a14 (((N + 2) + 2) + ds.length) c14 = .slice a (((N + 2) + 2) + ds.length) c ∧ RB w0 V14 (.slice a (((N + 2) + 2) + ds.length) c) (((N + 2) + 2) + ds.length) ((((opsB (os.take k)) ++ be oc 2) ++ [od, q]) ++ ds)) := ⟨_, _, rfl, R14.out⟩
              obtain ⟨M, hM⟩ : ∃ M, (((N + 2) + 2) + ds.length) = M := ⟨_, rfl⟩
              have hMI : (M : Int) = szO (os.take (k + 1)) := by have h9 := HNk.out; rw [← hM, HSZ.out, ← h9]; push_cast; omega
              have RY : Hid (RB w0 V14 (.slice a14 M c14) M (opsB (os.take (k + 1)))) := by
                rw [HOB.out, ← hM]
                have := R14.out
                simp only [List.append_assoc, List.cons_append, List.nil_append] at this ⊢
                exact this
              have HM3 : Hid _ := hM
              rw [hM]
              clear hM RX R14
              by_cases hz : (252 : Int) < (M : Int)
              · have HE1 : Hid (chkE sp vni os fr.length = 1) := HBAD2.out (by omega)
                have HB2 : Hid (Below w.heap.size w V14) := BW.out.trans (RY.out.bel.mono BW.out.size)
                clear RY hMI
                go_wp2
                go_ret2
                exact REnc.no HE1.out (by decide) HB2.out
              · have hN2 : Hid (szO (os.take (k + 1)) ≤ 252) := by show _ ≤ _; omega
                clear hMI
                go_wp2
                go_roundw
                case rel => exact ⟨k + 1, _, _, M, by omega, by go_num, CRK.out, rfl, RY.out, HALL.out, hN2.out⟩
                case measure => simp [intOf]; omega
          · have CRK : Hid (Value.bool true = Value.bool ((os.take (k + 1)).any critB)) := by show _ = _; rw [HCR.out, HCB.out]; simp [hc8]
            clear HCB HCR
            go_wp2_with fail
            have d9 : True := trivial
            clear e1 e2 e3 e4 e5 e6 c0 c1' c2' d9
            have hNb : (N : Int) ≤ 252 := by have := HNk.out; have := HZk.out; omega
            have UP : Hid (Up od ((ds.length : Int) / 4) none wr.heap.size #[.int .i64 oc, .int .i64 od, .string (strOfNums ds)] w0 (wr.alloc (.cells #[.int .i64 oc, .int .i64 od, .string (strOfNums ds)] 38)) (.slice ao N co) N (opsB (os.take k))) := ⟨⟨RK.out.own.alloc _, RK.out.bel.alloc RK.out.bel.size _⟩, fun b hb => (by cases hb), fun b hb => (by cases hb), R_q.out⟩
            obtain ⟨q, hqq⟩ : ∃ q, (ds.length : Int) / 4 = q := ⟨_, rfl⟩
            rw [hqq] at UP hq8 HOB
            have hw0 : IntKind.u64.wrap oc = oc := by simp [IntKind.wrap, IntKind.bits, IntKind.signed]; omega
            have hw1 : IntKind.u8.wrap od = od := by simp [IntKind.wrap, IntKind.bits, IntKind.signed]; omega
            have hw3 : IntKind.i64.wrap q = q := by simp [IntKind.wrap, IntKind.bits, IntKind.signed]; omega
            have hw2 : IntKind.u8.wrap q = q := by simp [IntKind.wrap, IntKind.bits, IntKind.signed]; omega
            obtain ⟨g, hg⟩ : ∃ g, wr.heap.size = g := ⟨_, rfl⟩
            rw [hg] at UP ⊢
            obtain ⟨V0, hV0⟩ : ∃ V', wr.alloc (.cells #[.int .i64 oc, .int .i64 od, .string (strOfNums ds)] 38) = V' := ⟨_, rfl⟩
            rw [hV0] at UP ⊢
            clear hg hV0
            have UD : Hid (Up od q none g #[.int .i64 oc, .int .i64 od, .string (strOfNums ds)] w0 V0.drew (.slice ao N co) N (opsB (os.take k))) := ⟨UP.out.rb.drew, UP.out.at0, UP.out.ap, UP.out.op⟩
            clear UP
            refine wp_region_held_drew (S := (fun W => W.cell? ⟨g, 0, none⟩ = some (.int .i64 oc) ∧ W.cell? ⟨g, 1, none⟩ = some (.int .i64 od) ∧ W.cell? ⟨g, 2, none⟩ = some (.string (strOfNums ds)))) (by kernel_rfl) ?_ (fun hHeld => ?_)
            · exact three UD.out.op
            obtain ⟨VD, hVD⟩ : ∃ V', V0.drew = V' := ⟨_, rfl⟩
            rw [hVD] at UD hHeld ⊢
            clear hVD
            refine wpAnyH_take (i := 0) (v := ?_) rfl (by kernel_rfl) (by kernel_rfl) (by kernel_rfl) (fun _ _ _ h => h) (Or.inl ⟨by rfl, ?_⟩) (by assumption) ?_
            rotate_left
            · (intro w hSw; (try dsimp only at hSw); go_simp; try with_reducible rfl)
            try simp only [List.getElem_toArray, List.getElem_cons_zero, List.getElem_cons_succ, Act.put, List.setIfInBounds_toArray, List.set_cons_zero, List.set_cons_succ]
            refine wpAnyH_take (i := 1) (v := ?_) rfl (by kernel_rfl) (by kernel_rfl) (by kernel_rfl) (fun _ _ _ h => h) (Or.inl ⟨by rfl, ?_⟩) (by assumption) ?_
            rotate_left
            · (intro w hSw; (try dsimp only at hSw); go_simp; try with_reducible rfl)
            try simp only [List.getElem_toArray, List.getElem_cons_zero, List.getElem_cons_succ, Act.put, List.setIfInBounds_toArray, List.set_cons_zero, List.set_cons_succ]
            refine wpAnyH_take (i := 2) (v := ?_) rfl (by kernel_rfl) (by kernel_rfl) (by kernel_rfl) (fun _ _ _ h => h) (Or.inl ⟨by rfl, ?_⟩) (by assumption) ?_
            rotate_left
            · (intro w hSw; (try dsimp only at hSw); go_simp; try with_reducible rfl)
            try simp only [List.getElem_toArray, List.getElem_cons_zero, List.getElem_cons_succ, Act.put, List.setIfInBounds_toArray, List.set_cons_zero, List.set_cons_succ]
            refine wpAnyH_take (i := 3) (v := ?_) rfl (by kernel_rfl) (by kernel_rfl) (by kernel_rfl) (fun _ _ _ h => h) (Or.inl ⟨by rfl, ?_⟩) (by assumption) ?_
            rotate_left
            · (intro w hSw; (try dsimp only at hSw); go_simp; try with_reducible rfl)
            try simp only [List.getElem_toArray, List.getElem_cons_zero, List.getElem_cons_succ, Act.put, List.setIfInBounds_toArray, List.set_cons_zero, List.set_cons_succ]
            refine wpAnyH_take (i := 6) (v := ?_) rfl (by kernel_rfl) (by kernel_rfl) (by kernel_rfl) (fun _ _ _ h => h) (Or.inl ⟨by rfl, ?_⟩) (by assumption) ?_
            rotate_left
            · (intro w hSw; (try dsimp only at hSw); go_simp; try with_reducible rfl)
            try simp only [List.getElem_toArray, List.getElem_cons_zero, List.getElem_cons_succ, Act.put, List.setIfInBounds_toArray, List.set_cons_zero, List.set_cons_succ]
            refine wpAnyH_take (i := 7) (v := ?_) rfl (by kernel_rfl) (by kernel_rfl) (by kernel_rfl) (fun _ _ _ h => h) (Or.inl ⟨by rfl, ?_⟩) (by assumption) ?_
            rotate_left
            · (intro w hSw; (try dsimp only at hSw); go_simp; try with_reducible rfl)
            try simp only [List.getElem_toArray, List.getElem_cons_zero, List.getElem_cons_succ, Act.put, List.setIfInBounds_toArray, List.set_cons_zero, List.set_cons_succ]
            refine wpAnyH_take (i := 8) (v := ?_) rfl (by kernel_rfl) (by kernel_rfl) (by kernel_rfl) (fun _ _ _ h => h) (Or.inl ⟨by rfl, ?_⟩) (by assumption) ?_
            rotate_left
            · (intro w hSw; (try dsimp only at hSw); go_simp; try with_reducible rfl)
            try simp only [List.getElem_toArray, List.getElem_cons_zero, List.getElem_cons_succ, Act.put, List.setIfInBounds_toArray, List.set_cons_zero, List.set_cons_succ]
            refine wpAnyH_take (i := 9) (v := ?_) rfl (by kernel_rfl) (by kernel_rfl) (by kernel_rfl) (fun _ _ _ h => h) (Or.inl ⟨by rfl, ?_⟩) (by assumption) ?_
            rotate_left
            · (intro w hSw; (try dsimp only at hSw); go_simp; try with_reducible rfl)
            try simp only [List.getElem_toArray, List.getElem_cons_zero, List.getElem_cons_succ, Act.put, List.setIfInBounds_toArray, List.set_cons_zero, List.set_cons_succ]
            refine wpAnyH_take (i := 10) (v := ?_) rfl (by kernel_rfl) (by kernel_rfl) (by kernel_rfl) (fun _ _ _ h => h) (Or.inl ⟨by rfl, ?_⟩) (by assumption) ?_
            rotate_left
            · (intro w hSw; (try dsimp only at hSw); go_simp; try with_reducible rfl)
            try simp only [List.getElem_toArray, List.getElem_cons_zero, List.getElem_cons_succ, Act.put, List.setIfInBounds_toArray, List.set_cons_zero, List.set_cons_succ]
            refine wpAnyH_take (i := 11) (v := ?_) rfl (by kernel_rfl) (by kernel_rfl) (by kernel_rfl) (fun _ _ _ h => h) (Or.inl ⟨by rfl, ?_⟩) (by assumption) ?_
            rotate_left
            · (intro w hSw; (try dsimp only at hSw); go_simp; try with_reducible rfl)
            try simp only [List.getElem_toArray, List.getElem_cons_zero, List.getElem_cons_succ, Act.put, List.setIfInBounds_toArray, List.set_cons_zero, List.set_cons_succ]
            refine wpAnyH_take (i := 12) (v := ?_) rfl (by kernel_rfl) (by kernel_rfl) (by kernel_rfl) (fun _ _ _ h => h) (Or.inl ⟨by rfl, ?_⟩) (by assumption) ?_
            rotate_left
            · (intro w hSw; (try dsimp only at hSw); go_simp; try with_reducible rfl)
            try simp only [List.getElem_toArray, List.getElem_cons_zero, List.getElem_cons_succ, Act.put, List.setIfInBounds_toArray, List.set_cons_zero, List.set_cons_succ]
            refine wpAnyH_take (i := 13) (v := ?_) rfl (by kernel_rfl) (by kernel_rfl) (by kernel_rfl) (fun _ _ _ h => h) (Or.inl ⟨by rfl, ?_⟩) (by assumption) ?_
            rotate_left
            · (intro w hSw; (try dsimp only at hSw); go_simp; try with_reducible rfl)
            try simp only [List.getElem_toArray, List.getElem_cons_zero, List.getElem_cons_succ, Act.put, List.setIfInBounds_toArray, List.set_cons_zero, List.set_cons_succ]
            refine wpAnyH_take (i := 16) (v := ?_) rfl (by kernel_rfl) (by kernel_rfl) (by kernel_rfl) (fun _ _ _ h => h) (Or.inl ⟨by rfl, ?_⟩) (by assumption) ?_
            rotate_left
            · (intro w hSw; (try dsimp only at hSw); go_simp; try with_reducible rfl)
            try simp only [List.getElem_toArray, List.getElem_cons_zero, List.getElem_cons_succ, Act.put, List.setIfInBounds_toArray, List.set_cons_zero, List.set_cons_succ]
            refine wpAnyH_take (i := 17) (v := ?_) rfl (by kernel_rfl) (by kernel_rfl) (by kernel_rfl) (fun _ _ _ h => h) (Or.inl ⟨by rfl, ?_⟩) (by assumption) ?_
            rotate_left
            · (intro w hSw; (try dsimp only at hSw); go_simp; try with_reducible rfl)
            try simp only [List.getElem_toArray, List.getElem_cons_zero, List.getElem_cons_succ, Act.put, List.setIfInBounds_toArray, List.set_cons_zero, List.set_cons_succ]
            refine wpAnyH_ready (rs := [4, 14]) (by kernel_rfl) (by simp) ?_
            refine AllReadyH.cons (o := _) rfl (fun K hK => ?_) (AllReadyH.cons (o := _) rfl (fun K hK => ?_) AllReadyH.nil)
            · go_simp
              refine (up_two UD.out oc (by omega)).mono ?_
              rintro e V1 ⟨b1, rfl, u, b⟩
              have U1 : Hid (Up od q none g #[.int .i64 oc, .int .i64 od, .string (strOfNums ds)] w0 V1 (.slice ao N co) N (opsB (os.take k))) := u
              have B1 : Hid (BS V1 b1 2 (be oc 2)) := b
              clear u b UD
              refine hK _ _ (three U1.out.op) (fun hHeld => ?_)
              try simp only [List.getElem_toArray, List.getElem_cons_zero, List.getElem_cons_succ, Act.put, List.setIfInBounds_toArray, List.set_cons_zero, List.set_cons_succ]
              refine wpAnyH_ready (rs := [5, 14]) (by kernel_rfl) (by simp) ?_
              refine AllReadyH.cons (o := _) rfl (fun K hK => ?_) (AllReadyH.cons (o := _) rfl (fun K hK => ?_) AllReadyH.nil)
              · refine step_append_up Try.underlying26 info5 rfl (.tmp 80) (.tmp 84) rfl _ N (opsB (os.take k)) rfl U1.out _ 2 2 (be oc 2) rfl B1.out (by omega) ?_
                intro a2 c2 V2 u
                have U2 : Hid (Up od q none g #[.int .i64 oc, .int .i64 od, .string (strOfNums ds)] w0 V2 (.slice a2 (N + 2) c2) (N + 2) ((opsB (os.take k)) ++ be oc 2)) := u
                clear u U1 B1
                refine hK _ _ (three U2.out.op) (fun hHeld => ?_)
                try simp only [List.getElem_toArray, List.getElem_cons_zero, List.getElem_cons_succ, Act.put, List.setIfInBounds_toArray, List.set_cons_zero, List.set_cons_succ]
                refine wpAnyH_ready (rs := [14]) (by kernel_rfl) (by simp) ?_
                refine AllReadyH.cons (o := _) rfl (fun K hK => ?_) AllReadyH.nil
                go_simp
                have U3 : Hid (Up od q (some V2.heap.size) g #[.int .i64 oc, .int .i64 od, .string (strOfNums ds)] w0 (V2.alloc (.cells #[.int .u8 od, .int .u8 q] 5)) (.slice a2 (N + 2) c2) (N + 2) ((opsB (os.take k)) ++ be oc 2)) := U2.out.build
                clear U2
                obtain ⟨V3, hV⟩ : ∃ V', V2.alloc (.cells #[.int .u8 od, .int .u8 q] 5) = V' := ⟨_, rfl⟩
                obtain ⟨g3, hb⟩ : ∃ b', V2.heap.size = b' := ⟨_, rfl⟩
                rw [hV] at U3 ⊢
                rw [hb] at U3 ⊢
                clear hV hb
                refine hK _ _ (three U3.out.op) (fun hHeld => ?_)
                try simp only [List.getElem_toArray, List.getElem_cons_zero, List.getElem_cons_succ, Act.put, List.setIfInBounds_toArray, List.set_cons_zero, List.set_cons_succ]
                refine wpAnyH_ready (rs := [15]) (by kernel_rfl) (by simp) ?_
                refine AllReadyH.cons (o := _) rfl (fun K hK => ?_) AllReadyH.nil
                refine step_append_up Try.underlying26 info5 rfl (.tmp 85) (.tmp 94) rfl _ (N + 2) ((opsB (os.take k)) ++ be oc 2) rfl U3.out _ 2 2 ([od, q]) rfl (U3.out.bs (by omega) (by omega)) (by omega) ?_
                intro a4 c4 V4 u
                have U4 : Hid (Up od q (some g3) g #[.int .i64 oc, .int .i64 od, .string (strOfNums ds)] w0 V4 (.slice a4 ((N + 2) + 2) c4) ((N + 2) + 2) (((opsB (os.take k)) ++ be oc 2) ++ [od, q])) := u
                clear u U3
                refine hK _ _ (three U4.out.op) (fun hHeld => ?_)
                try simp only [List.getElem_toArray, List.getElem_cons_zero, List.getElem_cons_succ, Act.put, List.setIfInBounds_toArray, List.set_cons_zero, List.set_cons_succ]
                refine wpAnyH_ready (rs := [18]) (by kernel_rfl) (by simp) ?_
                refine AllReadyH.cons (o := _) rfl (fun K hK => ?_) AllReadyH.nil
                refine step_append_upt rfl (.tmp 95) (.tmp 97) rfl _ ((N + 2) + 2) (((opsB (os.take k)) ++ be oc 2) ++ [od, q]) rfl U4.out ds hfit rfl (by omega) ?_
                intro a5 c5 V5 u uo
                have OK : Hid (V5.heap[g]? = some (.cells #[.int .i64 oc, .int .i64 od, .string (strOfNums ds)] 38 (0, 0))) := uo
                have R5 : Hid (RB w0 V5 (.slice a5 (((N + 2) + 2) + ds.length) c5) (((N + 2) + 2) + ds.length) ((((opsB (os.take k)) ++ be oc 2) ++ [od, q]) ++ ds)) := u
                clear u uo U4
                refine hK _ _ (three OK.out) (fun hHeld => ?_)
                try simp only [List.getElem_toArray, List.getElem_cons_zero, List.getElem_cons_succ, Act.put, List.setIfInBounds_toArray, List.set_cons_zero, List.set_cons_succ]
                refine wpAnyH_take (i := 19) (v := ?_) rfl (by kernel_rfl) (by kernel_rfl) (by kernel_rfl) (fun _ _ _ h => h) (Or.inl ⟨by rfl, ?_⟩) (by assumption) ?_
                rotate_left
                · (intro w hSw; (try dsimp only at hSw); go_simp; try with_reducible rfl)
                try simp only [List.getElem_toArray, List.getElem_cons_zero, List.getElem_cons_succ, Act.put, List.setIfInBounds_toArray, List.set_cons_zero, List.set_cons_succ]
                refine wpAnyH_done (by kernel_rfl) ?_ _
                clear hHeld
                try simp only [List.getElem_toArray, List.getElem_cons_zero, List.getElem_cons_succ, Act.put, List.setIfInBounds_toArray, List.set_cons_zero, List.set_cons_succ]
                have RX : Hid (∃ a c, Value.slice a5 (((N + 2) + 2) + ds.length) c5 = .slice a (((N + 2) + 2) + ds.length) c ∧ RB w0 V5 (.slice a (((N + 2) + 2) + ds.length) c) (((N + 2) + 2) + ds.length) ((((opsB (os.take k)) ++ be oc 2) ++ [od, q]) ++ ds)) := ⟨_, _, rfl, R5.out⟩
                obtain ⟨M, hM⟩ : ∃ M, (((N + 2) + 2) + ds.length) = M := ⟨_, rfl⟩
                have hMI : (M : Int) = szO (os.take (k + 1)) := by have h9 := HNk.out; rw [← hM, HSZ.out, ← h9]; push_cast; omega
                have RY : Hid (RB w0 V5 (.slice a5 M c5) M (opsB (os.take (k + 1)))) := by
                  rw [HOB.out, ← hM]
                  have := R5.out
                  simp only [List.append_assoc, List.cons_append, List.nil_append] at this ⊢
                  exact this
                have HM3 : Hid _ := hM
                rw [hM]
                clear hM RX R5
                by_cases hz : (252 : Int) < (M : Int)
                · have HE1 : Hid (chkE sp vni os fr.length = 1) := HBAD2.out (by omega)
                  have HB2 : Hid (Below w.heap.size w V5) := BW.out.trans (RY.out.bel.mono BW.out.size)
                  clear RY hMI
                  go_wp2
                  go_ret2
                  exact REnc.no HE1.out (by decide) HB2.out
                · have hN2 : Hid (szO (os.take (k + 1)) ≤ 252) := by show _ ≤ _; omega
                  clear hMI
                  go_wp2
                  go_roundw
                  case rel => exact ⟨k + 1, _, _, M, by omega, by go_num, CRK.out, rfl, RY.out, HALL.out, hN2.out⟩
                  case measure => simp [intOf]; omega
              · go_simp
                have U6 : Hid (Up od q (some V1.heap.size) g #[.int .i64 oc, .int .i64 od, .string (strOfNums ds)] w0 (V1.alloc (.cells #[.int .u8 od, .int .u8 q] 5)) (.slice ao N co) N (opsB (os.take k))) := U1.out.build
                have B6 : Hid (BS (V1.alloc (.cells #[.int .u8 od, .int .u8 q] 5)) b1 2 (be oc 2)) := B1.out.below (below1 _ _)
                clear U1 B1
                obtain ⟨V6, hV⟩ : ∃ V', V1.alloc (.cells #[.int .u8 od, .int .u8 q] 5) = V' := ⟨_, rfl⟩
                obtain ⟨g6, hb⟩ : ∃ b', V1.heap.size = b' := ⟨_, rfl⟩
                rw [hV] at U6 B6 ⊢
                rw [hb] at U6 ⊢
                clear hV hb
                refine hK _ _ (three U6.out.op) (fun hHeld => ?_)
                try simp only [List.getElem_toArray, List.getElem_cons_zero, List.getElem_cons_succ, Act.put, List.setIfInBounds_toArray, List.set_cons_zero, List.set_cons_succ]
                refine wpAnyH_ready (rs := [5]) (by kernel_rfl) (by simp) ?_
                refine AllReadyH.cons (o := _) rfl (fun K hK => ?_) AllReadyH.nil
                refine step_append_up Try.underlying26 info5 rfl (.tmp 80) (.tmp 84) rfl _ N (opsB (os.take k)) rfl U6.out _ 2 2 (be oc 2) rfl B6.out (by omega) ?_
                intro a7 c7 V7 u
                have U7 : Hid (Up od q (some g6) g #[.int .i64 oc, .int .i64 od, .string (strOfNums ds)] w0 V7 (.slice a7 (N + 2) c7) (N + 2) ((opsB (os.take k)) ++ be oc 2)) := u
                clear u U6 B6
                refine hK _ _ (three U7.out.op) (fun hHeld => ?_)
                try simp only [List.getElem_toArray, List.getElem_cons_zero, List.getElem_cons_succ, Act.put, List.setIfInBounds_toArray, List.set_cons_zero, List.set_cons_succ]
                refine wpAnyH_ready (rs := [15]) (by kernel_rfl) (by simp) ?_
                refine AllReadyH.cons (o := _) rfl (fun K hK => ?_) AllReadyH.nil
                refine step_append_up Try.underlying26 info5 rfl (.tmp 85) (.tmp 94) rfl _ (N + 2) ((opsB (os.take k)) ++ be oc 2) rfl U7.out _ 2 2 ([od, q]) rfl (U7.out.bs (by omega) (by omega)) (by omega) ?_
                intro a8 c8 V8 u
                have U8 : Hid (Up od q (some g6) g #[.int .i64 oc, .int .i64 od, .string (strOfNums ds)] w0 V8 (.slice a8 ((N + 2) + 2) c8) ((N + 2) + 2) (((opsB (os.take k)) ++ be oc 2) ++ [od, q])) := u
                clear u U7
                refine hK _ _ (three U8.out.op) (fun hHeld => ?_)
                try simp only [List.getElem_toArray, List.getElem_cons_zero, List.getElem_cons_succ, Act.put, List.setIfInBounds_toArray, List.set_cons_zero, List.set_cons_succ]
                refine wpAnyH_ready (rs := [18]) (by kernel_rfl) (by simp) ?_
                refine AllReadyH.cons (o := _) rfl (fun K hK => ?_) AllReadyH.nil
                refine step_append_upt rfl (.tmp 95) (.tmp 97) rfl _ ((N + 2) + 2) (((opsB (os.take k)) ++ be oc 2) ++ [od, q]) rfl U8.out ds hfit rfl (by omega) ?_
                intro a9 c9 V9 u uo
                have OK : Hid (V9.heap[g]? = some (.cells #[.int .i64 oc, .int .i64 od, .string (strOfNums ds)] 38 (0, 0))) := uo
                have R9 : Hid (RB w0 V9 (.slice a9 (((N + 2) + 2) + ds.length) c9) (((N + 2) + 2) + ds.length) ((((opsB (os.take k)) ++ be oc 2) ++ [od, q]) ++ ds)) := u
                clear u uo U8
                refine hK _ _ (three OK.out) (fun hHeld => ?_)
                try simp only [List.getElem_toArray, List.getElem_cons_zero, List.getElem_cons_succ, Act.put, List.setIfInBounds_toArray, List.set_cons_zero, List.set_cons_succ]
                refine wpAnyH_take (i := 19) (v := ?_) rfl (by kernel_rfl) (by kernel_rfl) (by kernel_rfl) (fun _ _ _ h => h) (Or.inl ⟨by rfl, ?_⟩) (by assumption) ?_
                rotate_left
                · (intro w hSw; (try dsimp only at hSw); go_simp; try with_reducible rfl)
                try simp only [List.getElem_toArray, List.getElem_cons_zero, List.getElem_cons_succ, Act.put, List.setIfInBounds_toArray, List.set_cons_zero, List.set_cons_succ]
                refine wpAnyH_done (by kernel_rfl) ?_ _
                clear hHeld
                try simp only [List.getElem_toArray, List.getElem_cons_zero, List.getElem_cons_succ, Act.put, List.setIfInBounds_toArray, List.set_cons_zero, List.set_cons_succ]
                have RX : Hid (∃ a c, Value.slice a9 (((N + 2) + 2) + ds.length) c9 = .slice a (((N + 2) + 2) + ds.length) c ∧ RB w0 V9 (.slice a (((N + 2) + 2) + ds.length) c) (((N + 2) + 2) + ds.length) ((((opsB (os.take k)) ++ be oc 2) ++ [od, q]) ++ ds)) := ⟨_, _, rfl, R9.out⟩
                obtain ⟨M, hM⟩ : ∃ M, (((N + 2) + 2) + ds.length) = M := ⟨_, rfl⟩
                have hMI : (M : Int) = szO (os.take (k + 1)) := by have h9 := HNk.out; rw [← hM, HSZ.out, ← h9]; push_cast; omega
                have RY : Hid (RB w0 V9 (.slice a9 M c9) M (opsB (os.take (k + 1)))) := by
                  rw [HOB.out, ← hM]
                  have := R9.out
                  simp only [List.append_assoc, List.cons_append, List.nil_append] at this ⊢
                  exact this
                have HM3 : Hid _ := hM
                rw [hM]
                clear hM RX R9
                by_cases hz : (252 : Int) < (M : Int)
                · have HE1 : Hid (chkE sp vni os fr.length = 1) := HBAD2.out (by omega)
                  have HB2 : Hid (Below w.heap.size w V9) := BW.out.trans (RY.out.bel.mono BW.out.size)
                  clear RY hMI
                  go_wp2
                  go_ret2
                  exact REnc.no HE1.out (by decide) HB2.out
                · have hN2 : Hid (szO (os.take (k + 1)) ≤ 252) := by show _ ≤ _; omega
                  clear hMI
                  go_wp2
                  go_roundw
                  case rel => exact ⟨k + 1, _, _, M, by omega, by go_num, CRK.out, rfl, RY.out, HALL.out, hN2.out⟩
                  case measure => simp [intOf]; omega
            · go_simp
              have U10 : Hid (Up od q (some VD.heap.size) g #[.int .i64 oc, .int .i64 od, .string (strOfNums ds)] w0 (VD.alloc (.cells #[.int .u8 od, .int .u8 q] 5)) (.slice ao N co) N (opsB (os.take k))) := UD.out.build
              clear UD
              obtain ⟨V10, hV⟩ : ∃ V', VD.alloc (.cells #[.int .u8 od, .int .u8 q] 5) = V' := ⟨_, rfl⟩
              obtain ⟨g10, hb⟩ : ∃ b', VD.heap.size = b' := ⟨_, rfl⟩
              rw [hV] at U10 ⊢
              rw [hb] at U10 ⊢
              clear hV hb
              refine hK _ _ (three U10.out.op) (fun hHeld => ?_)
              try simp only [List.getElem_toArray, List.getElem_cons_zero, List.getElem_cons_succ, Act.put, List.setIfInBounds_toArray, List.set_cons_zero, List.set_cons_succ]
              refine wpAnyH_ready (rs := [4]) (by kernel_rfl) (by simp) ?_
              refine AllReadyH.cons (o := _) rfl (fun K hK => ?_) AllReadyH.nil
              go_simp
              refine (up_two U10.out oc (by omega)).mono ?_
              rintro e V11 ⟨b11, rfl, u, b⟩
              have U11 : Hid (Up od q (some g10) g #[.int .i64 oc, .int .i64 od, .string (strOfNums ds)] w0 V11 (.slice ao N co) N (opsB (os.take k))) := u
              have B11 : Hid (BS V11 b11 2 (be oc 2)) := b
              clear u b U10
              refine hK _ _ (three U11.out.op) (fun hHeld => ?_)
              try simp only [List.getElem_toArray, List.getElem_cons_zero, List.getElem_cons_succ, Act.put, List.setIfInBounds_toArray, List.set_cons_zero, List.set_cons_succ]
              refine wpAnyH_ready (rs := [5]) (by kernel_rfl) (by simp) ?_
              refine AllReadyH.cons (o := _) rfl (fun K hK => ?_) AllReadyH.nil
              refine step_append_up Try.underlying26 info5 rfl (.tmp 80) (.tmp 84) rfl _ N (opsB (os.take k)) rfl U11.out _ 2 2 (be oc 2) rfl B11.out (by omega) ?_
              intro a12 c12 V12 u
              have U12 : Hid (Up od q (some g10) g #[.int .i64 oc, .int .i64 od, .string (strOfNums ds)] w0 V12 (.slice a12 (N + 2) c12) (N + 2) ((opsB (os.take k)) ++ be oc 2)) := u
              clear u U11 B11
              refine hK _ _ (three U12.out.op) (fun hHeld => ?_)
              try simp only [List.getElem_toArray, List.getElem_cons_zero, List.getElem_cons_succ, Act.put, List.setIfInBounds_toArray, List.set_cons_zero, List.set_cons_succ]
              refine wpAnyH_ready (rs := [15]) (by kernel_rfl) (by simp) ?_
              refine AllReadyH.cons (o := _) rfl (fun K hK => ?_) AllReadyH.nil
              refine step_append_up Try.underlying26 info5 rfl (.tmp 85) (.tmp 94) rfl _ (N + 2) ((opsB (os.take k)) ++ be oc 2) rfl U12.out _ 2 2 ([od, q]) rfl (U12.out.bs (by omega) (by omega)) (by omega) ?_
              intro a13 c13 V13 u
              have U13 : Hid (Up od q (some g10) g #[.int .i64 oc, .int .i64 od, .string (strOfNums ds)] w0 V13 (.slice a13 ((N + 2) + 2) c13) ((N + 2) + 2) (((opsB (os.take k)) ++ be oc 2) ++ [od, q])) := u
              clear u U12
              refine hK _ _ (three U13.out.op) (fun hHeld => ?_)
              try simp only [List.getElem_toArray, List.getElem_cons_zero, List.getElem_cons_succ, Act.put, List.setIfInBounds_toArray, List.set_cons_zero, List.set_cons_succ]
              refine wpAnyH_ready (rs := [18]) (by kernel_rfl) (by simp) ?_
              refine AllReadyH.cons (o := _) rfl (fun K hK => ?_) AllReadyH.nil
              refine step_append_upt rfl (.tmp 95) (.tmp 97) rfl _ ((N + 2) + 2) (((opsB (os.take k)) ++ be oc 2) ++ [od, q]) rfl U13.out ds hfit rfl (by omega) ?_
              intro a14 c14 V14 u uo
              have OK : Hid (V14.heap[g]? = some (.cells #[.int .i64 oc, .int .i64 od, .string (strOfNums ds)] 38 (0, 0))) := uo
              have R14 : Hid (RB w0 V14 (.slice a14 (((N + 2) + 2) + ds.length) c14) (((N + 2) + 2) + ds.length) ((((opsB (os.take k)) ++ be oc 2) ++ [od, q]) ++ ds)) := u
              clear u uo U13
              refine hK _ _ (three OK.out) (fun hHeld => ?_)
              try simp only [List.getElem_toArray, List.getElem_cons_zero, List.getElem_cons_succ, Act.put, List.setIfInBounds_toArray, List.set_cons_zero, List.set_cons_succ]
              refine wpAnyH_take (i := 19) (v := ?_) rfl (by kernel_rfl) (by kernel_rfl) (by kernel_rfl) (fun _ _ _ h => h) (Or.inl ⟨by rfl, ?_⟩) (by assumption) ?_
              rotate_left
              · (intro w hSw; (try dsimp only at hSw); go_simp; try with_reducible rfl)
              try simp only [List.getElem_toArray, List.getElem_cons_zero, List.getElem_cons_succ, Act.put, List.setIfInBounds_toArray, List.set_cons_zero, List.set_cons_succ]
              refine wpAnyH_done (by kernel_rfl) ?_ _
              clear hHeld
              try simp only [List.getElem_toArray, List.getElem_cons_zero, List.getElem_cons_succ, Act.put, List.setIfInBounds_toArray, List.set_cons_zero, List.set_cons_succ]
              have RX : Hid (∃ a c, Value.slice a14 (((N + 2) + 2) + ds.length) c14 = .slice a (((N + 2) + 2) + ds.length) c ∧ RB w0 V14 (.slice a (((N + 2) + 2) + ds.length) c) (((N + 2) + 2) + ds.length) ((((opsB (os.take k)) ++ be oc 2) ++ [od, q]) ++ ds)) := ⟨_, _, rfl, R14.out⟩
              obtain ⟨M, hM⟩ : ∃ M, (((N + 2) + 2) + ds.length) = M := ⟨_, rfl⟩
              have hMI : (M : Int) = szO (os.take (k + 1)) := by have h9 := HNk.out; rw [← hM, HSZ.out, ← h9]; push_cast; omega
              have RY : Hid (RB w0 V14 (.slice a14 M c14) M (opsB (os.take (k + 1)))) := by
                rw [HOB.out, ← hM]
                have := R14.out
                simp only [List.append_assoc, List.cons_append, List.nil_append] at this ⊢
                exact this
              have HM3 : Hid _ := hM
              rw [hM]
              clear hM RX R14
              by_cases hz : (252 : Int) < (M : Int)
              · have HE1 : Hid (chkE sp vni os fr.length = 1) := HBAD2.out (by omega)
                have HB2 : Hid (Below w.heap.size w V14) := BW.out.trans (RY.out.bel.mono BW.out.size)
                clear RY hMI
                go_wp2
                go_ret2
                exact REnc.no HE1.out (by decide) HB2.out
              · have hN2 : Hid (szO (os.take (k + 1)) ≤ 252) := by show _ ≤ _; omega
                clear hMI
                go_wp2
                go_roundw
                case rel => exact ⟨k + 1, _, _, M, by omega, by go_num, CRK.out, rfl, RY.out, HALL.out, hN2.out⟩
                case measure => simp [intOf]; omega
end Go.Proofs.Ytgonckbdkgiddaa
