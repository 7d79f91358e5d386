/- Parts of the proof, in one text. -/
import Derived.Test.YtgonckbdkgiddaaDF
import Derived.Test.YtgonckbdkgiddaaQJG
import Derived.Test.YtgonckbdkgiddaaQJH
import Derived.Test.YtgonckbdkgiddaaDT
import Derived.Test.YtgonckbdkgiddaaDS
import Derived.Test.YtgonckbdkgiddaaDG
namespace Go.Proofs.Ytgonckbdkgiddaa
open Go.RowKit
set_option maxRecDepth 20000
set_option linter.unusedSimpArgs false
theorem udpB_len9 (sp vni : Int) (oam : Bool) (os : List Opt) (fr : List Int) : (udpB sp vni oam os fr).length = 8 + (payB vni oam os fr).length := udp_body_len sp _
theorem encB_len9 (src dst sp vni : Int) (oam : Bool) (os : List Opt) (fr : List Int) : (encB src dst sp vni oam os fr).length = 28 + (payB vni oam os fr).length := by
  unfold encB
  rw [List.length_append, udpB_len9]
  show 20 + _ = _
  omega
/-- What Decap answers: a tunnel and an error. -/
def DAns (src dst sp vni : Int) (oam : Bool) (os : List Opt) (fr : List Int) (f : Int) (w : World) (e : Ending) (w' : World) : Prop :=
  ∃ oa oc, e = .returned (.tuple #[.agg #[.int .u32 src, .int .u32 dst, .int .i64 sp, .int .i64 vni, .bool oam, .slice oa os.length oc, .string (strOfNums fr)], .int .i64 f]) ∧ OS w' oa os.length os ∧ Below w.heap.size w w'
theorem DAns.zero {f : Int} {w : World} {e : Ending} {w' : World} (h : e = .returned (.tuple #[.agg #[.int .u32 0, .int .u32 0, .int .i64 0, .int .i64 0, .bool false, .slice none 0 0, .string ⟨#[]⟩], .int .i64 f]) ∧ Below w.heap.size w w') : DAns 0 0 0 0 false [] [] f w e w' :=
  ⟨none, 0, h.1, OS.empty _, h.2⟩
theorem fit_drop {zs : List Int} (h : Fit zs) (k : Nat) : Fit (zs.drop k) := Eth9.fits_drop9 h k
theorem fit_nil : Fit [] := fun i => by simp
theorem decR_ds (src dst k : Int) (D : List Int) (h : Fit D) : Fit (decR src dst k D).ds ∧ (decR src dst k D).ds.length ≤ D.length := by
  unfold decR
  split
  · unfold readR
    split
    · exact ⟨fit_drop h 8, by simp⟩
    · split
      · exact ⟨fit_drop h 8, by simp⟩
      · split
        · exact ⟨fit_drop h _, by simp⟩
        · exact ⟨h, Nat.le_refl _⟩
  · exact ⟨fit_nil, Nat.zero_le _⟩
theorem rdO_fit : ∀ (n : Nat) (zs : List Int), zs.length = n → Fit zs → ∀ os, rdO zs = some os → ∀ o ∈ os, Fit o.data := by
  intro n
  induction n using Nat.strongRecOn with
  | _ n ih =>
    intro zs hn hf os hos o ho
    by_cases h0 : zs.length = 0
    · rw [rdO_nil h0] at hos
      cases hos; cases ho
    by_cases h1 : zs.length < sizO zs
    · rw [rdO_short h0 h1] at hos; cases hos
    rw [rdO_cons h0 h1] at hos
    have h4 := sizO_four zs
    obtain ⟨r, hr, rfl⟩ := Option.map_eq_some_iff.1 hos
    rcases List.mem_cons.1 ho with rfl | ho
    · exact fits_take9 (fit_drop hf 4) _
    · exact ih (zs.drop (sizO zs)).length (by rw [List.length_drop]; omega) _ rfl (fit_drop hf _) r hr o ho
theorem ipF_parts (zs : List Int) (m : Nat) (hf : Fit zs) : ∃ (tos id fr0 ttl pr src dst : Int) (io : List Int), Ip.ipF zs m = .agg #[.int .i64 tos, .int .i64 id, .int .i64 fr0, .int .i64 ttl, .int .i64 pr, .int .u32 src, .int .u32 dst, .string (strOfNums io)] ∧ (0 ≤ src ∧ src ≤ 4294967295) ∧ (0 ≤ dst ∧ dst ≤ 4294967295) := by
  have h1 := num_bd (zs.drop 12) (fit_drop hf 12) 4
  have h2 := num_bd (zs.drop 16) (fit_drop hf 16) 4
  have e : (256 : Int) ^ 4 = 4294967296 := by decide
  rw [e] at h1 h2
  exact ⟨_, _, _, _, _, _, _, _, rfl, by omega, by omega⟩
/-- Both answers. -/
def Pair (zs : List Int) (src dst sp vni : Int) (oam : Bool) (os : List Opt) (fr : List Int) (f : Int) : Prop :=
  (∀ W a n cap, BS W a n zs → n ≤ cap → Calls Try.prog 10 #[.slice a n cap] W fun e w' => DAns src dst sp vni oam os fr f W e w') ∧
  (∀ W a n cap, BS W a n zs → n ≤ cap → Calls Try.prog 12 #[.slice a n cap] W fun e w' => DAns src dst sp vni oam os fr f W e w')
def GoodT (zs : List Int) (src dst sp vni : Int) (oam : Bool) (os : List Opt) (fr : List Int) (f : Int) : Prop :=
  (0 ≤ src ∧ src ≤ 4294967295) ∧ (0 ≤ dst ∧ dst ≤ 4294967295) ∧ Fit fr ∧ (f = 0 → chkE sp vni os fr.length = 0 ∧ encB src dst sp vni oam os fr = zs)
theorem GoodT.zero (zs : List Int) {f : Int} (hf : f ≠ 0) : GoodT zs 0 0 0 0 false [] [] f := ⟨by omega, by omega, fit_nil, fun h => absurd h hf⟩
theorem pair_ipbad (zs : List Int) (f : Int) (hf3 : f = 20 ∨ f = 21 ∨ f = 30) (hm : Ip.msr zs zs.length = (0, 0, f)) : Pair zs 0 0 0 0 false [] [] f := by
  have hf0 : (f != 0) = true := by rcases hf3 with h | h | h <;> subst h <;> decide
  refine ⟨fun W a n cap h hc => ?_, fun W a n cap h hc => ?_⟩
  · refine (decap_ipbad W a n cap zs h f hf0 0 0 (fun W hB => (Ip.decode_any W a n cap zs hB hc).1 f hf3 (by rw [← h.len]; exact hm))).mono fun e w' q => DAns.zero q
  · refine (rdecap_ipbad W a n cap zs h f hf0 0 0 (fun W hB => (Ip.rdec_any W a n cap zs hB hc).1 f hf3 (by rw [← h.len]; exact hm))).mono fun e w' q => DAns.zero q
/-- Of bytes whose IPv4 head is right: where the datagram lies. -/
structure Lay (zs : List Int) (m T : Nat) : Prop where
  mok : Ip.MOk zs zs.length m
  tot : zs.getD 2 0 * 256 + zs.getD 3 0 = (T : Int)
  twenty : 20 ≤ m
  mT : m ≤ T
  Tn : T ≤ zs.length
  most : T ≤ 65535
theorem lay_of {zs : List Int} {m : Nat} (hf : Fit zs) (h : Ip.MOk zs zs.length m) : ∃ T, Lay zs m T := by
  have h2 := hf 2
  have h3 := hf 3
  have a := h.room
  have b := h.total
  have c := h.twenty
  refine ⟨(zs.getD 2 0 * 256 + zs.getD 3 0).toNat, h, by omega, c, by omega, by omega, by omega⟩
theorem cut_bs {W : World} {b off n m T : Nat} {zs : List Int} (h : BS W (some ⟨b, off, none⟩) n zs) (hm : m ≤ T) (hT : T ≤ n) (h0 : 0 < n) : BS W (some ⟨b, off + m, none⟩) (T - m) ((zs.drop m).take (T - m)) :=
  (h.drop h0 m (by omega)).take (T - m) (by omega)
theorem Ref.zero {f : Int} {w : World} {e : Ending} {w' : World} (h : Ref f w e w') : DAns 0 0 0 0 false [] [] (if f = 0 then 70 else f) w e w' := DAns.zero h
theorem RAns.zero {f : Int} {okb : Bool} {src dst sp vni : Int} {oam : Bool} {os : List Opt} {fr zs : List Int} {w : World} {e : Ending} {w' : World} (h : RAns f okb src dst sp vni oam os fr zs w e w') (hb : okb = false ∨ chkE sp vni os fr.length ≠ 0 ∨ encB src dst sp vni oam os fr ≠ zs) : DAns 0 0 0 0 false [] [] (if f = 0 then 70 else f) w e w' := by
  obtain ⟨h1, h2 | h2 | h2⟩ := h
  · rw [if_neg h2.1]; exact DAns.zero ⟨h2.2, h1⟩
  · rw [if_pos h2.1]; exact DAns.zero ⟨h2.2.2, h1⟩
  · rcases hb with hb | hb | hb
    · rw [h2.2.1] at hb; cases hb
    · exact absurd h2.2.2.1 hb
    · exact absurd h2.2.2.2.1 hb
theorem pair_bad (zs : List Int) (_hfz : Fit zs) (m T : Nat) (L : Lay zs m T) (tos id fr0 ttl pr src dst : Int) (io : List Int) (hip : Ip.ipF zs m = .agg #[.int .i64 tos, .int .i64 id, .int .i64 fr0, .int .i64 ttl, .int .i64 pr, .int .u32 src, .int .u32 dst, .string (strOfNums io)]) (hs : 0 ≤ src ∧ src ≤ 4294967295) (hd : 0 ≤ dst ∧ dst ≤ 4294967295) (k' ty co re sp dp : Int) (ns : Bool) (sq ak fl wi ur : Int) (lo ds : List Int) (hx : decR src dst (kindV pr) ((zs.drop m).take (T - m)) = ⟨k', ty, co, re, sp, dp, ns, sq, ak, fl, wi, ur, lo, ds⟩) (f : Int) (hE : decE src dst (kindV pr) ((zs.drop m).take (T - m)) = f) (hdf : Fit ds) (hdl : ds.length ≤ 65535) (hno : f = 0 → ds.length < 8 ∨ ds.length < behD ds ∨ rdO (optsD ds) = none) : Pair zs 0 0 0 0 false [] [] (if f = 0 then 70 else f) := by
  have HR1 : Hid (f = 0 → ∀ W g c, BS W (some ⟨g, 0, none⟩) ds.length ds → ds.length ≤ c → c ≤ 9223372036854775807 → Calls Try.prog 26 #[.slice (some ⟨g, 0, none⟩) ds.length c] W fun e w' => e = .returned (.tuple #[.agg #[.int .u32 0, .int .u32 0, .int .i64 0, .int .i64 0, .bool false, .slice none 0 0, .string ⟨#[]⟩], .bool false]) ∧ Below W.heap.size W w') := fun hf W g c hB h1 h2 => read_no g 0 ds.length c ds W hB h1 h2 (hno hf)
  have HR2 : Hid (f = 0 → ∀ W, Calls Try.prog 30 #[.string (strOfNums ds)] W fun e w' => ∃ oa oc, e = .returned (.tuple #[.agg #[.int .u32 0, .int .u32 0, .int .i64 0, .int .i64 0, .bool false, .slice oa ([] : List Opt).length oc, .string (strOfNums [])], .bool false]) ∧ OS w' oa ([] : List Opt).length [] ∧ (∀ x, oa = some x → W.heap.size ≤ x.block) ∧ Below W.heap.size W w') := fun hf W => by
    have hno := hno hf
    have key : Calls Try.prog 30 #[.string (strOfNums ds)] W fun e w' => e = .returned (.tuple #[.agg #[.int .u32 0, .int .u32 0, .int .i64 0, .int .i64 0, .bool false, .slice none 0 0, .string ⟨#[]⟩], .bool false]) ∧ Below W.heap.size W w' := by
      by_cases h8 : ds.length < 8
      · exact rinner_short ds hdf h8 W
      have q := rinner_main ds hdf (by omega) (by omega) W
      rw [show rdX ds = none from by
        unfold rdX
        split
        · rfl
        · rename_i hb
          rcases hno with q | q | q
          · exact absurd q h8
          · exact absurd q hb
          · exact q] at q
      exact q
    exact key.mono fun e w' q => ⟨none, 0, q.1, OS.empty _, (fun x e => by cases e), q.2⟩
  have HE2 : Hid (∀ W oa oc, OS W oa ([] : List Opt).length [] → Calls Try.prog 8 #[.agg #[.int .u32 src, .int .u32 dst, .int .i64 sp, .int .i64 0, .bool false, .slice oa ([] : List Opt).length oc, .string (strOfNums [])]] W fun e w' => REnc src dst sp 0 false [] [] W e w') := fun W oa oc h => rencap_any src dst sp 0 false oa _ oc [] [] W h hs hd fit_nil
  refine ⟨fun W a n cap h hc => ?_, fun W a n cap h hc => ?_⟩
  · have hlen := h.len
    obtain ⟨b, off, rfl, _⟩ := h.cells.resolve_left (by have := L.twenty; have := L.mT; have := L.Tn; omega)
    have hT := L.mT
    have hTn := L.Tn
    have h20 := L.twenty
    by_cases hcm : cap = m
    · obtain rfl : m = T := by omega
      obtain rfl : m = n := by omega
      subst hcm
      have hD0 : (zs.drop cap).take (cap - cap) = [] := by rw [Nat.sub_self]; rfl
      rw [hD0] at hx hE
      exact (decap_bad_t W b off cap zs h (by omega) tos id fr0 ttl pr src dst io (fun W hB => by have q := (Ip.decode_any W _ cap cap zs hB (Nat.le_refl _)).2 cap (by have := L.mok; rw [hlen] at this; exact this); rw [hip, L.tot] at q; exact q) k' ty co re sp dp ns sq ak fl wi ur lo ds f hdf (by omega) (fun W hB => by have q := decode_any src dst pr hs hd (some ⟨b, off, none⟩) 0 0 [] (Nat.le_refl _) (fun x e => ⟨b, off, by cases e; rfl⟩) (fun e => by cases e) W (BS.empty _); rw [hx, hE] at q; exact q) HR1).mono fun e w' q => Ref.zero q
    · exact (decap_bad W b off n cap zs h hc m T (by omega) hT (by omega) hcm tos id fr0 ttl pr src dst io (fun W hB => by have q := (Ip.decode_any W _ n cap zs hB hc).2 m (by rw [← hlen]; exact L.mok); rw [hip, L.tot] at q; exact q) k' ty co re sp dp ns sq ak fl wi ur lo ds f hdf (by omega) (fun W hB => by have q := decode_any src dst pr hs hd (some ⟨b, off + m, none⟩) (T - m) (cap - m) ((zs.drop m).take (T - m)) (by omega) (fun x e => ⟨b, off + m, by cases e; rfl⟩) (fun e => by cases e) W (cut_bs hB L.mT (by omega) (by omega)); rw [hx, hE] at q; exact q) HR1).mono fun e w' q => Ref.zero q
  · have hlen := h.len
    obtain ⟨b, off, rfl, _⟩ := h.cells.resolve_left (by have := L.twenty; have := L.mT; have := L.Tn; omega)
    have hT := L.mT
    have hTn := L.Tn
    have h20 := L.twenty
    by_cases hcm : cap = m
    · obtain rfl : m = T := by omega
      obtain rfl : m = n := by omega
      subst hcm
      have hD0 : (zs.drop cap).take (cap - cap) = [] := by rw [Nat.sub_self]; rfl
      rw [hD0] at hx hE
      exact (rdecap_t W b off cap zs h (by omega) tos id fr0 ttl pr src dst io (fun W hB => by have q := (Ip.rdec_any W _ cap cap zs hB (Nat.le_refl _)).2 cap (by have := L.mok; rw [hlen] at this; exact this); rw [hip, L.tot] at q; exact q) k' ty co re sp dp ns sq ak fl wi ur lo ds f (fun W hB => by have q := rdecode_any src dst pr hs hd (some ⟨b, off, none⟩) 0 0 [] (Nat.le_refl _) W (BS.empty _); rw [hx, hE] at q; exact q) 0 false [] [] HR2 HE2).mono fun e w' q => q.zero (.inl rfl)
    · exact (rdecap_n W b off n cap m T zs h hc (by omega) hT (by omega) hcm tos id fr0 ttl pr src dst io (fun W hB => by have q := (Ip.rdec_any W _ n cap zs hB hc).2 m (by rw [← hlen]; exact L.mok); rw [hip, L.tot] at q; exact q) k' ty co re sp dp ns sq ak fl wi ur lo ds f (fun W hB => by have q := rdecode_any src dst pr hs hd (some ⟨b, off + m, none⟩) (T - m) (cap - m) ((zs.drop m).take (T - m)) (by omega) W (cut_bs hB L.mT (by omega) (by omega)); rw [hx, hE] at q; exact q) 0 false [] [] false HR2 HE2).mono fun e w' q => q.zero (.inl rfl)
theorem RAns.good {src dst sp vni : Int} {oam : Bool} {os : List Opt} {fr zs : List Int} {w : World} {e : Ending} {w' : World} (h : RAns 0 true src dst sp vni oam os fr zs w e w') (hC : chkE sp vni os fr.length = 0) (hne : encB src dst sp vni oam os fr = zs) : DAns src dst sp vni oam os fr 0 w e w' := by
  obtain ⟨h1, h2 | h2 | h2⟩ := h
  · exact absurd rfl h2.1
  · rcases h2.2.1 with hb | hb | hb
    · cases hb
    · exact absurd hC hb
    · exact absurd hne hb
  · obtain ⟨_, _, _, _, oa, oc, h3, h4⟩ := h2
    exact ⟨oa, oc, h3, h4, h1⟩
theorem pair_encbad (zs : List Int) (_hfz : Fit zs) (m T : Nat) (L : Lay zs m T) (tos id fr0 ttl pr src dst : Int) (io : List Int) (hip : Ip.ipF zs m = .agg #[.int .i64 tos, .int .i64 id, .int .i64 fr0, .int .i64 ttl, .int .i64 pr, .int .u32 src, .int .u32 dst, .string (strOfNums io)]) (hs : 0 ≤ src ∧ src ≤ 4294967295) (hd : 0 ≤ dst ∧ dst ≤ 4294967295) (k' ty co re sp dp : Int) (ns : Bool) (sq ak fl wi ur : Int) (lo ds : List Int) (hx : decR src dst (kindV pr) ((zs.drop m).take (T - m)) = ⟨k', ty, co, re, sp, dp, ns, sq, ak, fl, wi, ur, lo, ds⟩) (hE : decE src dst (kindV pr) ((zs.drop m).take (T - m)) = 0) (hdf : Fit ds) (hdl : ds.length ≤ T - m) (h8 : 8 ≤ ds.length) (hbe : behD ds ≤ ds.length) (os : List Opt) (hos : rdO (optsD ds) = some os) (hC : chkE sp (num ((ds.drop 4).take 3)) os (ds.drop (behD ds)).length ≠ 0) : Pair zs 0 0 0 0 false [] [] 70 := by
  have hml := L.most
  have hfo : ∀ o ∈ os, Fit o.data := rdO_fit _ (optsD ds) rfl (fits_take9 (fit_drop hdf 8) _) os hos
  have HR1 : Hid (∀ W g c, BS W (some ⟨g, 0, none⟩) ds.length ds → ds.length ≤ c → c ≤ 9223372036854775807 → Calls Try.prog 26 #[.slice (some ⟨g, 0, none⟩) ds.length c] W fun e w' => ∃ oa oc, e = .returned (.tuple #[.agg #[.int .u32 0, .int .u32 0, .int .i64 0, .int .i64 (num ((ds.drop 4).take 3)), .bool (bits .and .u8 (ds.getD 1 0) 128 != 0), .slice oa os.length oc, .string (strOfNums (ds.drop (behD ds)))], .bool true]) ∧ OS w' oa os.length os ∧ (∀ x, oa = some x → W.heap.size ≤ x.block) ∧ Below W.heap.size W w') := fun W g c hB h1 h2 => read_all g 0 ds.length c ds W hB h1 h2 h8 hbe os hos
  have HR2 : Hid ((0 : Int) = 0 → ∀ W, Calls Try.prog 30 #[.string (strOfNums ds)] W fun e w' => ∃ oa oc, e = .returned (.tuple #[.agg #[.int .u32 0, .int .u32 0, .int .i64 0, .int .i64 (num ((ds.drop 4).take 3)), .bool (bits .and .u8 (ds.getD 1 0) 128 != 0), .slice oa os.length oc, .string (strOfNums (ds.drop (behD ds)))], .bool true]) ∧ OS w' oa os.length os ∧ (∀ x, oa = some x → W.heap.size ≤ x.block) ∧ Below W.heap.size W w') := fun _ W => by
    have q := rinner_main ds hdf (by omega) h8 W
    rw [show rdX ds = some os from by unfold rdX; rw [if_neg (show ¬ ds.length < behD ds by omega), hos]] at q
    exact q.mono fun e w' ⟨⟨a', c', h1, h2, h3⟩, h4⟩ => ⟨a', c', h1, h2, h3, h4⟩
  have hff : Fit (ds.drop (behD ds)) := fit_drop hdf _
  obtain ⟨vni, hvni⟩ : ∃ v, num ((ds.drop 4).take 3) = v := ⟨_, rfl⟩
  obtain ⟨oam, hoam⟩ : ∃ v, (bits .and .u8 (ds.getD 1 0) 128 != 0) = v := ⟨_, rfl⟩
  obtain ⟨fr, hfr⟩ : ∃ v, ds.drop (behD ds) = v := ⟨_, rfl⟩
  rw [hvni, hoam, hfr] at HR1 HR2
  rw [hfr] at hff
  rw [hvni, hfr] at hC
  have HE2 : Hid (∀ W oa oc, OS W oa os.length os → Calls Try.prog 8 #[.agg #[.int .u32 src, .int .u32 dst, .int .i64 sp, .int .i64 vni, .bool oam, .slice oa os.length oc, .string (strOfNums fr)]] W fun e w' => REnc src dst sp vni oam os fr W e w') := fun W oa oc h => rencap_any src dst sp vni oam oa os.length oc os fr W h hs hd hff
  have HE1 : Hid (∀ W oa oc, OS W oa os.length os → Calls Try.prog 7 #[.agg #[.int .u32 src, .int .u32 dst, .int .i64 sp, .int .i64 vni, .bool oam, .slice oa os.length oc, .string (strOfNums fr)]] W fun e w' => ∃ a' cap' f, e = .returned (.tuple #[.slice a' ([] : List Int).length cap', .int .i64 f]) ∧ BS w' a' ([] : List Int).length [] ∧ Below W.heap.size W w') := fun W oa oc h => (encap_no src dst sp vni oam oa os.length oc os fr W h _ rfl (by simpa using hC)).mono fun e w' q => ⟨none, 0, _, q.1, BS.empty _, q.2⟩
  refine ⟨fun W a n cap h hc => ?_, fun W a n cap h hc => ?_⟩
  · have hlen := h.len
    obtain ⟨b, off, rfl, _⟩ := h.cells.resolve_left (by have := L.twenty; have := L.mT; have := L.Tn; omega)
    have hT := L.mT
    have hTn := L.Tn
    have h20 := L.twenty
    have hcm : ¬ cap = m := by omega
    exact (decap_other W b off n cap zs h hc m T (by omega) hT (by omega) hcm tos id fr0 ttl pr src dst io (fun W hB => by have q := (Ip.decode_any W _ n cap zs hB hc).2 m (by rw [← hlen]; exact L.mok); rw [hip, L.tot] at q; exact q) k' ty co re sp dp ns sq ak fl wi ur lo ds hdf (by omega) (fun W hB => by have q := decode_any src dst pr hs hd (some ⟨b, off + m, none⟩) (T - m) (cap - m) ((zs.drop m).take (T - m)) (by omega) (fun x e => ⟨b, off + m, by cases e; rfl⟩) (fun e => by cases e) W (cut_bs hB L.mT (by omega) (by omega)); rw [hx, hE] at q; exact q) vni oam (strOfNums fr) os HR1 [] (fun e => by have h9 : 0 = zs.length := congrArg List.length e; omega) HE1).mono fun e w' q => DAns.zero q
  · have hlen := h.len
    obtain ⟨b, off, rfl, _⟩ := h.cells.resolve_left (by have := L.twenty; have := L.mT; have := L.Tn; omega)
    have hT := L.mT
    have hTn := L.Tn
    have h20 := L.twenty
    have hcm : ¬ cap = m := by omega
    exact (rdecap_n W b off n cap m T zs h hc (by omega) hT (by omega) hcm tos id fr0 ttl pr src dst io (fun W hB => by have q := (Ip.rdec_any W _ n cap zs hB hc).2 m (by rw [← hlen]; exact L.mok); rw [hip, L.tot] at q; exact q) k' ty co re sp dp ns sq ak fl wi ur lo ds 0 (fun W hB => by have q := rdecode_any src dst pr hs hd (some ⟨b, off + m, none⟩) (T - m) (cap - m) ((zs.drop m).take (T - m)) (by omega) W (cut_bs hB L.mT (by omega) (by omega)); rw [hx, hE] at q; exact q) vni oam os fr true HR2 HE2).mono fun e w' q => q.zero (.inr (.inl hC))
theorem pair_other (zs : List Int) (_hfz : Fit zs) (m T : Nat) (L : Lay zs m T) (tos id fr0 ttl pr src dst : Int) (io : List Int) (hip : Ip.ipF zs m = .agg #[.int .i64 tos, .int .i64 id, .int .i64 fr0, .int .i64 ttl, .int .i64 pr, .int .u32 src, .int .u32 dst, .string (strOfNums io)]) (hs : 0 ≤ src ∧ src ≤ 4294967295) (hd : 0 ≤ dst ∧ dst ≤ 4294967295) (k' ty co re sp dp : Int) (ns : Bool) (sq ak fl wi ur : Int) (lo ds : List Int) (hx : decR src dst (kindV pr) ((zs.drop m).take (T - m)) = ⟨k', ty, co, re, sp, dp, ns, sq, ak, fl, wi, ur, lo, ds⟩) (hE : decE src dst (kindV pr) ((zs.drop m).take (T - m)) = 0) (hdf : Fit ds) (hdl : ds.length ≤ T - m) (h8 : 8 ≤ ds.length) (hbe : behD ds ≤ ds.length) (os : List Opt) (hos : rdO (optsD ds) = some os) (hC : chkE sp (num ((ds.drop 4).take 3)) os (ds.drop (behD ds)).length = 0) (hne : encB src dst sp (num ((ds.drop 4).take 3)) (bits .and .u8 (ds.getD 1 0) 128 != 0) os (ds.drop (behD ds)) ≠ zs) : Pair zs 0 0 0 0 false [] [] 70 := by
  have hml := L.most
  have hfo : ∀ o ∈ os, Fit o.data := rdO_fit _ (optsD ds) rfl (fits_take9 (fit_drop hdf 8) _) os hos
  have HR1 : Hid (∀ W g c, BS W (some ⟨g, 0, none⟩) ds.length ds → ds.length ≤ c → c ≤ 9223372036854775807 → Calls Try.prog 26 #[.slice (some ⟨g, 0, none⟩) ds.length c] W fun e w' => ∃ oa oc, e = .returned (.tuple #[.agg #[.int .u32 0, .int .u32 0, .int .i64 0, .int .i64 (num ((ds.drop 4).take 3)), .bool (bits .and .u8 (ds.getD 1 0) 128 != 0), .slice oa os.length oc, .string (strOfNums (ds.drop (behD ds)))], .bool true]) ∧ OS w' oa os.length os ∧ (∀ x, oa = some x → W.heap.size ≤ x.block) ∧ Below W.heap.size W w') := fun W g c hB h1 h2 => read_all g 0 ds.length c ds W hB h1 h2 h8 hbe os hos
  have HR2 : Hid ((0 : Int) = 0 → ∀ W, Calls Try.prog 30 #[.string (strOfNums ds)] W fun e w' => ∃ oa oc, e = .returned (.tuple #[.agg #[.int .u32 0, .int .u32 0, .int .i64 0, .int .i64 (num ((ds.drop 4).take 3)), .bool (bits .and .u8 (ds.getD 1 0) 128 != 0), .slice oa os.length oc, .string (strOfNums (ds.drop (behD ds)))], .bool true]) ∧ OS w' oa os.length os ∧ (∀ x, oa = some x → W.heap.size ≤ x.block) ∧ Below W.heap.size W w') := fun _ W => by
    have q := rinner_main ds hdf (by omega) h8 W
    rw [show rdX ds = some os from by unfold rdX; rw [if_neg (show ¬ ds.length < behD ds by omega), hos]] at q
    exact q.mono fun e w' ⟨⟨a', c', h1, h2, h3⟩, h4⟩ => ⟨a', c', h1, h2, h3, h4⟩
  have hff : Fit (ds.drop (behD ds)) := fit_drop hdf _
  obtain ⟨vni, hvni⟩ : ∃ v, num ((ds.drop 4).take 3) = v := ⟨_, rfl⟩
  obtain ⟨oam, hoam⟩ : ∃ v, (bits .and .u8 (ds.getD 1 0) 128 != 0) = v := ⟨_, rfl⟩
  obtain ⟨fr, hfr⟩ : ∃ v, ds.drop (behD ds) = v := ⟨_, rfl⟩
  rw [hvni, hoam, hfr] at HR1 HR2
  rw [hfr] at hff
  rw [hvni, hfr] at hC
  rw [hvni, hoam, hfr] at hne
  have HE2 : Hid (∀ W oa oc, OS W oa os.length os → Calls Try.prog 8 #[.agg #[.int .u32 src, .int .u32 dst, .int .i64 sp, .int .i64 vni, .bool oam, .slice oa os.length oc, .string (strOfNums fr)]] W fun e w' => REnc src dst sp vni oam os fr W e w') := fun W oa oc h => rencap_any src dst sp vni oam oa os.length oc os fr W h hs hd hff
  have hEF : Fit (encB src dst sp vni oam os fr) := encB_fit9 src dst sp vni oam os fr hfo hff hs hd hC
  have hEL := encB_len9 src dst sp vni oam os fr
  have hPL := payB_len vni oam os fr
  obtain ⟨p1, p2, p3, p4, p5⟩ := chk_parts hC
  have HE1 : Hid (∀ W oa oc, OS W oa os.length os → Calls Try.prog 7 #[.agg #[.int .u32 src, .int .u32 dst, .int .i64 sp, .int .i64 vni, .bool oam, .slice oa os.length oc, .string (strOfNums fr)]] W fun e w' => ∃ a' cap' f, e = .returned (.tuple #[.slice a' (encB src dst sp vni oam os fr).length cap', .int .i64 f]) ∧ BS w' a' (encB src dst sp vni oam os fr).length (encB src dst sp vni oam os fr) ∧ Below W.heap.size W w') := fun W oa oc h => (encap_yes src dst sp vni oam oa os.length oc os fr W h hC hs hd hff).mono fun e w' ⟨a', cap', h1, h2, h3⟩ => ⟨a', cap', 0, h1, own_bs h2 hEF (by omega), h3⟩
  refine ⟨fun W a n cap h hc => ?_, fun W a n cap h hc => ?_⟩
  · have hlen := h.len
    obtain ⟨b, off, rfl, _⟩ := h.cells.resolve_left (by have := L.twenty; have := L.mT; have := L.Tn; omega)
    have hT := L.mT
    have hTn := L.Tn
    have h20 := L.twenty
    have hcm : ¬ cap = m := by omega
    exact (decap_other W b off n cap zs h hc m T (by omega) hT (by omega) hcm tos id fr0 ttl pr src dst io (fun W hB => by have q := (Ip.decode_any W _ n cap zs hB hc).2 m (by rw [← hlen]; exact L.mok); rw [hip, L.tot] at q; exact q) k' ty co re sp dp ns sq ak fl wi ur lo ds hdf (by omega) (fun W hB => by have q := decode_any src dst pr hs hd (some ⟨b, off + m, none⟩) (T - m) (cap - m) ((zs.drop m).take (T - m)) (by omega) (fun x e => ⟨b, off + m, by cases e; rfl⟩) (fun e => by cases e) W (cut_bs hB L.mT (by omega) (by omega)); rw [hx, hE] at q; exact q) vni oam (strOfNums fr) os HR1 (encB src dst sp vni oam os fr) hne HE1).mono fun e w' q => DAns.zero q
  · have hlen := h.len
    obtain ⟨b, off, rfl, _⟩ := h.cells.resolve_left (by have := L.twenty; have := L.mT; have := L.Tn; omega)
    have hT := L.mT
    have hTn := L.Tn
    have h20 := L.twenty
    have hcm : ¬ cap = m := by omega
    exact (rdecap_n W b off n cap m T zs h hc (by omega) hT (by omega) hcm tos id fr0 ttl pr src dst io (fun W hB => by have q := (Ip.rdec_any W _ n cap zs hB hc).2 m (by rw [← hlen]; exact L.mok); rw [hip, L.tot] at q; exact q) k' ty co re sp dp ns sq ak fl wi ur lo ds 0 (fun W hB => by have q := rdecode_any src dst pr hs hd (some ⟨b, off + m, none⟩) (T - m) (cap - m) ((zs.drop m).take (T - m)) (by omega) W (cut_bs hB L.mT (by omega) (by omega)); rw [hx, hE] at q; exact q) vni oam os fr true HR2 HE2).mono fun e w' q => q.zero (.inr (.inr hne))
theorem pair_good (zs : List Int) (hfz : Fit zs) (m T : Nat) (L : Lay zs m T) (tos id fr0 ttl pr src dst : Int) (io : List Int) (hip : Ip.ipF zs m = .agg #[.int .i64 tos, .int .i64 id, .int .i64 fr0, .int .i64 ttl, .int .i64 pr, .int .u32 src, .int .u32 dst, .string (strOfNums io)]) (hs : 0 ≤ src ∧ src ≤ 4294967295) (hd : 0 ≤ dst ∧ dst ≤ 4294967295) (k' ty co re sp dp : Int) (ns : Bool) (sq ak fl wi ur : Int) (lo ds : List Int) (hx : decR src dst (kindV pr) ((zs.drop m).take (T - m)) = ⟨k', ty, co, re, sp, dp, ns, sq, ak, fl, wi, ur, lo, ds⟩) (hE : decE src dst (kindV pr) ((zs.drop m).take (T - m)) = 0) (hdf : Fit ds) (hdl : ds.length ≤ T - m) (h8 : 8 ≤ ds.length) (hbe : behD ds ≤ ds.length) (os : List Opt) (hos : rdO (optsD ds) = some os) (hC : chkE sp (num ((ds.drop 4).take 3)) os (ds.drop (behD ds)).length = 0) (hne : encB src dst sp (num ((ds.drop 4).take 3)) (bits .and .u8 (ds.getD 1 0) 128 != 0) os (ds.drop (behD ds)) = zs) : Pair zs src dst sp (num ((ds.drop 4).take 3)) (bits .and .u8 (ds.getD 1 0) 128 != 0) os (ds.drop (behD ds)) 0 := by
  have hml := L.most
  have hfo : ∀ o ∈ os, Fit o.data := rdO_fit _ (optsD ds) rfl (fits_take9 (fit_drop hdf 8) _) os hos
  have HR1 : Hid (∀ W g c, BS W (some ⟨g, 0, none⟩) ds.length ds → ds.length ≤ c → c ≤ 9223372036854775807 → Calls Try.prog 26 #[.slice (some ⟨g, 0, none⟩) ds.length c] W fun e w' => ∃ oa oc, e = .returned (.tuple #[.agg #[.int .u32 0, .int .u32 0, .int .i64 0, .int .i64 (num ((ds.drop 4).take 3)), .bool (bits .and .u8 (ds.getD 1 0) 128 != 0), .slice oa os.length oc, .string (strOfNums (ds.drop (behD ds)))], .bool true]) ∧ OS w' oa os.length os ∧ (∀ x, oa = some x → W.heap.size ≤ x.block) ∧ Below W.heap.size W w') := fun W g c hB h1 h2 => read_all g 0 ds.length c ds W hB h1 h2 h8 hbe os hos
  have HR2 : Hid ((0 : Int) = 0 → ∀ W, Calls Try.prog 30 #[.string (strOfNums ds)] W fun e w' => ∃ oa oc, e = .returned (.tuple #[.agg #[.int .u32 0, .int .u32 0, .int .i64 0, .int .i64 (num ((ds.drop 4).take 3)), .bool (bits .and .u8 (ds.getD 1 0) 128 != 0), .slice oa os.length oc, .string (strOfNums (ds.drop (behD ds)))], .bool true]) ∧ OS w' oa os.length os ∧ (∀ x, oa = some x → W.heap.size ≤ x.block) ∧ Below W.heap.size W w') := fun _ W => by
    have q := rinner_main ds hdf (by omega) h8 W
    rw [show rdX ds = some os from by unfold rdX; rw [if_neg (show ¬ ds.length < behD ds by omega), hos]] at q
    exact q.mono fun e w' ⟨⟨a', c', h1, h2, h3⟩, h4⟩ => ⟨a', c', h1, h2, h3, h4⟩
  have hff : Fit (ds.drop (behD ds)) := fit_drop hdf _
  obtain ⟨vni, hvni⟩ : ∃ v, num ((ds.drop 4).take 3) = v := ⟨_, rfl⟩
  obtain ⟨oam, hoam⟩ : ∃ v, (bits .and .u8 (ds.getD 1 0) 128 != 0) = v := ⟨_, rfl⟩
  obtain ⟨fr, hfr⟩ : ∃ v, ds.drop (behD ds) = v := ⟨_, rfl⟩
  rw [hvni, hoam, hfr] at HR1 HR2
  rw [hfr] at hff
  rw [hvni, hfr] at hC
  rw [hvni, hoam, hfr] at hne ⊢
  have HE2 : Hid (∀ W oa oc, OS W oa os.length os → Calls Try.prog 8 #[.agg #[.int .u32 src, .int .u32 dst, .int .i64 sp, .int .i64 vni, .bool oam, .slice oa os.length oc, .string (strOfNums fr)]] W fun e w' => REnc src dst sp vni oam os fr W e w') := fun W oa oc h => rencap_any src dst sp vni oam oa os.length oc os fr W h hs hd hff
  have HE1 : Hid (∀ (n : Nat), zs.length = n → n ≤ 140737488355328 → ∀ W oa oc, OS W oa os.length os → Calls Try.prog 7 #[.agg #[.int .u32 src, .int .u32 dst, .int .i64 sp, .int .i64 vni, .bool oam, .slice oa os.length oc, .string (strOfNums fr)]] W fun e w' => ∃ a' cap', e = .returned (.tuple #[.slice a' n cap', .int .i64 0]) ∧ BS w' a' n zs ∧ Below W.heap.size W w') := fun n hn hn2 W oa oc h => (encap_yes src dst sp vni oam oa os.length oc os fr W h hC hs hd hff).mono fun e w' ⟨a', cap', h1, h2, h3⟩ => by
    rw [hne, hn] at h1 h2
    exact ⟨a', cap', h1, own_bs h2 hfz (by omega), h3⟩
  refine ⟨fun W a n cap h hc => ?_, fun W a n cap h hc => ?_⟩
  · have hlen := h.len
    obtain ⟨b, off, rfl, _⟩ := h.cells.resolve_left (by have := L.twenty; have := L.mT; have := L.Tn; omega)
    have hT := L.mT
    have hTn := L.Tn
    have h20 := L.twenty
    have hcm : ¬ cap = m := by omega
    exact (decap_opts W b off n cap zs h hc m T (by omega) hT (by omega) hcm tos id fr0 ttl pr src dst io (fun W hB => by have q := (Ip.decode_any W _ n cap zs hB hc).2 m (by rw [← hlen]; exact L.mok); rw [hip, L.tot] at q; exact q) k' ty co re sp dp ns sq ak fl wi ur lo ds hdf (by omega) (fun W hB => by have q := decode_any src dst pr hs hd (some ⟨b, off + m, none⟩) (T - m) (cap - m) ((zs.drop m).take (T - m)) (by omega) (fun x e => ⟨b, off + m, by cases e; rfl⟩) (fun e => by cases e) W (cut_bs hB L.mT (by omega) (by omega)); rw [hx, hE] at q; exact q) vni oam (strOfNums fr) os HR1 (HE1.out n hlen (by have := encB_len9 src dst sp vni oam os fr; have := payB_len vni oam os fr; have := chk_parts hC; rw [hne] at *; omega))).mono fun e w' q => q
  · have hlen := h.len
    obtain ⟨b, off, rfl, _⟩ := h.cells.resolve_left (by have := L.twenty; have := L.mT; have := L.Tn; omega)
    have hT := L.mT
    have hTn := L.Tn
    have h20 := L.twenty
    have hcm : ¬ cap = m := by omega
    exact (rdecap_n W b off n cap m T zs h hc (by omega) hT (by omega) hcm tos id fr0 ttl pr src dst io (fun W hB => by have q := (Ip.rdec_any W _ n cap zs hB hc).2 m (by rw [← hlen]; exact L.mok); rw [hip, L.tot] at q; exact q) k' ty co re sp dp ns sq ak fl wi ur lo ds 0 (fun W hB => by have q := rdecode_any src dst pr hs hd (some ⟨b, off + m, none⟩) (T - m) (cap - m) ((zs.drop m).take (T - m)) (by omega) W (cut_bs hB L.mT (by omega) (by omega)); rw [hx, hE] at q; exact q) vni oam os fr true HR2 HE2).mono fun e w' q => q.good hC hne
theorem decap_pair (zs : List Int) (hfz : Fit zs) : ∃ src dst sp vni oam os fr f, GoodT zs src dst sp vni oam os fr f ∧ Pair zs src dst sp vni oam os fr f := by
  rcases Ip.msr_cases zs zs.length hfz with ⟨f, hf3, hm⟩ | ⟨m, hM⟩
  · exact ⟨0, 0, 0, 0, false, [], [], f, GoodT.zero zs (by rcases hf3 with h | h | h <;> omega), pair_ipbad zs f hf3 hm⟩
  obtain ⟨T, L⟩ := lay_of hfz hM
  obtain ⟨tos, id, fr0, ttl, pr, src, dst, io, hip, hs, hd⟩ := ipF_parts zs m hfz
  obtain ⟨hdf, hdl⟩ := decR_ds src dst (kindV pr) ((zs.drop m).take (T - m)) (fits_take9 (fit_drop hfz m) _)
  have hl2 : ((zs.drop m).take (T - m)).length ≤ T - m := List.length_take_le _ _
  obtain ⟨x, hx⟩ : ∃ x, decR src dst (kindV pr) ((zs.drop m).take (T - m)) = x := ⟨_, rfl⟩
  rw [hx] at hdf hdl
  obtain ⟨k', ty, co, re, sp, dp, ns, sq, ak, fl, wi, ur, lo, ds⟩ := x
  replace hdf : Fit ds := hdf
  replace hdl : ds.length ≤ T - m := Nat.le_trans hdl hl2
  have hml := L.most
  by_cases hno : decE src dst (kindV pr) ((zs.drop m).take (T - m)) = 0 → ds.length < 8 ∨ ds.length < behD ds ∨ rdO (optsD ds) = none
  · exact ⟨0, 0, 0, 0, false, [], [], _, GoodT.zero zs (by split <;> omega), pair_bad zs hfz m T L tos id fr0 ttl pr src dst io hip hs hd k' ty co re sp dp ns sq ak fl wi ur lo ds hx _ rfl hdf (by omega) hno⟩
  obtain ⟨hE, hno⟩ := Classical.not_imp.1 hno
  have h8 : 8 ≤ ds.length := by
    rcases Nat.lt_or_ge ds.length 8 with h | h
    · exact absurd (Or.inl h) hno
    · exact h
  have hbe : behD ds ≤ ds.length := by
    rcases Nat.lt_or_ge ds.length (behD ds) with h | h
    · exact absurd (Or.inr (Or.inl h)) hno
    · exact h
  obtain ⟨os, hos⟩ : ∃ os, rdO (optsD ds) = some os := by
    cases h : rdO (optsD ds) with
    | none => exact absurd (Or.inr (Or.inr h)) hno
    | some os => exact ⟨os, rfl⟩
  by_cases hC : ¬ chkE sp (num ((ds.drop 4).take 3)) os (ds.drop (behD ds)).length = 0
  · exact ⟨0, 0, 0, 0, false, [], [], 70, GoodT.zero zs (by decide), pair_encbad zs hfz m T L tos id fr0 ttl pr src dst io hip hs hd k' ty co re sp dp ns sq ak fl wi ur lo ds hx hE hdf hdl h8 hbe os hos hC⟩
  replace hC : chkE sp (num ((ds.drop 4).take 3)) os (ds.drop (behD ds)).length = 0 := by omega
  by_cases hne : encB src dst sp (num ((ds.drop 4).take 3)) (bits .and .u8 (ds.getD 1 0) 128 != 0) os (ds.drop (behD ds)) = zs
  · exact ⟨src, dst, sp, _, _, os, _, 0, ⟨hs, hd, fit_drop hdf _, fun _ => ⟨hC, hne⟩⟩, pair_good zs hfz m T L tos id fr0 ttl pr src dst io hip hs hd k' ty co re sp dp ns sq ak fl wi ur lo ds hx hE hdf hdl h8 hbe os hos hC hne⟩
  · exact ⟨0, 0, 0, 0, false, [], [], 70, GoodT.zero zs (by decide), pair_other zs hfz m T L tos id fr0 ttl pr src dst io hip hs hd k' ty co re sp dp ns sq ak fl wi ur lo ds hx hE hdf hdl h8 hbe os hos hC hne⟩
end Go.Proofs.Ytgonckbdkgiddaa

namespace Go.Proofs.Ytgonckbdkgiddaa
open Go.RowKit
set_option maxRecDepth 20000
set_option linter.unusedSimpArgs false
set_option maxHeartbeats 4000000 in
theorem decaps_no (a : Option Addr) (n cap : Nat) (zs : List Int) (w : World) (h : BS w a n zs) (hcap : n ≤ cap) (hcm : cap ≤ 140737488351232) (src dst sp vni : Int) (oam : Bool) (os : List Opt) (fr : List Int) (f : Int) (hf : f ≠ 0) (hP : Pair zs src dst sp vni oam os fr f) :
    Calls Try.prog 4 #[.slice a n cap] w fun e w' => e = .returned (.bool true) ∧ Below w.heap.size w w' := by
  have HP1 : Hid _ := hP.1
  have HP2 : Hid _ := hP.2
  have H : Hid _ := h
  have HFT : Hid _ := h.fits
  have HLN : Hid _ := h.len
  have hf1 : (f != 0) = true := by simpa using hf
  have hf2 : (f != f) = false := by simp
  have hSa : Hid _ := fun W oa oc ua uc (h1 : OS W oa os.length os) (h2 : OS W ua os.length os) => same_any src dst sp vni oam (strOfNums fr) oa ua os.length oc uc os W h1 h2
  obtain ⟨i0, hi, hz0, hz1, hz2⟩ := info_parts info5
  clear h hP
  go_enter Try.func4, Try.ntmps4
  go_wp2_with (at_builtin; refine wpList_append_bs (by rfl) _ _ 26 rfl w.heap.size 5 i0 Try.underlying26 hi hz0 hz1 hz2 _ 0 [] rfl (own_empty w _ (Nat.le_refl _)) _ n cap _ rfl (H.out.below (below1 w _)) (by omega) (by simp) ?_)
  intro a1 cap1 W1 hown hgrow
  have B1 : Hid (Below w.heap.size w W1) := (below1 w _).grown hgrow (by simp) (by rintro k ⟨⟩; exact Nat.le_refl _)
  have hown1 : W1.ownsRow w.heap.size 5 1 (.slice a1 n cap1) n (zs.map (Value.int .u8)) := by simpa using hown
  have hcp1 := own_caps hown1
  have S1 : Hid (BS W1 a1 n zs) := own_bs hown1 HFT.out (by omega)
  clear hown hgrow hown1 hi hz0 hz1 hz2
  go_wp2_with fail
  refine (HP1.out W1 a1 n cap1 S1.out (by omega)).mono ?_
  rintro e W2 ⟨oa, oc, rfl, hO, hb⟩
  have hbw := hb.trans ((below1 W2 (.cells #[.int .u32 src, .int .u32 dst, .int .i64 sp, .int .i64 vni, .bool oam, .slice oa os.length oc, .string (strOfNums fr)] 25)).mono hb.size)
  have B3 : Hid (Below w.heap.size w (W2.alloc (.cells #[.int .u32 src, .int .u32 dst, .int .i64 sp, .int .i64 vni, .bool oam, .slice oa os.length oc, .string (strOfNums fr)] 25))) := B1.out.trans (hbw.mono B1.out.size)
  have S3 : Hid (BS (W2.alloc (.cells #[.int .u32 src, .int .u32 dst, .int .i64 sp, .int .i64 vni, .bool oam, .slice oa os.length oc, .string (strOfNums fr)] 25)) a1 n zs) := S1.out.below hbw
  have O3 : Hid (OS (W2.alloc (.cells #[.int .u32 src, .int .u32 dst, .int .i64 sp, .int .i64 vni, .bool oam, .slice oa os.length oc, .string (strOfNums fr)] 25)) oa os.length os) := hO.below (below1 W2 _)
  have Q3 : Hid ((W2.alloc (.cells #[.int .u32 src, .int .u32 dst, .int .i64 sp, .int .i64 vni, .bool oam, .slice oa os.length oc, .string (strOfNums fr)] 25)).heap[W2.heap.size]? = some (.cells #[.int .u32 src, .int .u32 dst, .int .i64 sp, .int .i64 vni, .bool oam, .slice oa os.length oc, .string (strOfNums fr)] 25 (0, 0))) := heap_alloc_new W2 _
  clear hb hbw hO B1 S1 HP1
  go_wp2_with fail
  obtain ⟨W3, hW⟩ : ∃ V, W2.alloc (.cells #[.int .u32 src, .int .u32 dst, .int .i64 sp, .int .i64 vni, .bool oam, .slice oa os.length oc, .string (strOfNums fr)] 25) = V := ⟨_, rfl⟩
  obtain ⟨g3, hg⟩ : ∃ V, W2.heap.size = V := ⟨_, rfl⟩
  rw [hW] at B3 S3 O3 Q3 ⊢
  rw [hg] at Q3 ⊢
  clear hW hg
  refine (HP2.out W3 a n cap (H.out.below B3.out) hcap).mono ?_
  rintro e W4 ⟨ua, uc, rfl, hU, hb⟩
  have hbw := hb.trans ((below1 W4 (.cells #[.int .u32 src, .int .u32 dst, .int .i64 sp, .int .i64 vni, .bool oam, .slice ua os.length uc, .string (strOfNums fr)] 25)).mono hb.size)
  have B5 : Hid (Below w.heap.size w (W4.alloc (.cells #[.int .u32 src, .int .u32 dst, .int .i64 sp, .int .i64 vni, .bool oam, .slice ua os.length uc, .string (strOfNums fr)] 25))) := B3.out.trans (hbw.mono B3.out.size)
  have S5 : Hid (BS (W4.alloc (.cells #[.int .u32 src, .int .u32 dst, .int .i64 sp, .int .i64 vni, .bool oam, .slice ua os.length uc, .string (strOfNums fr)] 25)) a1 n zs) := S3.out.below hbw
  have O5 : Hid (OS (W4.alloc (.cells #[.int .u32 src, .int .u32 dst, .int .i64 sp, .int .i64 vni, .bool oam, .slice ua os.length uc, .string (strOfNums fr)] 25)) oa os.length os) := O3.out.below hbw
  have U5 : Hid (OS (W4.alloc (.cells #[.int .u32 src, .int .u32 dst, .int .i64 sp, .int .i64 vni, .bool oam, .slice ua os.length uc, .string (strOfNums fr)] 25)) ua os.length os) := hU.below (below1 W4 _)
  have Q5 : Hid ((W4.alloc (.cells #[.int .u32 src, .int .u32 dst, .int .i64 sp, .int .i64 vni, .bool oam, .slice ua os.length uc, .string (strOfNums fr)] 25)).heap[g3]? = some (.cells #[.int .u32 src, .int .u32 dst, .int .i64 sp, .int .i64 vni, .bool oam, .slice oa os.length oc, .string (strOfNums fr)] 25 (0, 0))) := (hbw.block _ (Ca.lt_of_heap Q3.out)).trans Q3.out
  have R5 : Hid ((W4.alloc (.cells #[.int .u32 src, .int .u32 dst, .int .i64 sp, .int .i64 vni, .bool oam, .slice ua os.length uc, .string (strOfNums fr)] 25)).heap[W4.heap.size]? = some (.cells #[.int .u32 src, .int .u32 dst, .int .i64 sp, .int .i64 vni, .bool oam, .slice ua os.length uc, .string (strOfNums fr)] 25 (0, 0))) := heap_alloc_new W4 _
  clear hb hbw hU B3 S3 O3 Q3 HP2
  go_wp2_with fail
  obtain ⟨W5, hW⟩ : ∃ V, W4.alloc (.cells #[.int .u32 src, .int .u32 dst, .int .i64 sp, .int .i64 vni, .bool oam, .slice ua os.length uc, .string (strOfNums fr)] 25) = V := ⟨_, rfl⟩
  obtain ⟨g5, hg⟩ : ∃ V, W4.heap.size = V := ⟨_, rfl⟩
  rw [hW] at B5 S5 O5 U5 Q5 R5 ⊢
  rw [hg] at R5 ⊢
  clear hW hg
  refine (glives_any _).mono ?_
  rintro e W6 ⟨rfl, hb⟩
  have B6 : Hid (Below w.heap.size w W6) := B5.out.trans (hb.mono B5.out.size)
  have S6 : Hid _ := S5.out.below hb
  have O6 : Hid _ := O5.out.below hb
  have U6 : Hid _ := U5.out.below hb
  have Q6 : Hid _ := (hb.block _ (Ca.lt_of_heap Q5.out)).trans Q5.out
  have R6 : Hid _ := (hb.block _ (Ca.lt_of_heap R5.out)).trans R5.out
  clear hb B5 S5 O5 U5 Q5 R5
  obtain ⟨x0, x1, x2, x3, x4, x5, x6⟩ := seven Q6.out
  obtain ⟨y0, y1, y2, y3, y4, y5, y6⟩ := seven R6.out
  go_wp2_with fail
  refine (hSa.out W6 oa oc ua uc O6.out U6.out).mono ?_
  rintro e W7 ⟨rfl, hb⟩
  have B7 : Hid (Below w.heap.size w W7) := B6.out.trans (hb.mono B6.out.size)
  have S7 : Hid _ := S6.out.below hb
  have O7 : Hid _ := O6.out.below hb
  have Q7 : Hid _ := (hb.block _ (Ca.lt_of_heap Q6.out)).trans Q6.out
  clear hb B6 S6 O6 U6 Q6 R6 x0 x1 x2 x3 x4 x5 x6 y0 y1 y2 y3 y4 y5 y6 hSa
  have H7 := H.out.below B7.out
  have cv1 := run_conv_bs (P := Try.prog) cap1 S7.out 26 9 5 Try.underlying26 Try.underlying5 Try.underlying9
  have cv2 := run_conv_bs (P := Try.prog) cap H7 26 9 5 Try.underlying26 Try.underlying5 Try.underlying9
  clear H7
  go_wp2
  go_ret
  exact ⟨rfl, B7.out⟩
set_option maxHeartbeats 4000000 in
theorem decaps_yes (a : Option Addr) (n cap : Nat) (zs : List Int) (w : World) (h : BS w a n zs) (hcap : n ≤ cap) (hcm : cap ≤ 140737488351232) (src dst sp vni : Int) (oam : Bool) (os : List Opt) (fr : List Int) (hs : 0 ≤ src ∧ src ≤ 4294967295) (hd : 0 ≤ dst ∧ dst ≤ 4294967295) (hff : Fit fr) (hC : chkE sp vni os fr.length = 0) (hE : encB src dst sp vni oam os fr = zs) (hP : Pair zs src dst sp vni oam os fr 0) :
    Calls Try.prog 4 #[.slice a n cap] w fun e w' => e = .returned (.bool true) ∧ Below w.heap.size w w' := by
  have HP1 : Hid _ := hP.1
  have HP2 : Hid _ := hP.2
  have H : Hid _ := h
  have HFT : Hid _ := h.fits
  have HLN : Hid _ := h.len
  have hK : Hid (∀ W oa oc, OS W oa os.length os → Calls Try.prog 7 #[.agg #[.int .u32 src, .int .u32 dst, .int .i64 sp, .int .i64 vni, .bool oam, .slice oa os.length oc, .string (strOfNums fr)]] W fun e w' => ∃ a' cap', e = .returned (.tuple #[.slice a' n cap', .int .i64 0]) ∧ BS w' a' n zs ∧ Below W.heap.size W w') := fun W oa oc h => (encap_yes src dst sp vni oam oa os.length oc os fr W h hC hs hd hff).mono fun e w' ⟨a', cap', h1, h2, h3⟩ => by
    rw [hE, HLN.out] at h1 h2
    exact ⟨a', cap', h1, own_bs h2 HFT.out (by omega), h3⟩
  have hSa : Hid _ := fun W oa oc ua uc (h1 : OS W oa os.length os) (h2 : OS W ua os.length os) => same_any src dst sp vni oam (strOfNums fr) oa ua os.length oc uc os W h1 h2
  obtain ⟨i0, hi, hz0, hz1, hz2⟩ := info_parts info5
  clear h hP
  go_enter Try.func4, Try.ntmps4
  go_wp2_with (at_builtin; refine wpList_append_bs (by rfl) _ _ 26 rfl w.heap.size 5 i0 Try.underlying26 hi hz0 hz1 hz2 _ 0 [] rfl (own_empty w _ (Nat.le_refl _)) _ n cap _ rfl (H.out.below (below1 w _)) (by omega) (by simp) ?_)
  intro a1 cap1 W1 hown hgrow
  have B1 : Hid (Below w.heap.size w W1) := (below1 w _).grown hgrow (by simp) (by rintro k ⟨⟩; exact Nat.le_refl _)
  have hown1 : W1.ownsRow w.heap.size 5 1 (.slice a1 n cap1) n (zs.map (Value.int .u8)) := by simpa using hown
  have hcp1 := own_caps hown1
  have S1 : Hid (BS W1 a1 n zs) := own_bs hown1 HFT.out (by omega)
  clear hown hgrow hown1 hi hz0 hz1 hz2
  go_wp2_with fail
  refine (HP1.out W1 a1 n cap1 S1.out (by omega)).mono ?_
  rintro e W2 ⟨oa, oc, rfl, hO, hb⟩
  have hbw := hb.trans ((below1 W2 (.cells #[.int .u32 src, .int .u32 dst, .int .i64 sp, .int .i64 vni, .bool oam, .slice oa os.length oc, .string (strOfNums fr)] 25)).mono hb.size)
  have B3 : Hid (Below w.heap.size w (W2.alloc (.cells #[.int .u32 src, .int .u32 dst, .int .i64 sp, .int .i64 vni, .bool oam, .slice oa os.length oc, .string (strOfNums fr)] 25))) := B1.out.trans (hbw.mono B1.out.size)
  have S3 : Hid (BS (W2.alloc (.cells #[.int .u32 src, .int .u32 dst, .int .i64 sp, .int .i64 vni, .bool oam, .slice oa os.length oc, .string (strOfNums fr)] 25)) a1 n zs) := S1.out.below hbw
  have O3 : Hid (OS (W2.alloc (.cells #[.int .u32 src, .int .u32 dst, .int .i64 sp, .int .i64 vni, .bool oam, .slice oa os.length oc, .string (strOfNums fr)] 25)) oa os.length os) := hO.below (below1 W2 _)
  have Q3 : Hid ((W2.alloc (.cells #[.int .u32 src, .int .u32 dst, .int .i64 sp, .int .i64 vni, .bool oam, .slice oa os.length oc, .string (strOfNums fr)] 25)).heap[W2.heap.size]? = some (.cells #[.int .u32 src, .int .u32 dst, .int .i64 sp, .int .i64 vni, .bool oam, .slice oa os.length oc, .string (strOfNums fr)] 25 (0, 0))) := heap_alloc_new W2 _
  clear hb hbw hO B1 S1 HP1
  go_wp2_with fail
  obtain ⟨W3, hW⟩ : ∃ V, W2.alloc (.cells #[.int .u32 src, .int .u32 dst, .int .i64 sp, .int .i64 vni, .bool oam, .slice oa os.length oc, .string (strOfNums fr)] 25) = V := ⟨_, rfl⟩
  obtain ⟨g3, hg⟩ : ∃ V, W2.heap.size = V := ⟨_, rfl⟩
  rw [hW] at B3 S3 O3 Q3 ⊢
  rw [hg] at Q3 ⊢
  clear hW hg
  refine (HP2.out W3 a n cap (H.out.below B3.out) hcap).mono ?_
  rintro e W4 ⟨ua, uc, rfl, hU, hb⟩
  have hbw := hb.trans ((below1 W4 (.cells #[.int .u32 src, .int .u32 dst, .int .i64 sp, .int .i64 vni, .bool oam, .slice ua os.length uc, .string (strOfNums fr)] 25)).mono hb.size)
  have B5 : Hid (Below w.heap.size w (W4.alloc (.cells #[.int .u32 src, .int .u32 dst, .int .i64 sp, .int .i64 vni, .bool oam, .slice ua os.length uc, .string (strOfNums fr)] 25))) := B3.out.trans (hbw.mono B3.out.size)
  have S5 : Hid (BS (W4.alloc (.cells #[.int .u32 src, .int .u32 dst, .int .i64 sp, .int .i64 vni, .bool oam, .slice ua os.length uc, .string (strOfNums fr)] 25)) a1 n zs) := S3.out.below hbw
  have O5 : Hid (OS (W4.alloc (.cells #[.int .u32 src, .int .u32 dst, .int .i64 sp, .int .i64 vni, .bool oam, .slice ua os.length uc, .string (strOfNums fr)] 25)) oa os.length os) := O3.out.below hbw
  have U5 : Hid (OS (W4.alloc (.cells #[.int .u32 src, .int .u32 dst, .int .i64 sp, .int .i64 vni, .bool oam, .slice ua os.length uc, .string (strOfNums fr)] 25)) ua os.length os) := hU.below (below1 W4 _)
  have Q5 : Hid ((W4.alloc (.cells #[.int .u32 src, .int .u32 dst, .int .i64 sp, .int .i64 vni, .bool oam, .slice ua os.length uc, .string (strOfNums fr)] 25)).heap[g3]? = some (.cells #[.int .u32 src, .int .u32 dst, .int .i64 sp, .int .i64 vni, .bool oam, .slice oa os.length oc, .string (strOfNums fr)] 25 (0, 0))) := (hbw.block _ (Ca.lt_of_heap Q3.out)).trans Q3.out
  have R5 : Hid ((W4.alloc (.cells #[.int .u32 src, .int .u32 dst, .int .i64 sp, .int .i64 vni, .bool oam, .slice ua os.length uc, .string (strOfNums fr)] 25)).heap[W4.heap.size]? = some (.cells #[.int .u32 src, .int .u32 dst, .int .i64 sp, .int .i64 vni, .bool oam, .slice ua os.length uc, .string (strOfNums fr)] 25 (0, 0))) := heap_alloc_new W4 _
  clear hb hbw hU B3 S3 O3 Q3 HP2
  go_wp2_with fail
  obtain ⟨W5, hW⟩ : ∃ V, W4.alloc (.cells #[.int .u32 src, .int .u32 dst, .int .i64 sp, .int .i64 vni, .bool oam, .slice ua os.length uc, .string (strOfNums fr)] 25) = V := ⟨_, rfl⟩
  obtain ⟨g5, hg⟩ : ∃ V, W4.heap.size = V := ⟨_, rfl⟩
  rw [hW] at B5 S5 O5 U5 Q5 R5 ⊢
  rw [hg] at R5 ⊢
  clear hW hg
  refine (glives_any _).mono ?_
  rintro e W6 ⟨rfl, hb⟩
  have B6 : Hid (Below w.heap.size w W6) := B5.out.trans (hb.mono B5.out.size)
  have S6 : Hid _ := S5.out.below hb
  have O6 : Hid _ := O5.out.below hb
  have U6 : Hid _ := U5.out.below hb
  have Q6 : Hid _ := (hb.block _ (Ca.lt_of_heap Q5.out)).trans Q5.out
  have R6 : Hid _ := (hb.block _ (Ca.lt_of_heap R5.out)).trans R5.out
  clear hb B5 S5 O5 U5 Q5 R5
  obtain ⟨x0, x1, x2, x3, x4, x5, x6⟩ := seven Q6.out
  obtain ⟨y0, y1, y2, y3, y4, y5, y6⟩ := seven R6.out
  go_wp2_with fail
  refine (hSa.out W6 oa oc ua uc O6.out U6.out).mono ?_
  rintro e W7 ⟨rfl, hb⟩
  have B7 : Hid (Below w.heap.size w W7) := B6.out.trans (hb.mono B6.out.size)
  have S7 : Hid _ := S6.out.below hb
  have O7 : Hid _ := O6.out.below hb
  have Q7 : Hid _ := (hb.block _ (Ca.lt_of_heap Q6.out)).trans Q6.out
  clear hb B6 S6 O6 U6 Q6 R6 x0 x1 x2 x3 x4 x5 x6 y0 y1 y2 y3 y4 y5 y6 hSa
  have H7 := H.out.below B7.out
  have cv1 := run_conv_bs (P := Try.prog) cap1 S7.out 26 9 5 Try.underlying26 Try.underlying5 Try.underlying9
  have cv2 := run_conv_bs (P := Try.prog) cap H7 26 9 5 Try.underlying26 Try.underlying5 Try.underlying9
  clear H7
  obtain ⟨x0, x1, x2, x3, x4, x5, x6⟩ := seven Q7.out
  go_wp2_with fail
  refine (hK.out W7 oa oc O7.out).mono ?_
  rintro e W8 ⟨a8, c8, rfl, h8, hb⟩
  have B8 : Hid (Below w.heap.size w W8) := B7.out.trans (hb.mono B7.out.size)
  clear cv1 cv2 hb B7 S7 O7 Q7 x0 x1 x2 x3 x4 x5 x6 hK
  have H8 := H.out.below B8.out
  have cv1 := run_conv_bs (P := Try.prog) c8 h8 26 9 5 Try.underlying26 Try.underlying5 Try.underlying9
  have cv2 := run_conv_bs (P := Try.prog) cap H8 26 9 5 Try.underlying26 Try.underlying5 Try.underlying9
  clear H8 h8
  go_wp2
  go_ret
  exact ⟨rfl, B8.out⟩
theorem decaps_any (a : Option Addr) (n cap : Nat) (zs : List Int) (w : World) (h : BS w a n zs) (hcap : n ≤ cap) (hcm : cap ≤ 140737488351232) :
    Calls Try.prog 4 #[.slice a n cap] w fun e w' => e = .returned (.bool true) ∧ Below w.heap.size w w' := by
  obtain ⟨src, dst, sp, vni, oam, os, fr, f, ⟨hs, hd, hff, hgd⟩, hP⟩ := decap_pair zs h.fits
  by_cases hf : f = 0
  · subst hf
    obtain ⟨hC, hE⟩ := hgd rfl
    exact decaps_yes a n cap zs w h hcap hcm src dst sp vni oam os fr hs hd hff hC hE hP
  · exact decaps_no a n cap zs w h hcap hcm src dst sp vni oam os fr f hf hP
end Go.Proofs.Ytgonckbdkgiddaa
