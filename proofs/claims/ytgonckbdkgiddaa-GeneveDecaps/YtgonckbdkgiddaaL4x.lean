/- What Check of package l4 answers of every packet. Conditions: options and data of at most 2^47 bytes. -/
import Derived.Test.YtgonckbdkgiddaaL4c
import Derived.Deep.RegionHeld3
import Derived.Deep.RegionWith
import Derived.Deep.DrawnRows
namespace Go.Proofs.Ytgonckbdkgiddaa
open Go.RowKit
attribute [local go_sem ↓] Go.wp_at_zero Go.wp_at_succ
set_option maxHeartbeats 8000000 in
/-- Two packets of layer 4 held against each other. -/
theorem neq14 (k ty co re sp dp : Int) (ns : Bool) (sq ak fl wi ur : Int) (os ds : ByteArray) (k' ty' co' re' sp' dp' : Int) (ns' : Bool) (sq' ak' fl' wi' ur' : Int) (os' ds' : ByteArray) (W : World) :
    (binOp .neq 48 (.agg #[.int .i64 k, .int .i64 ty, .int .i64 co, .int .u32 re, .int .i64 sp, .int .i64 dp, .bool ns, .int .u32 sq, .int .u32 ak, .int .i64 fl, .int .i64 wi, .int .i64 ur, .string os, .string ds]) (.agg #[.int .i64 k', .int .i64 ty', .int .i64 co', .int .u32 re', .int .i64 sp', .int .i64 dp', .bool ns', .int .u32 sq', .int .u32 ak', .int .i64 fl', .int .i64 wi', .int .i64 ur', .string os', .string ds'])).run Try.prog W = .ok (.bool (!(k == k' && ty == ty' && co == co' && re == re' && sp == sp' && dp == dp' && ns == ns' && sq == sq' && ak == ak' && fl == fl' && wi == wi' && ur == ur' && os.toList == os'.toList && ds.toList == ds'.toList))) W := by
  cases h0 : (k == k')
  · simp [go_sem, h0]
  cases h1 : (ty == ty')
  · simp [go_sem, h0, h1]
  cases h2 : (co == co')
  · simp [go_sem, h0, h1, h2]
  cases h3 : (re == re')
  · simp [go_sem, h0, h1, h2, h3]
  cases h4 : (sp == sp')
  · simp [go_sem, h0, h1, h2, h3, h4]
  cases h5 : (dp == dp')
  · simp [go_sem, h0, h1, h2, h3, h4, h5]
  cases h6 : (ns == ns')
  · simp [go_sem, h0, h1, h2, h3, h4, h5, h6]
  cases h7 : (sq == sq')
  · simp [go_sem, h0, h1, h2, h3, h4, h5, h6, h7]
  cases h8 : (ak == ak')
  · simp [go_sem, h0, h1, h2, h3, h4, h5, h6, h7, h8]
  cases h9 : (fl == fl')
  · simp [go_sem, h0, h1, h2, h3, h4, h5, h6, h7, h8, h9]
  cases h10 : (wi == wi')
  · simp [go_sem, h0, h1, h2, h3, h4, h5, h6, h7, h8, h9, h10]
  cases h11 : (ur == ur')
  · simp [go_sem, h0, h1, h2, h3, h4, h5, h6, h7, h8, h9, h10, h11]
  cases h12 : (os.toList == os'.toList)
  · simp [go_sem, h0, h1, h2, h3, h4, h5, h6, h7, h8, h9, h10, h11, h12]
  cases h13 : (ds.toList == ds'.toList)
  · simp [go_sem, h0, h1, h2, h3, h4, h5, h6, h7, h8, h9, h10, h11, h12, h13]
  simp [go_sem, h0, h1, h2, h3, h4, h5, h6, h7, h8, h9, h10, h11, h12, h13]
/-- Is all that is not a kind's own 0? -/
def ownOk (k ty co re sp dp : Int) (ns : Bool) (sq ak fl wi ur : Int) (os : ByteArray) : Bool :=
  if k = 0 then (ty == 0) && (co == 0) && (re == 0) && (sp == 0) && (dp == 0) && (ns == false) && (sq == 0) && (ak == 0) && (fl == 0) && (wi == 0) && (ur == 0) && (os.toList == (⟨#[]⟩ : ByteArray).toList) else if k = 1 then (sp == 0) && (dp == 0) && (ns == false) && (sq == 0) && (ak == 0) && (fl == 0) && (wi == 0) && (ur == 0) && (os.toList == (⟨#[]⟩ : ByteArray).toList) else if k = 2 then (ty == 0) && (co == 0) && (re == 0) && (sq == 0) && (ak == 0) && (fl == 0) && (wi == 0) && (ur == 0) && (os.toList == (⟨#[]⟩ : ByteArray).toList) else if k = 3 then (ty == 0) && (co == 0) && (re == 0) && (ns == false) else false
/-- May a packet be? -/
def l4Ok (k ty co re sp dp : Int) (ns : Bool) (sq ak fl wi ur : Int) (os ds : ByteArray) : Bool :=
  ownOk k ty co re sp dp ns sq ak fl wi ur os && numsOk ty co sp dp fl wi ur && !(decide (40 < os.size) || (os.size : Int) % 4 != 0 || decide (65515 < fixV k + os.size + ds.size))

theorem AtB.cells14 {W : World} {b : Nat} {x0 x1 x2 x3 x4 x5 x6 x7 x8 x9 x10 x11 x12 x13 : Value} (h : AtB W b #[x0, x1, x2, x3, x4, x5, x6, x7, x8, x9, x10, x11, x12, x13]) : W.cell? ⟨b, 0, none⟩ = some x0 ∧ W.cell? ⟨b, 1, none⟩ = some x1 ∧ W.cell? ⟨b, 2, none⟩ = some x2 ∧ W.cell? ⟨b, 3, none⟩ = some x3 ∧ W.cell? ⟨b, 4, none⟩ = some x4 ∧ W.cell? ⟨b, 5, none⟩ = some x5 ∧ W.cell? ⟨b, 6, none⟩ = some x6 ∧ W.cell? ⟨b, 7, none⟩ = some x7 ∧ W.cell? ⟨b, 8, none⟩ = some x8 ∧ W.cell? ⟨b, 9, none⟩ = some x9 ∧ W.cell? ⟨b, 10, none⟩ = some x10 ∧ W.cell? ⟨b, 11, none⟩ = some x11 ∧ W.cell? ⟨b, 12, none⟩ = some x12 ∧ W.cell? ⟨b, 13, none⟩ = some x13 :=
  ⟨h.2 0, h.2 1, h.2 2, h.2 3, h.2 4, h.2 5, h.2 6, h.2 7, h.2 8, h.2 9, h.2 10, h.2 11, h.2 12, h.2 13⟩
end Go.Proofs.Ytgonckbdkgiddaa
