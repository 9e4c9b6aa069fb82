/- What is done with a cookie (clash.Of) is what the document's table says, for every cookie and every two tags. No further condition. -/
import Derived.Test.YtoaocppdbgphgaaClash
namespace Go.Proofs.Ytoaocppdbgphgaa.clash
open Go.ChangeShapes Go.WideShapes Go.ChangeAt Go.RowKit kit

set_option maxRecDepth 100000 in
theorem law_open {H : Type} {enc : TypeId × Value → H} {W : World} {base : Nat} {v0 v1 v2 : Value} {d0 d1 d2 : DataW H} {p0 p1 p2 : List MemPlace}
    (o0 : Value.okWide Try.prog W .any base 53 v0) (o1 : Value.okWide Try.prog W .any base 32 v1) (o2 : Value.okWide Try.prog W .any base 32 v2)
    (h0 : DataW.Trod enc Try.prog W 0 (fun _ => true) true 53 v0 d0 p0) (h1 : DataW.Trod enc Try.prog W 0 (fun _ => true) true 32 v1 d1 p1) (h2 : DataW.Trod enc Try.prog W 0 (fun _ => true) true 32 v2 d2 p2) :
    Calls Try.prog 8 #[v0, v1, v2] W fun e w' => e = .returned (.bool true) ∧ Below W.heap.size W w' := by
  obtain ⟨l, rfl, hl⟩ := open_struct (enc := enc) 4 (sh := [.int .i64, .int .u32, .int .u32, .int .u32, .int .u32, .int .u32, .int .u32, .int .i64, .int .i64, .int .u32, .int .i64, .int .i64, .int .u32, .int .u32, .str, .str]) Try.underlying53 (by kernel_rfl) (by kernel_rfl) o0 h0
  obtain ⟨made, t, rfl, _, hl⟩ := FlatOK.int _ _ _ _ _ _ hl
  obtain ⟨m0, t, rfl, _, hl⟩ := FlatOK.int _ _ _ _ _ _ hl
  obtain ⟨y0, t, rfl, _, hl⟩ := FlatOK.int _ _ _ _ _ _ hl
  obtain ⟨mt, t, rfl, _, hl⟩ := FlatOK.int _ _ _ _ _ _ hl
  obtain ⟨yt, t, rfl, _, hl⟩ := FlatOK.int _ _ _ _ _ _ hl
  obtain ⟨pe, t, rfl, _, hl⟩ := FlatOK.int _ _ _ _ _ _ hl
  obtain ⟨lo, t, rfl, _, hl⟩ := FlatOK.int _ _ _ _ _ _ hl
  obtain ⟨pp, t, rfl, _, hl⟩ := FlatOK.int _ _ _ _ _ _ hl
  obtain ⟨mp, t, rfl, _, hl⟩ := FlatOK.int _ _ _ _ _ _ hl
  obtain ⟨rw, t, rfl, _, hl⟩ := FlatOK.int _ _ _ _ _ _ hl
  obtain ⟨ou, t, rfl, _, hl⟩ := FlatOK.int _ _ _ _ _ _ hl
  obtain ⟨inn, t, rfl, _, hl⟩ := FlatOK.int _ _ _ _ _ _ hl
  obtain ⟨tm, t, rfl, _, hl⟩ := FlatOK.int _ _ _ _ _ _ hl
  obtain ⟨ty, t, rfl, _, hl⟩ := FlatOK.int _ _ _ _ _ _ hl
  obtain ⟨r1, t, rfl, _, hl⟩ := FlatOK.str _ _ _ _ _ _ hl
  obtain ⟨r2, t, rfl, _, hl⟩ := FlatOK.str _ _ _ _ _ _ hl
  obtain rfl := FlatOK.nil _ _ _ _ _ _ hl
  obtain ⟨c, rfl, _, _, wc⟩ := open_int Try.underlying32 o1 h1
  obtain ⟨d, rfl, _, _, wd⟩ := open_int Try.underlying32 o2 h2
  exact law_any _ _ _ _ _ _ _ _ _ _ _ _ _ _ _ _ _ _ _
end Go.Proofs.Ytoaocppdbgphgaa.clash
