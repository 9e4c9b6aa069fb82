/- Layer 4: arguments opened, of answers and requests. -/
import Derived.Test.YtlpklnjnfeodaaaParO
import Derived.Test.YtlpklnjnfeodaaaAsks
import Derived.ChangeMaps5
namespace Go.Proofs.Ytlpklnjnfeodaaa.par
open Go.ChangeShapes Go.WideShapes Go.ChangeAt Go.RowKit kit oct
set_option maxRecDepth 100000

theorem answers_open {H : Type} {enc : TypeId × Value → H} {W : World} {base : Nat} {v0 v1 v2 : Value} {d0 d1 d2 : DataW H} {p0 p1 p2 : List MemPlace}
    (o0 : Value.okWide Try.prog W .any base 23 v0) (o1 : Value.okWide Try.prog W .any base 37 v1) (o2 : Value.okWide Try.prog W .any base 9 v2) (h0 : DataW.Trod enc Try.prog W 0 (fun _ => true) true 23 v0 d0 p0) (h1 : DataW.Trod enc Try.prog W 0 (fun _ => true) true 37 v1 d1 p1) (h2 : DataW.Trod enc Try.prog W 0 (fun _ => true) true 9 v2 d2 p2) :
    Calls Try.prog 6 #[v0, v1, v2] W fun e w' => e = .returned (.bool true) ∧ Below W.heap.size W w' := by
  obtain ⟨t, s, rfl, hs, _, _⟩ := open_param o0 h0
  obtain ⟨id, rfl, hid⟩ := open_u32 o1 h1
  obtain ⟨y, rfl, _, _, hy⟩ := Go.ChangeMaps.open_string Try.underlying9 o2 h2
  exact answers_law t s id y W hs hy hid

theorem open_addr {H : Type} {enc : TypeId × Value → H} {W : World} {base : Nat} {v0 : Value} {d0 : DataW H} {p0 : List MemPlace}
    (o0 : Value.okWide Try.prog W .any base 38 v0) (h0 : DataW.Trod enc Try.prog W 0 (fun _ => true) true 38 v0 d0 p0) : ∃ n : Nat, v0 = .int .u32 n ∧ n ≤ 4294967295 := by
  obtain ⟨n, rfl, _, _, wn⟩ := open_int Try.underlying38 o0 h0
  obtain ⟨h1, h2⟩ := bounds_u32 wn
  exact ⟨n.toNat, by congr 1; omega, by omega⟩

theorem asks_open {H : Type} {enc : TypeId × Value → H} {W : World} {base : Nat} {v0 v1 v2 : Value} {d0 d1 d2 : DataW H} {p0 p1 p2 : List MemPlace}
    (o0 : Value.okWide Try.prog W .any base 23 v0) (o1 : Value.okWide Try.prog W .any base 37 v1) (o2 : Value.okWide Try.prog W .any base 38 v2) (h0 : DataW.Trod enc Try.prog W 0 (fun _ => true) true 23 v0 d0 p0) (h1 : DataW.Trod enc Try.prog W 0 (fun _ => true) true 37 v1 d1 p1) (h2 : DataW.Trod enc Try.prog W 0 (fun _ => true) true 38 v2 d2 p2) :
    Calls Try.prog 5 #[v0, v1, v2] W fun e w' => e = .returned (.bool true) ∧ Below W.heap.size W w' := by
  obtain ⟨t, s, rfl, hs, _, _⟩ := open_param o0 h0
  obtain ⟨id, rfl, hid⟩ := open_u32 o1 h1
  obtain ⟨a, rfl, ha⟩ := open_addr o2 h2
  exact asks_law t s id a W hs hid ha
end Go.Proofs.Ytlpklnjnfeodaaa.par
