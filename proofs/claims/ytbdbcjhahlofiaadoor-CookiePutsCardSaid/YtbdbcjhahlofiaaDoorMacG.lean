/- Layer 9: the arguments of the statement on a changed byte, opened. -/
import Derived.Test.YtbdbcjhahlofiaaDoorMacF
namespace Go.Proofs.YtbdbcjhahlofiaaDoor.mac
open Go.ChangeShapes Go.WideShapes Go.ChangeAt Go.RowKit kit byt dig
set_option maxRecDepth 100000

theorem two_bytes {H : Type} {enc : TypeId × Value → H} {W : World} {base : Nat} {v : Value} {d : DataW H} {p : List MemPlace}
    (o : Value.okWide Tryd.prog W .any base 37 v) (h : DataW.Trod enc Tryd.prog W 0 (fun _ => true) true 37 v d p) : ∃ a b : UInt8, v = .agg #[.int .u8 (a.toNat : Int), .int .u8 (b.toNat : Int)] := by
  obtain ⟨l, rfl, F0⟩ := open_array 3 (sh := [.int .u8, .int .u8]) Tryd.underlying37 (by kernel_rfl) (by kernel_rfl) o h
  obtain ⟨a, l0, rfl, wa, F1⟩ := F0.int
  obtain ⟨b, l1, rfl, wb, F2⟩ := F1.int
  obtain rfl := F2.nil
  obtain ⟨a0, a1⟩ := bounds_u8 wa
  obtain ⟨b0, b1⟩ := bounds_u8 wb
  have bnd : ∀ z : Int, 0 ≤ z → z ≤ 255 → ∃ c : UInt8, z = (c.toNat : Int) := by
    intro z h0 h1
    refine ⟨UInt8.ofNat z.toNat, ?_⟩
    rw [UInt8.toNat_ofNat_of_lt' (by show z.toNat < 256; omega)]
    omega
  obtain ⟨a', rfl⟩ := bnd a a0 a1
  obtain ⟨b', rfl⟩ := bnd b b0 b1
  exact ⟨a', b', rfl⟩
end Go.Proofs.YtbdbcjhahlofiaaDoor.mac
