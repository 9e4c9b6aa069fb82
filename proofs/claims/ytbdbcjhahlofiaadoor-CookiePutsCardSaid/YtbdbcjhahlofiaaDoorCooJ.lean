/- Layer 10: cookies put and read, whether they may be or not; structs that are the same. -/
import Derived.Test.YtbdbcjhahlofiaaDoorCooG
import Derived.Test.YtbdbcjhahlofiaaDoorKitF
namespace Go.Proofs.YtbdbcjhahlofiaaDoor.coo
open Go.Sort (grow)
open Go.ChangeShapes Go.WideShapes Go.ChangeAt Go.RowKit kit oct
open dig (Starts Added)
open mac (macS macS_size mac_any refmac_any is_any firsts firsts_size slice_first)
set_option maxRecDepth 100000

theorem eql_self (c : Ck) (w : World) : (binOp .eql 25 (.agg c.cells) (.agg c.cells)).run Tryd.prog w = .ok (.bool true) w := by
  unfold Ck.cells
  simp [go_sem]
theorem put_all (key : ByteArray) (c : Ck) (g : c.wf) (w : World) (S0 : Starts w) (A : Added w) (hk : key.size ≤ 1000000) : Calls Tryd.prog 8 #[.string key, .agg c.cells] w fun e w' => e = .returned (.string (putS key c)) ∧ Below w.heap.size w w' := by
  unfold putS
  by_cases h : c.may
  · rw [if_pos h]; exact put_yes key c h g w S0 A hk
  · rw [if_neg h]; exact put_no key c h w
theorem rput_all (key : ByteArray) (c : Ck) (g : c.wf) (w : World) (hk : key.size ≤ 1000000) : Calls Tryd.prog 10 #[.string key, .agg c.cells] w fun e w' => e = .returned (.string (putS key c)) ∧ Below w.heap.size w w' := by
  unfold putS
  by_cases h : c.may
  · rw [if_pos h]; exact rput_yes key c h g w hk
  · rw [if_neg h]; exact rput_no key c h w
theorem bytes_all (c : Ck) (g : c.wf) (w : World) : Calls Tryd.prog 11 #[.agg c.cells] w fun e w' => e = .returned (.string c.bytesS) ∧ Below w.heap.size w w' := by
  unfold Ck.bytesS
  by_cases h : c.may
  · rw [if_pos h]; exact bytes_yes c h g w
  · rw [if_neg h]; exact bytes_no c h w
theorem rbytes_all (c : Ck) (g : c.wf) (w : World) : Calls Tryd.prog 12 #[.agg c.cells] w fun e w' => e = .returned (.string c.bytesS) ∧ Below w.heap.size w w' := by
  unfold Ck.bytesS
  by_cases h : c.may
  · rw [if_pos h]; exact rbytes_yes c h g w
  · rw [if_neg h]; exact rbytes_no c h w
theorem wf_rnd {made mine yours myTsn yourTsn peer loc peerPort myPort rwnd out inn tieMine tieYours : Int} {X Y X' Y' : ByteArray} (h : (⟨made, mine, yours, myTsn, yourTsn, peer, loc, peerPort, myPort, rwnd, out, inn, tieMine, tieYours, X, Y⟩ : Ck).wf) (hx : X'.size ≤ maxLen) (hy : Y'.size ≤ maxLen) : (⟨made, mine, yours, myTsn, yourTsn, peer, loc, peerPort, myPort, rwnd, out, inn, tieMine, tieYours, X', Y'⟩ : Ck).wf :=
  ⟨h.made0, h.made1, h.mine, h.yours, h.myTsn, h.yourTsn, h.peer, h.loc, h.rwnd, h.tieMine, h.tieYours, h.peerPort, h.myPort, h.out, h.inn, hx, hy⟩
/-- What the statement makes of a cookie. -/
def fix (c : Ck) : Ck := if 3 < c.X.size then { c with X := rnd c.X, Y := rnd c.Y } else c
theorem putS_size (key : ByteArray) (c : Ck) : (putS key c).size ≤ 104 := by
  unfold putS
  by_cases h : c.may
  · rw [if_pos h, ByteArray.size_append, macS_size, bytes_size h]; omega
  · rw [if_neg h]; show 0 ≤ 104; omega
end Go.Proofs.YtbdbcjhahlofiaaDoor.coo
