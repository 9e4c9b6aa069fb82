/- Layer 32: who has an address behind one between. -/
import Derived.Test.YthjhiogbnacmdaaToC
import Derived.Test.YthjhiogbnacmdaaKitT
import Derived.Test.YthjhiogbnacmdaaKitY
namespace Go.Proofs.Ythjhiogbnacmdaa.top
open Go.Sort (grow)
open Go.ChangeShapes Go.WideShapes Go.ChangeAt Go.RowKit kit
set_option maxRecDepth 100000

theorem eq_pl (a b c d : Int) (W : World) : (binOp .eql 52 (.agg #[.int .u32 a, .int .i64 b]) (.agg #[.int .u32 c, .int .i64 d])).run Try.prog W = .ok (.bool (decide (a = c) && decide (b = d))) W := by
  go_simp
  by_cases h1 : a = c <;> by_cases h2 : b = d <;> simp [h1, h2]
theorem run_cmp_any {P : Program} {oi : Oper} {a : Act} {x y : Operand} {tx ty : TypeId} {s j : Array Value} {u : Value} {v : World} {op : BinOp} (ho : oi.op = .binOp op tx x y ty) (hop : op = .neq ∨ op = .eql) (hx : a.eval x = .agg s) (hy : a.eval y = .agg j) (hr : (binOp op tx (.agg s) (.agg j)).run P v = .ok u v) (hgt : P.eqGuardType P.depth tx = false) : (execOp a.eval oi).run P v = .ok (.value u) v := by
  unfold execOp
  rcases hop with rfl | rfl <;> simp [ho, hx, hy, hr, eqGuard, hgt]
/-- Is it this place? -/
def isP (y x : Int × Int) : Bool := decide (y.1 = x.1) && decide (y.2 = x.2)
set_option maxHeartbeats 2000000 in
theorem ix_eq {w : World} {b0 : Nat} {v : Value} {L : List (Int × Int)} (q : Qo w b0 2 v L.length (cellsPl L)) (hn : L.length ≤ 100) (y : Int × Int) : Calls Try.prog 46 #[v, .agg (pl y)] w fun e w' => e = .returned (.int .i64 (idxA (isP y) L)) ∧ Below w.heap.size w w' := by
  obtain ⟨oa, cap, rfl, _, _⟩ := q.shape
  obtain ⟨B0, hB0⟩ : ∃ B0, w.heap.size = B0 := ⟨_, rfl⟩
  have HB0 := Lib.hid hB0
  obtain ⟨ri, hri⟩ : ∃ ri, idxA (isP y) L = ri := ⟨_, rfl⟩
  rw [hri]
  have HRI := Lib.hid hri
  clear hri
  have Y1 := Blk.new w 52 (pl y)
  have q1 := q.alloc (.cells (pl y) 52)
  have bel1 := (Below.refl w.heap.size w).alloc (Nat.le_refl _) (.cells (pl y) 52)
  go_enter Try.func46, Try.ntmps46
  go_upto_region 1 with fail
  obtain ⟨w1, hw1⟩ : ∃ w1, w.alloc (.cells (pl y) 52) = w1 := ⟨_, rfl⟩
  rw [hw1] at Y1 q1 bel1
  try rw [hw1]
  clear hw1
  rw [hB0] at bel1 Y1
  go_wp2_with fail
  go_loopw [8] (fun s8 wr => ∃ i : Nat, s8 = .int .i64 (i : Nat) ∧ i ≤ L.length ∧ (∀ (j : Nat) x, j < i → L[j]? = some x → isP y x = false) ∧ Qo wr b0 2 (.slice oa L.length cap) L.length (cellsPl L) ∧ Below B0 w wr ∧ Blk wr B0 52 (pl y)) (fun s8 _ => L.length - (intOf s8).toNat)
  case atStart => exact ⟨0, rfl, Nat.zero_le _, fun j x hj => absurd hj (Nat.not_lt_zero j), q1, bel1, Y1⟩
  case round =>
    clear q1 Y1 bel1 q
    obtain ⟨i, rfl, hi, hno, q, bel, Y⟩ := hrel
    by_cases hlt : i < L.length
    · have hii : (i : Int) < (L.length : Int) := by omega
      have hi0 : (0 : Int) ≤ (i : Int) := by omega
      obtain ⟨x, hx⟩ : ∃ x, L[i]? = some x := ⟨_, List.getElem?_eq_getElem hlt⟩
      obtain ⟨hh, off, rfl, _, _, X⟩ := row_at q rfl hx
      have HX := Lib.hid (And.intro hx hno)
      clear hx hno
      obtain ⟨bb, hbb⟩ : ∃ bb, isP y x = bb := ⟨_, rfl⟩
      have HBB := Lib.hid hbb
      have heq : ∀ W, (binOp .eql 52 (.agg (pl y)) (.agg (pl x))).run Try.prog W = .ok (.bool bb) W := fun W => by rw [← hbb]; exact eq_pl y.1 y.2 x.1 x.2 W
      clear hbb
      go_upto_region 4 with fail
      refine wp_region_noPanic ?_
      have HS : Cel wr.drew B0 0 (pl y) ∧ Cel wr.drew hh (off + i * 2) (pl x) := ⟨(Cel.of_blk Y).drew, X.drew⟩
      refine wp_region_held_drew (S := fun v => Cel v B0 0 (pl y) ∧ Cel v hh (off + i * 2) (pl x)) (by kernel_rfl) HS (fun _ => ?_)
      refine wpAnyH_abs _ (fun ac hac => ?_)
      have hsz : ac.tmps.size = 19 := by rw [hac]; rfl
      have e0' : ac.eval (.tmp 0) = .slice (some ⟨hh, off, none⟩) L.length cap := by rw [hac]; rfl
      have e3' : ac.eval (.tmp 3) = .pointer (some ⟨B0, 0, none⟩) := by rw [hac]; rfl
      have e5' : ac.eval (.tmp 5) = .int .i64 (i : Nat) := by rw [hac]; rfl
      have HB := Lib.hid hac
      clear hac
      have EV := And.intro @Act.eval_put_ne (And.intro @Act.eval_put_same (And.intro @Act.size_put (And.intro hsz (And.intro e0' (And.intro e3' e5')))))
      refine take_run (i := 0) (u := .agg (pl y)) rfl (by kernel_rfl) (by kernel_rfl) (by kernel_rfl) rfl rfl (fun _ _ _ h => h) HS (fun v hv => run_load_at rfl (h := B0) (off := 0) (by simp [EV]) _ Try.underlying52 rfl (szPl y) hv.1) ?_
      refine take_run (i := 1) (u := .slice (some ⟨hh, off, none⟩) L.length cap) rfl (by kernel_rfl) (by kernel_rfl) (by kernel_rfl) rfl rfl (fun _ _ _ h => h) HS (fun v hv => run_move rfl (by simp [EV]) v) ?_
      refine take_run (i := 2) (u := .int .i64 (i : Nat)) rfl (by kernel_rfl) (by kernel_rfl) (by kernel_rfl) rfl rfl (fun _ _ _ h => h) HS (fun v hv => run_move rfl (by simp [EV]) v) ?_
      refine take_run (i := 3) (u := .pointer (some ⟨hh, off + i * 2, none⟩)) rfl (by kernel_rfl) (by kernel_rfl) (by kernel_rfl) rfl rfl (fun _ _ _ h => h) HS (fun v hv => run_index (s := .slice (some ⟨hh, off, none⟩) L.length cap) (j := .int .i64 (i : Nat)) rfl (by simp [EV]) (by simp [EV]) (by go_simp)) ?_
      refine take_run (i := 4) (u := .agg (pl x)) rfl (by kernel_rfl) (by kernel_rfl) (by kernel_rfl) rfl rfl (fun _ _ _ h => h) HS (fun v hv => run_load_at rfl (h := hh) (off := off + i * 2) (by simp [EV]) _ Try.underlying52 rfl (szPl x) hv.2) ?_
      refine take_run (i := 5) (u := .bool bb) rfl (by kernel_rfl) (by kernel_rfl) (by kernel_rfl) rfl rfl (fun _ _ _ h => h) HS (fun v hv => run_cmp_any (s := pl y) (j := pl x) rfl (.inr rfl) (by simp [EV]) (by simp [EV]) (heq v) (by kernel_rfl)) ?_
      refine wpAnyH_done (by kernel_rfl) ?_ _
      refine NoPanic.normal ?_
      rw [HB.out]
      simp only [Act.put, List.setIfInBounds_toArray, List.set_cons_zero, List.set_cons_succ]
      have HR := Lib.hid (And.intro q.drew (And.intro bel.drew Y.drew))
      clear HB HS EV e0' e3' e5' hsz q bel Y X heq
      cases bb
      · go_wp2_with fail
        go_roundw
        case rel => exact ⟨i + 1, by go_num, by omega, fun j z hj hz => by
          by_cases e : j = i
          · subst e
            have : z = x := by have := HX.out.1; rw [hz] at this; exact Option.some.inj this
            rw [this]; exact HBB.out
          · exact HX.out.2 j z (by omega) hz, HR.out.1, HR.out.2.1, HR.out.2.2⟩
        case measure => simp [intOf]; omega
      · have HY := Lib.hid (idxA_hit (p := isP y) HX.out.1 HBB.out HX.out.2)
        go_wp2_with fail
        go_ret
        exact ⟨ret_int (HY.out.symm.trans HRI.out), by first | exact HR.out.2.1 | (rw [HB0.out]; exact HR.out.2.1)⟩
    · obtain rfl : i = L.length := by omega
      have HY := Lib.hid (idxA_never (p := isP y) hno)
      clear q hno Y
      go_wp2_with fail
      go_ret
      exact ⟨ret_int (HY.out.symm.trans HRI.out), by first | exact bel | (rw [HB0.out]; exact bel)⟩
end Go.Proofs.Ythjhiogbnacmdaa.top
