/- Layer 36: whatever bytes come; the statement walked. -/
import Derived.Test.YtdocphkpeonldaaTrE
namespace Go.Proofs.Ytdocphkpeonldaa.tra
open Go.Sort (grow)
open Go.ChangeShapes Go.WideShapes Go.ChangeAt Go.RowKit kit oct bld
set_option maxRecDepth 100000

def rcx : Rc := ⟨13, 0, 4294967291, 0, 0, 0, 0, 0, ⟨#[120]⟩⟩
theorem pg_x : pg 2500 (cat36 [rcx]) = some [rcx] := by kernel_rfl
theorem rcx_ok : ∀ r, r ∈ [rcx] → r.Ok := by
  intro r hr
  obtain rfl : r = rcx := by simpa using hr
  exact ⟨by decide, by decide, by decide, by decide, by decide, by decide, by decide, by decide, by decide⟩
def CX : Array Value := #[.int .i64 13, .int .i64 0, .int .i64 (-5), .int .i64 0, .int .i64 0, .int .i64 0, .int .i64 0, .int .i64 0, .string ⟨#[120]⟩]
theorem rcx_cells : rcx.cells = CX := by
  unfold Rc.cells rcx CX
  simp [sg]
theorem cat_x : (cat36 [rcx]).size ≤ 1860 := by
  have := bytes_size rcx
  have h : rcx.s.size = 1 := rfl
  show (rcx.bytes ++ ByteArray.empty).size ≤ 1860
  rw [ByteArray.size_append, this, h]
  decide
theorem row_shape {w : World} {b0 : Nat} {v : Value} {acts : List Rc} (h : RowR w b0 v acts) : ∃ oa g cap, v = .slice oa acts.length cap ∧ acts.length ≤ cap ∧ cap ≤ maxLen ∧ (0 < acts.length → oa = some ⟨g, 0, none⟩) ∧ (0 < acts.length → g < w.heap.size) ∧ ∀ k, k < acts.length → Cel w g (k * 9) (acts.getD k rc0).cells := by
  have h2 := h.2
  rcases h2 with ⟨rfl, hz⟩ | ⟨g, cap, cur, rfl, hb, hg, hn, hm, _⟩
  · exact ⟨none, 0, 0, by rw [hz], by omega, by unfold maxLen; omega, fun q => by omega, fun q => by omega, fun k hk => by omega⟩
  · exact ⟨_, g, cap, rfl, hn, hm, fun _ => rfl, fun _ => own_lt h g rfl, fun k hk => cel_r (Cel.of_owns h) k hk⟩
set_option maxHeartbeats 1000000 in
theorem awake36_any (w : World) : Calls Try.prog 44 #[] w fun e w' => e = .returned (.bool true) ∧ Below w.heap.size w w' := by
  have B0 := Blk.new w 63 CX
  have bel0 := (Below.refl w.heap.size w).alloc (Nat.le_refl _) (.cells CX 63)
  have hput := put36_any (some ⟨w.heap.size, 0, none⟩) w.heap.size 1 [rcx] (w.alloc (.cells CX 63)) (by decide) (by decide) (by unfold maxLen; omega) (fun _ => rfl) (fun _ => B0.lt) (fun k hk => by
    have hk : k < 1 := hk
    obtain rfl : k = 0 := by omega
    show Cel _ w.heap.size (0 * 9) rcx.cells
    rw [rcx_cells]
    exact Cel.of_blk B0) rcx_ok
  have hget := fun W => get36_any (cat36 [rcx]) W cat_x
  generalize hS : cat36 [rcx] = S1 at *
  have hpx := pg_x
  rw [hS] at hpx
  have HPX := Lib.hid hpx
  clear hS hpx
  have hput' : Calls Try.prog 42 #[.slice (some ⟨w.heap.size, 0, none⟩) 1 1] (w.alloc (.cells #[.int .i64 13, .int .i64 0, .int .i64 (-5), .int .i64 0, .int .i64 0, .int .i64 0, .int .i64 0, .int .i64 0, .string ⟨#[120]⟩] 63)) fun e w' => e = .returned (.string S1) ∧ Below (w.alloc (.cells CX 63)).heap.size (w.alloc (.cells CX 63)) w' := hput
  clear hput
  go_enter Try.func44, Try.ntmps44
  go_wp2_with fail
  refine hput'.mono ?_
  rintro e w1 ⟨rfl, hb1⟩
  have bel1 := bel0.trans (hb1.mono bel0.size)
  clear hput' bel0 hb1 B0
  go_wp2_with fail
  refine (hget _).mono ?_
  rintro e w2 ⟨hc, hb2⟩
  have bel2 := bel1.trans (hb2.mono bel1.size)
  clear hget bel1 hb2
  rcases hc with ⟨v, acts, hpg, rfl, own, _⟩ | ⟨hpg, _⟩
  · rw [HPX.out] at hpg
    obtain rfl : [rcx] = acts := Option.some.inj hpg
    obtain ⟨oa, g, cap, rfl, h1, h2, h3, h4, h5⟩ := row_shape own
    obtain rfl := h3 (by decide)
    have C0 : Cel w2 g (0 * 9) rcx.cells := h5 0 (by decide)
    rw [rcx_cells, Nat.zero_mul] at C0
    have c2 : w2.cell? ⟨g, 2, none⟩ = some (.int .i64 (-5)) := C0.cell0 2 (u := .int .i64 (-5)) rfl
    have c8 : w2.cell? ⟨g, 8, none⟩ = some (.string ⟨#[120]⟩) := C0.cell0 8 (u := .string ⟨#[120]⟩) rfl
    clear own h3 h4 h5 C0 hpg HPX
    rw [show [rcx].length = 1 from rfl]
    go_wp2_with fail
    go_ret
    exact ⟨rfl, bel2⟩
  · rw [HPX.out] at hpg
    cases hpg
end Go.Proofs.Ytdocphkpeonldaa.tra
