/- Layer 31: packets under way as a list: all of them; the statement's own example. -/
import Derived.Test.YtdocphkpeonldaaNplD
namespace Go.Proofs.Ytdocphkpeonldaa.npl
open Go.Sort (grow)
open Go.ChangeShapes Go.WideShapes Go.ChangeAt Go.RowKit kit storm byt
set_option maxRecDepth 100000

theorem add0 (h j : Nat) : (⟨h, 0, none⟩ : Addr).add j = ⟨h, j, none⟩ := by
  unfold Addr.add
  split <;> simp_all
set_option maxHeartbeats 2000000 in
theorem clone_row (h m cap : Nat) (L : List It) (w : World) (hm : L.length = m) (hm0 : 0 < m) (hm3 : m ≤ 300) (C : Cel w h 0 (cellsI L).toArray) : Calls Try.prog 115 #[.slice (some ⟨h, 0, none⟩) m cap] w fun e w' => ∃ k c, e = .returned (.slice (some ⟨k, 0, none⟩) m c) ∧ Cel w' k 0 (cellsI L).toArray ∧ Below w.heap.size w w' := by
  obtain ⟨i0, hi, hz0, hz1, hz2⟩ := info_parts infoI
  have hq : ∀ w : World, (binOp .eql 56 (.slice (some ⟨h, 0, none⟩) m cap) (.slice none 0 0)).run Try.prog w = .ok (.bool false) w := fun w => by kernel_rfl
  have X1 := Blk.new w 70 #[]
  have C1 := C.alloc (.cells #[] 70)
  have bel1 := (Below.refl w.heap.size w).alloc (Nat.le_refl _) (.cells #[] 70)
  have HO := Lib.hid (own_none (w := w.alloc (.cells #[] 70)) (b0 := w.heap.size) (size := 6) (cap := 0) X1 (Nat.le_refl _) (by unfold maxLen; omega) rfl)
  have HN := Lib.hid (show ∀ j u, (cellsI L)[j]? = some u → (w.alloc (.cells #[] 70)).cell? ((⟨h, 0, none⟩ : Addr).add j) = some u from fun j u hu => by rw [add0]; exact C1.cell0 j (by simpa using hu))
  have HS := Lib.hid (show (w.alloc (.cells #[] 70)).heap.size = w.heap.size + 1 by simp)
  have hrl := cellsI_one L
  have hll : (cellsI L).length = m * 6 := by rw [cellsI_len, hm]
  have HB := Lib.hid bel1
  go_enter Try.func115, Try.ntmps115
  clear X1 bel1 C1 C
  go_wp2_with (at_builtin; refine wpList_append_lies _ rfl _ _ 56 rfl w.heap.size 70 i0 (.agg (ir it0)) 6 48 Try.underlying56 hi hz0 hz1 hz2 rfl (by decide) (.slice (some ⟨w.heap.size, 0, none⟩) 0 0) 0 [] rfl HO.out ⟨h, 0, none⟩ m cap (cellsI L) rfl hll HN.out hrl hm0 (by unfold maxLen; omega) (by omega) (by rw [HS.out]; omega) (w.heap.size + 1) HS.out ?_; intro g8 c8 w8 own8 grow8 hat8 hlt8)
  have K8 := Cel.of_owns own8
  have bel8 := HB.out.grown grow8 (by rw [HS.out]; omega) (own_ge HO.out)
  go_wp2
  go_ret
  exact ⟨g8, c8, by simp, K8.congr (by simp), bel8⟩
theorem clone_zero (oa : Option Addr) (cap : Nat) (w : World) (hn : oa = none → cap = 0) : Calls Try.prog 115 #[.slice oa 0 cap] w fun e w' => ∃ k c, e = .returned (.slice k 0 c) ∧ Below w.heap.size w w' := by
  cases oa with
  | none =>
    obtain rfl := hn rfl
    have hq : ∀ w : World, (binOp .eql 56 (.slice none 0 0) (.slice none 0 0)).run Try.prog w = .ok (.bool true) w := fun w => by kernel_rfl
    go_enter Try.func115, Try.ntmps115
    go_wp2_with fail
    go_ret
    first
      | exact ⟨_, _, rfl, Below.refl _ _⟩
      | exact Below.refl _ _
      | exact ⟨⟨_, _, rfl⟩, Below.refl _ _⟩
  | some h =>
    have hq : ∀ w : World, (binOp .eql 56 (.slice (some h) 0 cap) (.slice none 0 0)).run Try.prog w = .ok (.bool false) w := fun w => by kernel_rfl
    go_enter Try.func115, Try.ntmps115
    go_wp2_with fail
    go_ret
    first
      | exact ⟨_, _, rfl, (Below.refl _ _).alloc (Nat.le_refl _) _⟩
      | exact (Below.refl _ _).alloc (Nat.le_refl _) _
      | exact ⟨⟨_, _, rfl⟩, (Below.refl _ _).alloc (Nat.le_refl _) _⟩
theorem all_ns {b0 g : Nat} {l : Value} {L : List It} {w : World} (n : NS b0 g l L w) (hL : L.length ≤ 300) : Calls Try.prog 60 #[.pointer (some ⟨g, 0, none⟩)] w fun e w' => ∃ oa c, e = .returned (.slice oa L.length c) ∧ (0 < L.length → ∃ k, oa = some ⟨k, 0, none⟩ ∧ Cel w' k 0 (cellsI L).toArray) ∧ Below w.heap.size w w' := by
  obtain ⟨oa, cap, hl, hlc, hcm, ho, hno⟩ := own_shape n.own
  have c0 : w.cell? ⟨g, 0, none⟩ = some l := n.B.cell 0
  rw [hl] at c0
  rcases Nat.eq_zero_or_pos L.length with h0 | h0
  · rw [h0] at c0 ⊢
    have hC := clone_zero oa cap w (fun e => by have := (hno e).1; rw [hl] at this; simp at this; omega)
    clear n hl hlc ho hno
    go_enter Try.func60, Try.ntmps60
    go_wp2_with fail
    refine hC.mono ?_
    rintro e w1 ⟨k, c, rfl, hb⟩
    go_wp2_with fail
    go_ret
    exact ⟨k, c, rfl, fun h => absurd h (by omega), hb⟩
  · obtain ⟨h, rfl⟩ := ho h0
    have own := n.own
    rw [hl] at own
    have C := own_cel own rfl
    obtain ⟨m, hm⟩ : ∃ m, L.length = m := ⟨_, rfl⟩
    have hC := clone_row h m cap L w hm (by omega) (by omega) C
    rw [hm] at c0 ⊢
    clear n hl hlc ho hno own C h0
    go_enter Try.func60, Try.ntmps60
    go_wp2_with fail
    refine hC.mono ?_
    rintro e w1 ⟨k, c, rfl, K, hb⟩
    go_wp2_with fail
    go_ret
    exact ⟨_, c, rfl, fun _ => ⟨k, rfl, K⟩, hb⟩
theorem new_ns (w : World) : Calls Try.prog 53 #[] w fun e w' => e = .returned (.pointer (some ⟨w.heap.size, 0, none⟩)) ∧ w' = w.alloc (.cells #[.slice none 0 0, .int .i64 0] 194) := by
  go_enter Try.func53, Try.ntmps53
  go_wp2
  go_ret
  exact ⟨rfl, rfl⟩
theorem NS.new (w : World) : NS w.heap.size w.heap.size (.slice none 0 0) [] (w.alloc (.cells #[.slice none 0 0, .int .i64 0] 194)) := ⟨Blk.new w _ _, World.ownsRow_nil _ _ _ _, (fun k hk => by cases hk), Nat.le_refl _⟩
def it1 : It := ⟨0, 0, 1, 0, ⟨#[]⟩, false⟩
set_option maxHeartbeats 2000000 in
theorem awake31 (w : World) : Calls Try.prog 54 #[] w fun e w' => e = .returned (.bool true) ∧ Below w.heap.size w w' := by
  have n1 := NS.new w
  have bel1 := (Below.refl w.heap.size w).alloc (Nat.le_refl _) (.cells #[.slice none 0 0, .int .i64 0] 194)
  go_enter Try.func54, Try.ntmps54
  go_wp2_with fail
  refine (new_ns _).mono ?_
  rintro e w1 ⟨rfl, hw⟩
  rw [← hw] at n1 bel1
  clear hw
  go_wp2_with fail
  refine (put_ns n1 (by decide) it1).mono ?_
  rintro e w2 ⟨rfl, ⟨l', n2, _⟩, _, bl2⟩
  have bel2 := bel1.trans bl2
  clear n1 bel1 bl2
  go_wp2_with fail
  refine (take_ns n2 0 (by decide)).mono ?_
  rintro e w3 ⟨rfl, ⟨l3, n3, _⟩, _, bl3⟩
  have bel3 := bel2.trans bl3
  clear n2 bel2 bl3
  rw [show ir ((([] : List It) ++ [it1]).getD 0 it0) = #[.int .i64 0, .int .i64 0, .int .u32 1, .int .u32 0, .string ⟨#[]⟩, .bool false] from rfl]
  have n3 : NS w.heap.size w.heap.size l3 [] w3 := n3
  go_upto_region 4 with fail
  have X4 : Blk (w3.alloc (.cells #[.int .i64 0, .int .i64 0, .int .u32 1, .int .u32 0, .string ⟨#[]⟩, .bool false] 70)) w3.heap.size 70 #[.int .i64 0, .int .i64 0, .int .u32 1, .int .u32 0, .string ⟨#[]⟩, .bool false] := Blk.new w3 _ _
  have n4 := n3.below ((Below.refl w3.heap.size w3).alloc (Nat.le_refl _) (.cells #[.int .i64 0, .int .i64 0, .int .u32 1, .int .u32 0, .string ⟨#[]⟩, .bool false] 70)) rfl
  have bel4 := bel3.alloc bel3.size (.cells #[.int .i64 0, .int .i64 0, .int .u32 1, .int .u32 0, .string ⟨#[]⟩, .bool false] 70)
  clear n3 bel3
  generalize w3.alloc (.cells #[.int .i64 0, .int .i64 0, .int .u32 1, .int .u32 0, .string ⟨#[]⟩, .bool false] 70) = w4 at *
  have x2 : w4.cell? ⟨w3.heap.size, 2, none⟩ = some (.int .u32 1) := X4.cell 2
  go_wp2_with fail
  refine (len_ns n4).mono ?_
  rintro e w5 ⟨rfl, rfl⟩
  go_wp2_with fail
  go_ret
  exact ⟨rfl, bel4⟩
end Go.Proofs.Ytdocphkpeonldaa.npl
