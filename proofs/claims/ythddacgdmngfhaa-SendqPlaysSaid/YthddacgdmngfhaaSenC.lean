/- Layer 20: one message put. -/
import Derived.Test.YthddacgdmngfhaaSenB
import Derived.Test.YthddacgdmngfhaaFraD
namespace Go.Proofs.Ythddacgdmngfhaa.sen
open Go.Sort (grow)
open Go.ChangeShapes Go.WideShapes Go.ChangeAt Go.RowKit kit fra
set_option maxRecDepth 100000

theorem add_eq (h j : Nat) : (⟨h, 0, none⟩ : Addr).add j = ⟨h, j, none⟩ := by
  unfold Addr.add
  split <;> simp_all
theorem streams_of (g : Nat) (a : Addr) (cap : Nat) (w : World) (c0 : w.cell? ⟨g, 0, none⟩ = some (.slice (some a) 1 cap)) : Calls Try.prog 24 #[.pointer (some ⟨g, 0, none⟩)] w fun e w' => e = .returned (.int .i64 1) ∧ w' = w := by
  go_enter Try.func24, Try.ntmps24
  go_wp2
  go_ret
  exact ⟨rfl, rfl⟩
theorem split_one (p : Int) (y : UInt8) (w : World) : Calls Try.prog 21 #[.agg (ms 0 p false 0 ⟨#[y]⟩), .int .i64 200] w fun e w' => ∃ h cap, e = .returned (.slice (some ⟨h, 0, none⟩) 1 cap) ∧ w.heap.size ≤ h ∧ Cel w' h 0 (ck 3 0 p 0 ⟨#[y]⟩) ∧ Below w.heap.size w w' := by
  refine (split_any 0 p 0 200 false ⟨#[y]⟩ 200 0 (by rfl) (by rfl) (by omega) (by omega) (by show 1 ≤ 100000; omega) w).mono ?_
  rintro e w1 ⟨⟨v, n, rfl, hp, hk, hd⟩, bel⟩
  have hs : (⟨#[y]⟩ : ByteArray).size = 1 := rfl
  rw [hs] at hk hd
  obtain rfl : n = 1 := by
    have : n < 2 := by
      rcases Nat.lt_or_ge n 2 with q | q
      · exact q
      · have := hk 1 (by omega); omega
    omega
  rcases hp with ⟨h0, _⟩ | ⟨h, cap, rfl, h1, h2, h3, h4, K⟩
  · exact absurd h0 (by omega)
  refine ⟨h, cap, rfl, h4, ?_, bel⟩
  have K0 := K 0 (by omega)
  have e : (⟨#[y]⟩ : ByteArray).extract (0 * 200) (0 * 200 + 200) = ⟨#[y]⟩ := by
    rw [ext_min, hs]
    exact ByteArray.extract_zero_size
  rw [e] at K0
  exact K0
set_option maxHeartbeats 2000000 in
theorem put_one (b0 g k : Nat) (p b : Int) (y : UInt8) (l : Value) (xs : List Value) (hp0 : 0 ≤ p) (hp1 : p ≤ 10) (hb0 : 0 ≤ b) (hb1 : b ≤ 10) (hk : k ≤ 10) (w : World) (q : Q1 b0 g p l b w) (own : w.ownsRow b0 40 15 l k xs) (hg : b0 ≤ g) :
    Calls Try.prog 20 #[.pointer (some ⟨g, 0, none⟩), .agg (ms 0 0 false 0 ⟨#[y]⟩), .int .i64 0] w fun e w' => e = .returned (.int .i64 0) ∧ ∃ l', Q1 b0 g (p + 1) l' (b + 1) w' ∧ w'.ownsRow b0 40 15 l' (k + 1) (xs ++ (ck 3 0 p 0 ⟨#[y]⟩).toList) ∧ Below b0 w w' := by
  obtain ⟨h, cap, B, hne, hbh, hc1, C, hlh, hlg⟩ := q
  have hgl := B.lt
  have hhl := C.lt
  have B1 := B.alloc (.cells (ms 0 0 false 0 ⟨#[y]⟩) 30)
  have C1 := C.alloc (.cells (ms 0 0 false 0 ⟨#[y]⟩) 30)
  have M1 := Blk.new w 30 (ms 0 0 false 0 ⟨#[y]⟩)
  have bel1 := (Below.refl b0 w).alloc (by omega) (.cells (ms 0 0 false 0 ⟨#[y]⟩) 30)
  have own0 := Lib.hid own
  have own1 := own_all own ((Below.refl w.heap.size w).alloc (Nat.le_refl _) (.cells (ms 0 0 false 0 ⟨#[y]⟩) 30))
  have HO := Lib.hid own1
  have hms : w.heap.size ≠ g := by omega
  have hmh : w.heap.size ≠ h := by omega
  go_enter Try.func20, Try.ntmps20
  go_upto_region 2 with (fail)
  clear B C own own1
  generalize w.alloc (.cells (ms 0 0 false 0 ⟨#[y]⟩) 30) = w1 at *
  have c0 : w1.cell? ⟨w.heap.size, 0, none⟩ = some (.int .i64 0) := M1.cell 0
  have b0c : w1.cell? ⟨g, 0, none⟩ = some (.slice (some ⟨h, 0, none⟩) 1 cap) := B1.cell 0
  go_quiet ((exact Calls.quiet_of_same (streams_of g ⟨h, 0, none⟩ cap _ b0c)))
  have M2 : Blk (w1.drewN nq) w.heap.size 30 (ms 0 0 false 0 ⟨#[y]⟩) := M1
  have B2 : Blk (w1.drewN nq) g 158 #[.slice (some ⟨h, 0, none⟩) 1 cap, l, .int .i64 b] := B1
  have C2 : Cel (w1.drewN nq) h 0 #[.int .u16 p] := C1
  have own2 : (w1.drewN nq).ownsRow b0 40 15 l k xs := HO.out
  have bel2 : Below b0 w (w1.drewN nq) := ⟨bel1.os, bel1.tape, bel1.output, bel1.size, bel1.block⟩
  have HO2 := Lib.hid own2
  clear M1 B1 C1 HO own2 bel1 c0 b0c
  generalize w1.drewN nq = w2 at *
  have b2c : w2.cell? ⟨g, 2, none⟩ = some (.int .i64 b) := B2.cell 2
  have m1c : w2.cell? ⟨w.heap.size, 1, none⟩ = some (.int .i64 0) := M2.cell 1
  have m1f : w2.frozen? ⟨w.heap.size, 1, none⟩ = false := M2.frozen 1
  have m2c : w2.cell? ⟨w.heap.size, 2, none⟩ = some (.bool false) := M2.cell 2
  go_upto_region 8 with (fail)
  have M3 : Blk (w2.setCell ⟨w.heap.size, 1, none⟩ (.int .i64 0)) w.heap.size 30 (ms 0 0 false 0 ⟨#[y]⟩) := M2.set_ 1 _
  have B3 : Blk (w2.setCell ⟨w.heap.size, 1, none⟩ (.int .i64 0)) g 158 #[.slice (some ⟨h, 0, none⟩) 1 cap, l, .int .i64 b] := B2.far (p := ⟨w.heap.size, 1, none⟩) (Ne.symm hms) _
  have C3 : Cel (w2.setCell ⟨w.heap.size, 1, none⟩ (.int .i64 0)) h 0 #[.int .u16 p] := C2.far (p := ⟨w.heap.size, 1, none⟩) (Ne.symm hmh) _
  have lw : ∀ k, l.ownBlock = some k → k < w.heap.size := own_lt own0.out
  have own3 : (w2.setCell ⟨w.heap.size, 1, none⟩ (.int .i64 0)).ownsRow b0 40 15 l k xs := own_other HO2.out (fun k hk => Below.heap_setCell _ _ _ _ (by have := lw k hk; show k ≠ w.heap.size; omega))
  have bel3 : Below b0 w (w2.setCell ⟨w.heap.size, 1, none⟩ (.int .i64 0)) := bel2.setCell (p := ⟨w.heap.size, 1, none⟩) (by show b0 ≤ w.heap.size; omega) _
  have HO3 := Lib.hid own3
  clear M2 B2 C2 HO2 own3 bel2 b2c m1c m1f m2c lw
  generalize w2.setCell ⟨w.heap.size, 1, none⟩ (.int .i64 0) = w3 at *
  have g0c : w3.cell? ⟨g, 0, none⟩ = some (.slice (some ⟨h, 0, none⟩) 1 cap) := B3.cell 0
  have h0c : w3.cell? ⟨h, 0, none⟩ = some (.int .u16 p) := C3.cell0 0 (u := .int .u16 p) rfl
  have m0c : w3.cell? ⟨w.heap.size, 0, none⟩ = some (.int .i64 0) := M3.cell 0
  have m1c : w3.cell? ⟨w.heap.size, 1, none⟩ = some (.int .i64 0) := M3.cell 1
  have m1f : w3.frozen? ⟨w.heap.size, 1, none⟩ = false := M3.frozen 1
  go_region
  go_upto_region 9 with (fail)
  have M4 : Blk ((w3.setCell ⟨w.heap.size, 1, none⟩ (.int .i64 p)).drew) w.heap.size 30 (ms 0 p false 0 ⟨#[y]⟩) := (M3.set_ 1 (.int .i64 p)).drew
  have B4 : Blk ((w3.setCell ⟨w.heap.size, 1, none⟩ (.int .i64 p)).drew) g 158 #[.slice (some ⟨h, 0, none⟩) 1 cap, l, .int .i64 b] := (B3.far (p := ⟨w.heap.size, 1, none⟩) (Ne.symm hms) _).drew
  have C4 : Cel ((w3.setCell ⟨w.heap.size, 1, none⟩ (.int .i64 p)).drew) h 0 #[.int .u16 p] := (C3.far (p := ⟨w.heap.size, 1, none⟩) (Ne.symm hmh) _).drew
  have lw : ∀ k, l.ownBlock = some k → k < w.heap.size := own_lt own0.out
  have own4 : ((w3.setCell ⟨w.heap.size, 1, none⟩ (.int .i64 p)).drew).ownsRow b0 40 15 l k xs := own_other HO3.out (fun k hk => Below.heap_setCell _ _ _ _ (by have := lw k hk; show k ≠ w.heap.size; omega))
  have bel4 : Below b0 w ((w3.setCell ⟨w.heap.size, 1, none⟩ (.int .i64 p)).drew) := (bel3.setCell (p := ⟨w.heap.size, 1, none⟩) (by show b0 ≤ w.heap.size; omega) _).drew
  have HO4 := Lib.hid own4
  clear M3 B3 C3 HO3 own4 bel3 g0c h0c m0c m1c m1f lw
  generalize ((w3.setCell ⟨w.heap.size, 1, none⟩ (.int .i64 p)).drew) = w4 at *
  have g0c : w4.cell? ⟨g, 0, none⟩ = some (.slice (some ⟨h, 0, none⟩) 1 cap) := B4.cell 0
  have h0c : w4.cell? ⟨h, 0, none⟩ = some (.int .u16 p) := C4.cell0 0 (u := .int .u16 p) rfl
  have h0f : w4.frozen? ⟨h, 0, none⟩ = false := C4.frozen0 0 (by show 0 < 1; omega)
  have m0c : w4.cell? ⟨w.heap.size, 0, none⟩ = some (.int .i64 0) := M4.cell 0
  go_region
  go_upto_region 10 with (fail)
  have M5 : Blk ((w4.setCell ⟨h, 0, none⟩ (.int .u16 (p + 1))).drew) w.heap.size 30 (ms 0 p false 0 ⟨#[y]⟩) := (M4.far (p := ⟨h, 0, none⟩) hmh _).drew
  have B5 : Blk ((w4.setCell ⟨h, 0, none⟩ (.int .u16 (p + 1))).drew) g 158 #[.slice (some ⟨h, 0, none⟩) 1 cap, l, .int .i64 b] := (B4.far (p := ⟨h, 0, none⟩) (Ne.symm hne) _).drew
  have C5 : Cel ((w4.setCell ⟨h, 0, none⟩ (.int .u16 (p + 1))).drew) h 0 #[.int .u16 (p + 1)] := (C4.set_ 0 (.int .u16 (p + 1))).drew
  have own5 : ((w4.setCell ⟨h, 0, none⟩ (.int .u16 (p + 1))).drew).ownsRow b0 40 15 l k xs := own_other HO4.out (fun k hk => Below.heap_setCell _ _ _ _ (by intro q; rw [q] at hk; exact hlh hk))
  have bel5 : Below b0 w ((w4.setCell ⟨h, 0, none⟩ (.int .u16 (p + 1))).drew) := (bel4.setCell (p := ⟨h, 0, none⟩) hbh _).drew
  have HO5 := Lib.hid own5
  clear M4 B4 C4 HO4 own5 bel4 g0c h0c h0f m0c
  generalize ((w4.setCell ⟨h, 0, none⟩ (.int .u16 (p + 1))).drew) = w5 at *
  have g1c : w5.cell? ⟨g, 1, none⟩ = some l := B5.cell 1
  have g1f : w5.frozen? ⟨g, 1, none⟩ = false := B5.frozen 1
  have x0 : w5.cell? ⟨w.heap.size, 0, none⟩ = some (.int .i64 0) := M5.cell 0
  have x1 : w5.cell? ⟨w.heap.size, 1, none⟩ = some (.int .i64 p) := M5.cell 1
  have x2 : w5.cell? ⟨w.heap.size, 2, none⟩ = some (.bool false) := M5.cell 2
  have x3 : w5.cell? ⟨w.heap.size, 3, none⟩ = some (.int .u32 0) := M5.cell 3
  have x4 : w5.cell? ⟨w.heap.size, 4, none⟩ = some (.string ⟨#[y]⟩) := M5.cell 4
  obtain ⟨i0, hi, hz0, hz1, hz2x⟩ := info_parts infoCb
  have hS := fun w => split_one p y w
  have hb05 : b0 ≤ w5.heap.size := by have := B5.lt; omega
  have bel5d : Below b0 w w5.drew := bel5.drew
  clear bel5
  go_region_law
    ((first | (refine step_call2 (by rfl) 21 Try.f21 _ _ (by rfl) Try.func21 (by kernel_rfl) (by kernel_rfl) #[.agg (ms 0 p false 0 ⟨#[y]⟩), .int .i64 200] (by simp [Act.eval, Act.put]) (hS _) ?_; rintro e w6 ⟨h6, cap6, rfl, hb6, K6, bl6⟩; refine ⟨_, rfl, ?_⟩; have B6 := B5.drew.below bl6 B5.lt; have C6 := C5.drew.below bl6 C5.lt; have own6 := Lib.hid (own_all (w := w5.drew) HO5.out bl6); have bel6 := bel5d.trans (bl6.mono (show b0 ≤ w5.drew.heap.size from hb05)); have hb06 : b0 ≤ w6.heap.size := Nat.le_trans hb05 bl6.size; have c6 : w6.cell? ⟨g, 1, none⟩ = some l := B6.cell 1)
            | (refine step_append_lies _ (by rfl) _ _ _ (by rfl) b0 40 i0 (.agg (ck 0 0 0 0 ⟨#[]⟩)) 15 184 Try.underlying26 hi hz0 hz1 hz2x (by rfl) (by decide) l k xs (by rfl) own6.out ⟨h6, 0, none⟩ 1 cap6 (ck 3 0 p 0 ⟨#[y]⟩).toList (by rfl) (by rfl) (fun j u hu => by rw [add_eq]; exact K6.cell0 j (by simpa using hu)) (fun x hx => (Array.all_eq_true_iff_forall_mem.1 (ck_one 3 0 p 0 ⟨#[y]⟩)) x (by simpa using hx)) (by omega) (by unfold maxLen; omega) (by omega) hb06 w6.heap.size (by rfl) ?_; intro h8 cap8 w8 hown8 hgrow hat hlt; have B8 : Blk w8 g 158 #[.slice (some ⟨h, 0, none⟩) 1 cap, l, .int .i64 b] := (hgrow.block g B6.lt (Ne.symm hlg)).trans B6; have f8 := B8.frozen 1; have c8 : (w8.cell? ⟨g, 1, none⟩) = some l := B8.cell 1)))
  all_goals
    have hg8 : h8 ≠ g := by
      rcases hat with q | q
      · intro e; rw [e] at q; exact hlg q
      · have := B6.lt; omega
    have hh8 : h8 ≠ h := by
      rcases hat with q | q
      · intro e; rw [e] at q; exact hlh q
      · have := C6.lt; omega
    have C8 : Cel w8 h 0 #[.int .u16 (p + 1)] := C6.block (hgrow.block h C6.lt (Ne.symm hlh)) (Nat.lt_of_lt_of_le C6.lt hgrow.size)
    have B9 : Blk (w8.setCell ⟨g, 1, none⟩ (.slice (some ⟨h8, 0, none⟩) (k + 1) cap8)) g 158 #[.slice (some ⟨h, 0, none⟩) 1 cap, .slice (some ⟨h8, 0, none⟩) (k + 1) cap8, .int .i64 b] := B8.set_ 1 _
    have C9 : Cel (w8.setCell ⟨g, 1, none⟩ (.slice (some ⟨h8, 0, none⟩) (k + 1) cap8)) h 0 #[.int .u16 (p + 1)] := C8.far (p := ⟨g, 1, none⟩) hne _
    have hw9 : ∀ i, (Value.slice (some ⟨h8, 0, none⟩) (k + 1) cap8).ownBlock = some i → i ≠ g := by
      intro i hi e
      rw [e] at hi
      simp [Value.ownBlock] at hi
      exact hg8 hi
    have own9 : (w8.setCell ⟨g, 1, none⟩ (.slice (some ⟨h8, 0, none⟩) (k + 1) cap8)).ownsRow b0 40 15 (.slice (some ⟨h8, 0, none⟩) (k + 1) cap8) (k + 1) (xs ++ (ck 3 0 p 0 ⟨#[y]⟩).toList) := own_other hown8 (fun i hi => Below.heap_setCell _ _ _ _ (hw9 i hi))
    have bel9 : Below b0 w (w8.setCell ⟨g, 1, none⟩ (.slice (some ⟨h8, 0, none⟩) (k + 1) cap8)) := (bel6.grown hgrow hb06 (own_ge own6.out)).setCell (p := ⟨g, 1, none⟩) hg _
    have HO9 := Lib.hid own9
    clear own9 C8 B8 hown8 f8 c8 hgrow hat hw9
    generalize w8.setCell ⟨g, 1, none⟩ (.slice (some ⟨h8, 0, none⟩) (k + 1) cap8) = w9 at *
    have c9 : w9.cell? ⟨g, 2, none⟩ = some (.int .i64 b) := B9.cell 2
    have f9 : w9.frozen? ⟨g, 2, none⟩ = false := B9.frozen 2
    have B10 : Blk (w9.setCell ⟨g, 2, none⟩ (.int .i64 (b + 1))) g 158 #[.slice (some ⟨h, 0, none⟩) 1 cap, .slice (some ⟨h8, 0, none⟩) (k + 1) cap8, .int .i64 (b + 1)] := B9.set_ 2 _
    have C10 : Cel (w9.setCell ⟨g, 2, none⟩ (.int .i64 (b + 1))) h 0 #[.int .u16 (p + 1)] := C9.far (p := ⟨g, 2, none⟩) hne _
    have hw9 : ∀ i, (Value.slice (some ⟨h8, 0, none⟩) (k + 1) cap8).ownBlock = some i → i ≠ g := by
      intro i hi e
      rw [e] at hi
      simp [Value.ownBlock] at hi
      exact hg8 hi
    have own10 : (w9.setCell ⟨g, 2, none⟩ (.int .i64 (b + 1))).ownsRow b0 40 15 (.slice (some ⟨h8, 0, none⟩) (k + 1) cap8) (k + 1) (xs ++ (ck 3 0 p 0 ⟨#[y]⟩).toList) := own_other HO9.out (fun i hi => Below.heap_setCell _ _ _ _ (hw9 i hi))
    have bel10 : Below b0 w (w9.setCell ⟨g, 2, none⟩ (.int .i64 (b + 1))) := bel9.setCell (p := ⟨g, 2, none⟩) hg _
    have HO10 := Lib.hid own10
    clear own10 hw9 HO9 B9 C9 bel9
    go_wp2_with fail
    go_ret
    exact ⟨rfl, _, ⟨h, cap, B10, hne, hbh, hc1, C10, by simp [Value.ownBlock]; exact hh8, by simp [Value.ownBlock]; exact hg8⟩, HO10.out, bel10⟩
end Go.Proofs.Ythddacgdmngfhaa.sen
