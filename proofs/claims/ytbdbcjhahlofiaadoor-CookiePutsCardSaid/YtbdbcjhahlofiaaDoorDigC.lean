/- Layer 8: a block mixed into five words, by the program and by the document. -/
import Derived.Test.YtbdbcjhahlofiaaDoorDigB
namespace Go.Proofs.YtbdbcjhahlofiaaDoor.dig
open Go.ChangeShapes Go.WideShapes Go.ChangeAt Go.RowKit kit
open crc (ones xor_ones word)
open oct

def adL : List Nat := [0x5a827999, 0x6ed9eba1, 0x8f1bbcdc, 0xca62c1d6]
/-- The four words that rounds add, where the program laid them. -/
def Added (w : World) : Prop := ∀ i, i < 4 → w.cell? ⟨1, i, none⟩ = some (word (adL.getD i 0))
theorem Added.below {w w' : World} (h : Added w) (hb : Below w.heap.size w w') : Added w' := fun i hi => (hb.cell (block_lt_of_cell (h i hi))).trans (h i hi)
def cells5 (s : St) : Array Value := #[word s.a, word s.b, word s.c, word s.d, word s.e]
def fin (s t : St) : St := ⟨(s.a + t.a) % 4294967296, (s.b + t.b) % 4294967296, (s.c + t.c) % 4294967296, (s.d + t.d) % 4294967296, (s.e + t.e) % 4294967296⟩
theorem wrap_add (x y : Nat) : IntKind.u32.wrap ((x : Int) + (y : Int)) = (((x + y) % 4294967296 : Nat) : Int) := by
  rw [IntKind.wrap_u32']; omega

theorem rot5q (x : Nat) (w : World) (h : x < 4294967296) : Calls Tryd.prog 67 #[.int .u32 x, .int .i64 5] w fun e w' => e = .returned (.int .u32 (rot x 5 : Nat)) ∧ w' = w := (rot5 x w h).mono fun _ _ h => ⟨h.1, h.2.symm⟩
theorem chosenq (n b c d : Nat) (w : World) (hn : n < 80) (hb : b < 4294967296) (hc : c < 4294967296) (hd : d < 4294967296) : Calls Tryd.prog 68 #[.int .i64 n, .int .u32 b, .int .u32 c, .int .u32 d] w fun e w' => e = .returned (.int .u32 (ch n b c d : Nat)) ∧ w' = w := (chosen_any n b c d w hn hb hc hd).mono fun _ _ h => ⟨h.1, h.2.symm⟩
theorem sum_eq (r f e w k : Nat) : ((((r + f) % 4294967296 + e) % 4294967296 + w) % 4294967296 + k) % 4294967296 = (r + f + e + w + k) % 4294967296 := by omega
theorem rd1_of (n w : Nat) {s t : St} (h : t = s) (u : Nat) (hu : u = (rot s.a 5 + ch n s.b s.c s.d + s.e + w + ad n) % 4294967296) : rd1 n w t = ⟨u, s.a, rot s.b 30, s.c, s.d⟩ := by subst h hu; rfl

set_option maxRecDepth 100000 in
set_option maxHeartbeats 1000000 in
theorem mixed_any (s : St) (p : List Nat) (w : World) (A : Added w) (hs : s.ok) (hp : p.length = 80) (hv : ∀ i, p.getD i 0 < 4294967296) : Calls Tryd.prog 48 #[.agg (cells5 s), .agg (rowOf 80 p)] w fun e w' => e = .returned (.agg (cells5 (fin s (rds p s 80)))) ∧ Below w.heap.size w w' := by
  have HP := Lib.hid hp
  have HV := Lib.hid hv
  have HS := Lib.hid hs
  have HA := Lib.hid A
  clear hp hv hs A
  go_enter Tryd.func48, Tryd.ntmps48
  go_wp2
  have B0 : Blk (((w.alloc (.cells (cells5 s) 65)).alloc (.cells (rowOf 80 p) 73)).alloc (.cells #[.int .u32 0, .int .u32 0, .int .u32 0, .int .u32 0, .int .u32 0] 65)) w.heap.size 65 (cells5 s) := ((Blk.new _ _ _).alloc _).alloc _
  have B1 : Blk (((w.alloc (.cells (cells5 s) 65)).alloc (.cells (rowOf 80 p) 73)).alloc (.cells #[.int .u32 0, .int .u32 0, .int .u32 0, .int .u32 0, .int .u32 0] 65)) (w.heap.size + 1) 73 (rowOf 80 p) := (blk_new2 w (.cells (cells5 s) 65) 73 (rowOf 80 p)).alloc _
  have B2 : Blk (((w.alloc (.cells (cells5 s) 65)).alloc (.cells (rowOf 80 p) 73)).alloc (.cells #[.int .u32 0, .int .u32 0, .int .u32 0, .int .u32 0, .int .u32 0] 65)) (w.heap.size + 1 + 1) 65 #[.int .u32 0, .int .u32 0, .int .u32 0, .int .u32 0, .int .u32 0] := by
    simpa using Blk.new ((w.alloc (.cells (cells5 s) 65)).alloc (.cells (rowOf 80 p) 73)) 65 #[.int .u32 0, .int .u32 0, .int .u32 0, .int .u32 0, .int .u32 0]
  have bel := (((Below.refl w.heap.size w).alloc (Nat.le_refl _) (.cells (cells5 s) 65)).alloc (by simp) (.cells (rowOf 80 p) 73)).alloc (by simp; omega) (.cells #[.int .u32 0, .int .u32 0, .int .u32 0, .int .u32 0, .int .u32 0] 65)
  generalize ((w.alloc (.cells (cells5 s) 65)).alloc (.cells (rowOf 80 p) 73)).alloc (.cells #[.int .u32 0, .int .u32 0, .int .u32 0, .int .u32 0, .int .u32 0] 65) = w1 at *
  have c0 : w1.cell? ⟨w.heap.size, 0, none⟩ = some (.int .u32 (s.a : Int)) := B0.cell 0
  have c1 : w1.cell? ⟨w.heap.size, 1, none⟩ = some (.int .u32 (s.b : Int)) := B0.cell 1
  have c2 : w1.cell? ⟨w.heap.size, 2, none⟩ = some (.int .u32 (s.c : Int)) := B0.cell 2
  have c3 : w1.cell? ⟨w.heap.size, 3, none⟩ = some (.int .u32 (s.d : Int)) := B0.cell 3
  have c4 : w1.cell? ⟨w.heap.size, 4, none⟩ = some (.int .u32 (s.e : Int)) := B0.cell 4
  refine wp_region_still_lit (by kernel_rfl) (by kernel_rfl) ?_
  repeat still_step
  refine wpStill_nil ?_
  clear c0 c1 c2 c3 c4
  change Exit.then _ _ _ _ w1.drew
  replace B0 : Blk w1.drew _ _ _ := B0
  replace B1 : Blk w1.drew _ _ _ := B1
  replace B2 : Blk w1.drew _ _ _ := B2
  replace bel := bel.drew
  generalize w1.drew = w2 at *
  go_wp2
  go_loopw [5, 6, 7, 8, 9, 22] (fun s5 s6 s7 s8 s9 s22 wr => ∃ (k : Nat) (t : St), k ≤ 80 ∧ t = rds p s k ∧ s22 = .int .i64 k ∧ s5 = .int .u32 (t.a : Int) ∧ s6 = .int .u32 (t.b : Int) ∧ s7 = .int .u32 (t.c : Int) ∧ s8 = .int .u32 (t.d : Int) ∧ s9 = .int .u32 (t.e : Int) ∧ Blk wr w.heap.size 65 (cells5 s) ∧ Blk wr (w.heap.size + 1) 73 (rowOf 80 p) ∧ Blk wr (w.heap.size + 1 + 1) 65 #[.int .u32 0, .int .u32 0, .int .u32 0, .int .u32 0, .int .u32 0] ∧ Below w.heap.size w wr) (fun _ _ _ _ _ s22 _ => 80 - (intOf s22).toNat)
  case atStart => exact ⟨0, s, by omega, rfl, rfl, rfl, rfl, rfl, rfl, rfl, B0, B1, B2, bel⟩
  case round =>
    clear B0 B1 B2 bel
    obtain ⟨k, t, hk, ht, rfl, rfl, rfl, rfl, rfl, rfl, B0, B1, B2, bel⟩ := hrel
    have hok : t.ok := by rw [ht]; exact rds_ok p HS.out k
    obtain ⟨o1, o2, o3, o4, o5⟩ := hok
    have HT := Lib.hid ht
    clear ht
    by_cases hlt : k < 80
    · have hrd := rd1_of k (p.getD k 0) (s := t) rfl _ (sum_eq (rot t.a 5) (ch k t.b t.c t.d) t.e (p.getD k 0) (ad k))
      have HN := Lib.hid (show rds p s (k + 1) = _ from (show rds p s (k + 1) = rd1 k (p.getD k 0) (rds p s k) from rfl).trans ((congrArg (rd1 k (p.getD k 0)) HT.out.symm).trans hrd))
      obtain ⟨wv, hwv⟩ : ∃ x, p.getD k 0 = x := ⟨_, rfl⟩
      have cw := (B1.cell k).trans (rowOf_at (by rw [HP.out]; exact hlt))
      rw [hwv] at cw HN
      obtain ⟨j, hj⟩ : ∃ j, k / 20 = j := ⟨_, rfl⟩
      have hj4 : j < 4 := by omega
      have ca := (HA.out.below bel) j hj4
      obtain ⟨av, hav⟩ : ∃ x, ad k = x := ⟨_, rfl⟩
      rw [show adL.getD j 0 = av by rw [← hav, ← hj]; rfl] at ca
      rw [hav] at HN
      unfold word at cw ca
      have q1 : IntKind.i64.wrap ((k : Int) / 20) = (j : Int) := by rw [IntWalk.i64_in _ (by omega)]; omega
      have hR := fun w => rot5q t.a w o1
      have hC := fun w => chosenq k t.b t.c t.d w hlt o2 o3 o4
      have hR2 := fun w => rot30 t.b w o2
      obtain ⟨ta, tb, tc, td, te⟩ := t
      simp only at hR hC hR2 HN cw o1 o2 o3 o4 o5 ⊢
      generalize rot ta 5 = r at *
      generalize ch k tb tc td = f at *
      generalize rot tb 30 = rb at *
      have s1 := wrap_add r f
      have s2 := wrap_add ((r + f) % 4294967296) te
      have s3 := wrap_add (((r + f) % 4294967296 + te) % 4294967296) wv
      have s4 := wrap_add ((((r + f) % 4294967296 + te) % 4294967296 + wv) % 4294967296) av
      generalize ((((r + f) % 4294967296 + te) % 4294967296 + wv) % 4294967296 + av) % 4294967296 = u4 at *
      generalize (((r + f) % 4294967296 + te) % 4294967296 + wv) % 4294967296 = u3 at *
      generalize ((r + f) % 4294967296 + te) % 4294967296 = u2 at *
      generalize (r + f) % 4294967296 = u1 at *
      have bk : (k : Int) < 80 := by omega
      have bj : (j : Int) < 4 := by omega
      clear hwv hj hav o1 o2 o3 o4 o5 hrd hj4
      go_upto_region 5 with (fail)
      refine wp_region_still_lit (by kernel_rfl) (by kernel_rfl) ?_
      repeat still_step
      still_call (hR _)
      repeat still_step
      still_call (hC _)
      repeat still_step
      refine wpStill_nil ?_
      change Exit.then _ _ _ _ wr.drew
      replace B0 : Blk wr.drew _ _ _ := B0
      replace B1 : Blk wr.drew _ _ _ := B1
      replace B2 : Blk wr.drew _ _ _ := B2
      replace bel := bel.drew
      generalize wr.drew = w3 at *
      clear hR hC s1 s2 s3 s4 q1 cw ca
      go_wp2_with (go_at_call 67; refine (hR2 _).mono ?_; rintro e w4 ⟨rfl, rfl⟩)
      clear hR2
      go_roundw
      case rel => exact ⟨k + 1, ⟨u4, ta, rb, tc, td⟩, by omega, HN.out.symm, by go_num, rfl, rfl, rfl, rfl, rfl, B0, B1, B2, bel⟩
      case measure => simp [intOf]; omega
    · have hk' : k = 80 := by omega
      subst hk'
      clear hlt hk B1
      have c0 : wr.cell? ⟨w.heap.size, 0, none⟩ = some (.int .u32 (s.a : Int)) := B0.cell 0
      have c1 : wr.cell? ⟨w.heap.size, 1, none⟩ = some (.int .u32 (s.b : Int)) := B0.cell 1
      have c2 : wr.cell? ⟨w.heap.size, 2, none⟩ = some (.int .u32 (s.c : Int)) := B0.cell 2
      have c3 : wr.cell? ⟨w.heap.size, 3, none⟩ = some (.int .u32 (s.d : Int)) := B0.cell 3
      have c4 : wr.cell? ⟨w.heap.size, 4, none⟩ = some (.int .u32 (s.e : Int)) := B0.cell 4
      clear B0 o1 o2 o3 o4 o5
      have d0 : wr.cell? ⟨w.heap.size + 1 + 1, 0, none⟩ = some (.int .u32 0) := B2.cell 0
      have d1 : wr.cell? ⟨w.heap.size + 1 + 1, 1, none⟩ = some (.int .u32 0) := B2.cell 1
      have d2 : wr.cell? ⟨w.heap.size + 1 + 1, 2, none⟩ = some (.int .u32 0) := B2.cell 2
      have d3 : wr.cell? ⟨w.heap.size + 1 + 1, 3, none⟩ = some (.int .u32 0) := B2.cell 3
      have d4 : wr.cell? ⟨w.heap.size + 1 + 1, 4, none⟩ = some (.int .u32 0) := B2.cell 4
      have f0 := B2.frozen 0
      have f1 := B2.frozen 1
      have f2 := B2.frozen 2
      have f3 := B2.frozen 3
      have f4 := B2.frozen 4
      have HF := Lib.hid (show cells5 (fin s t) = #[.int .u32 (((s.a : Int) + t.a) % 4294967296), .int .u32 (((s.b : Int) + t.b) % 4294967296), .int .u32 (((s.c : Int) + t.c) % 4294967296), .int .u32 (((s.d : Int) + t.d) % 4294967296), .int .u32 (((s.e : Int) + t.e) % 4294967296)] by simp [cells5, fin, word])
      go_wp2
      have B3 := ((((B2.set_ 0 (.int .u32 (((s.a : Int) + t.a) % 4294967296))).set_ 1 (.int .u32 (((s.b : Int) + t.b) % 4294967296))).set_ 2 (.int .u32 (((s.c : Int) + t.c) % 4294967296))).set_ 3 (.int .u32 (((s.d : Int) + t.d) % 4294967296))).set_ 4 (.int .u32 (((s.e : Int) + t.e) % 4294967296))
      refine bodyPost_ret (v := .agg (cells5 (fin s t))) ?_ rfl ⟨by rw [HT.out], ?_⟩
      · rw [HF.out]
        exact results_cell_row rfl _ _ (w.heap.size + 1 + 1) 65 _ (0, 0) _ rfl B3 Tryd.underlying65 rfl (by kernel_rfl)
      · exact ((((bel.setCell (p := ⟨w.heap.size + 1 + 1, 0, none⟩) (by simp; omega) _).setCell (p := ⟨w.heap.size + 1 + 1, 1, none⟩) (by simp; omega) _).setCell (p := ⟨w.heap.size + 1 + 1, 2, none⟩) (by simp; omega) _).setCell (p := ⟨w.heap.size + 1 + 1, 3, none⟩) (by simp; omega) _).setCell (p := ⟨w.heap.size + 1 + 1, 4, none⟩) (by simp; omega) _
end Go.Proofs.YtbdbcjhahlofiaaDoor.dig
