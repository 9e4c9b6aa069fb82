/- Layer 18: what is read; more streams; streams made. -/
import Derived.Test.YthddacgdmngfhaaDvD
namespace Go.Proofs.Ythddacgdmngfhaa.del
open Go.Sort (grow)
open Go.ChangeShapes Go.WideShapes Go.ChangeAt Go.RowKit kit
set_option maxRecDepth 100000
/-- 'q[1:]', written out. -/
theorem qo_tail2 {w : World} {b0 size n : Nat} {xs : List Value} {g off cap : Nat} (q : Qo w b0 size (.slice (some ⟨g, off, none⟩) n cap) n xs) (hn : 0 < n) : Qo w b0 size (.slice (if cap = 1 then some ⟨g, off, none⟩ else some ⟨g, off + size, none⟩) (n - 1) (cap - 1)) (n - 1) (xs.drop size) ∧ (blkOf (.slice (if cap = 1 then some ⟨g, off, none⟩ else some ⟨g, off + size, none⟩) (n - 1) (cap - 1)) = some g ∨ blkOf (.slice (if cap = 1 then some ⟨g, off, none⟩ else some ⟨g, off + size, none⟩) (n - 1) (cap - 1)) = none) := by
  obtain ⟨oa, cap', e, hc, hm, h3⟩ := q.val
  simp only [Value.slice.injEq, true_and] at e
  obtain ⟨rfl, rfl⟩ := e
  obtain ⟨g', off', e, h4, h5, h6, h7⟩ := h3 (by omega)
  simp only [Option.some.injEq, Addr.mk.injEq, and_true] at e
  obtain ⟨rfl, rfl⟩ := e
  have hl := q.len
  refine ⟨⟨?_, _, cap - 1, rfl, by omega, by omega, fun h0 => ?_⟩, ?_⟩
  · rw [List.length_drop, hl, Nat.sub_mul, Nat.one_mul]
  · rw [if_neg (by omega)]
    have hcs : (cap - 1) * size + size = cap * size := by rw [← Nat.succ_mul, Nat.succ_eq_add_one, show cap - 1 + 1 = cap by omega]
    have hns : (n - 1) * size + size = n * size := by rw [← Nat.succ_mul, Nat.succ_eq_add_one, show n - 1 + 1 = n by omega]
    refine ⟨g, off + size, rfl, h4, h5, fun j hj => ?_, fun j hj => ?_⟩
    · rw [Nat.add_assoc]
      exact h6 _ (by omega)
    · rw [Nat.add_assoc, h7 _ (by omega), List.getElem?_drop]
  · rcases Nat.eq_zero_or_pos (cap - 1) with h0 | h0
    · right; rw [h0]; exact blkOf_zero
    · left
      rw [if_neg (by omega), blkOf_pos h0]
theorem heap_setCells' {g k : Nat} (hne : k ≠ g) : ∀ (vs : List Value) (o : Nat) (w : World), (w.setCells g o vs).heap[k]? = w.heap[k]?
  | [], _, _ => rfl
  | v :: r, o, w => (heap_setCells' hne r (o + 1) (w.setCell ⟨g, o, none⟩ v)).trans (Below.heap_setCell w ⟨g, o, none⟩ v k hne)
theorem dv_read_nil {b0 g b : Nat} {sv rv : Value} {Z : List (Nat × Nat)} {W : List Mg} {w : World} (h : Dw b0 g sv rv b Z W [] w) : Calls Try.prog 51 #[.pointer (some ⟨g, 0, none⟩)] w fun e w' => e = .returned (.tuple #[.agg #[.int .i64 0, .int .i64 0, .bool false, .int .u32 0, .string ⟨#[]⟩], .bool false]) ∧ Below w.heap.size w w' := by
  have al := (Below.refl w.heap.size w).alloc (Nat.le_refl _) (.cells #[.int .i64 0, .int .i64 0, .bool false, .int .u32 0, .string ⟨#[]⟩] 30)
  have hl := dv_ready (h.below al (Nat.le_refl _))
  go_enter Try.func51, Try.ntmps51
  go_wp2_with fail
  refine hl.mono ?_
  rintro e w1 ⟨rfl, rfl⟩
  clear h
  go_wp2_with fail
  have B := Blk.new w 30 (ms 0 0 false 0 ⟨#[]⟩)
  have bel := (Below.refl w.heap.size w).alloc (Nat.le_refl _) (.cells (ms 0 0 false 0 ⟨#[]⟩) 30)
  refine bodyPost_ret (v := .tuple #[.agg (ms 0 0 false 0 ⟨#[]⟩), .bool false]) ?_ rfl ⟨rfl, bel⟩
  rw [results_cell_tmp rfl]
  have h := run_loadVar_row (w.alloc (.cells (ms 0 0 false 0 ⟨#[]⟩) 30)) w.heap.size 30 30 _ (0, 0) _ B Try.underlying30 rfl (by kernel_rfl)
  have h2 : w.alloc (.cells (ms 0 0 false 0 ⟨#[]⟩) 30) = w.alloc (.cells #[.int .i64 0, .int .i64 0, .bool false, .int .u32 0, .string ⟨#[]⟩] 30) := rfl
  rw [h2] at h
  simp [asAddr, h]
set_option maxHeartbeats 4000000 in
theorem read_blk (g hl o n cap : Nat) (s ss pr b : Int) (lo : Bool) (d : ByteArray) (T : Nat) (pl sl : Value) (hn : 0 < n) (hnc : n ≤ cap) (hcm : cap ≤ 9223372036854775807) (hbr : b = (d.size : Int) + (T : Int)) (hbm : T ≤ 100000) (hdm : d.size ≤ 100000) (hslW : sl = Value.slice (if cap = 1 then some ⟨hl, o, none⟩ else some ⟨hl, o + 5, none⟩) (n - 1) (cap - 1)) (w : World) (B : Blk w g 199 #[pl, .slice (some ⟨hl, o, none⟩) n cap, .int .i64 b]) (C : Cel w hl o (ms s ss lo pr d)) (hne : hl ≠ g) :
    Calls Try.prog 51 #[.pointer (some ⟨g, 0, none⟩)] w fun e w' => e = .returned (.tuple #[.agg (ms s ss lo pr d), .bool true]) ∧ Blk w' g 199 #[pl, sl, .int .i64 T] ∧ (∀ h', h' ≠ g → h' < w.heap.size → w'.heap[h']? = w.heap[h']?) ∧ Below g w w' := by
  have HSL := Lib.hid hslW
  have HBR := Lib.hid hbr
  clear hslW hbr
  have B1 := B.alloc (.cells (ms 0 0 false 0 ⟨#[]⟩) 30)
  have C1 := C.alloc (.cells (ms 0 0 false 0 ⟨#[]⟩) 30)
  have R1 := Blk.new w 30 (ms 0 0 false 0 ⟨#[]⟩)
  have hgl := B.lt
  have hhl := C.lt
  have bel1 := (Below.refl g w).alloc (by omega) (.cells (ms 0 0 false 0 ⟨#[]⟩) 30)
  have k1 : ∀ h', h' ≠ g → h' < w.heap.size → (w.alloc (.cells (ms 0 0 false 0 ⟨#[]⟩) 30)).heap[h']? = w.heap[h']? := fun h' hh hl' => Below.heap_alloc w _ h' hl'
  have K1 := Lib.hid k1
  clear k1
  have hs1 : w.heap.size < (w.alloc (.cells (ms 0 0 false 0 ⟨#[]⟩) 30)).heap.size := by simp
  have szX : (Try.prog.info? 30).map (·.size) = some (ms s ss lo pr d).size := szM
  have szX' : (Try.prog.info? 30).map (·.size) = some (#[.int .i64 s, .int .i64 ss, .bool lo, .int .u32 pr, .string d] : Array Value).size := szM
  go_enter Try.func51, Try.ntmps51
  go_wp2_with fail
  rw [show w.alloc (.cells #[.int .i64 0, .int .i64 0, .bool false, .int .u32 0, .string ⟨#[]⟩] 30) = w.alloc (.cells (ms 0 0 false 0 ⟨#[]⟩) 30) from rfl]
  generalize w.alloc (.cells (ms 0 0 false 0 ⟨#[]⟩) 30) = w1 at *
  have c1 : w1.cell? ⟨g, 1, none⟩ = some (.slice (some ⟨hl, o, none⟩) n cap) := B1.cell 1
  refine (ready_of g _ n cap _ c1).mono ?_
  rintro e w2 ⟨rfl, rfl⟩
  have hz : ((n : Int) == 0) = false := by simp; omega
  have L1 : Cel w2 hl o #[.int .i64 s, .int .i64 ss, .bool lo, .int .u32 pr, .string d] := C1
  have hn0 : (0 : Int) < (n : Int) := by omega
  go_upto_region 4 with (refine wpList_load_at rfl 30 _ rfl hl o rfl #[.int .i64 s, .int .i64 ss, .bool lo, .int .u32 pr, .string d] _ L1 Try.underlying30 rfl szX' ?_)
  have B3 := B1.alloc (.cells #[.int .i64 s, .int .i64 ss, .bool lo, .int .u32 pr, .string d] 30)
  have R3 := R1.alloc (.cells #[.int .i64 s, .int .i64 ss, .bool lo, .int .u32 pr, .string d] 30)
  have V3 := Blk.new w2 30 #[.int .i64 s, .int .i64 ss, .bool lo, .int .u32 pr, .string d]
  have bel3 := bel1.alloc (by have := B1.lt; omega) (.cells #[.int .i64 s, .int .i64 ss, .bool lo, .int .u32 pr, .string d] 30)
  have k3 : ∀ h', h' ≠ g → h' < w.heap.size → (w2.alloc (.cells #[.int .i64 s, .int .i64 ss, .bool lo, .int .u32 pr, .string d] 30)).heap[h']? = w.heap[h']? := fun h' hh hl' => (Below.heap_alloc w2 _ h' (by omega)).trans (K1.out h' hh hl')
  have K3 := Lib.hid k3
  clear B1 R1 C1 L1 bel1 c1 K1 k3
  have hws : w.heap.size ≠ w2.heap.size := by omega
  have hgs : g ≠ w2.heap.size := by omega
  generalize w2.alloc (.cells #[.int .i64 s, .int .i64 ss, .bool lo, .int .u32 pr, .string d] 30) = w3 at *
  have c1 : w3.cell? ⟨g, 1, none⟩ = some (.slice (some ⟨hl, o, none⟩) n cap) := B3.cell 1
  have f1 : w3.frozen? ⟨g, 1, none⟩ = false := B3.frozen 1
  have hn1 : 1 ≤ n := hn
  have hc1 : 1 ≤ cap := by omega
  go_upto_region 5 with (fail)
  rw [← HSL.out]
  have hwg : w.heap.size ≠ g := by omega
  have B4 : Blk (w3.setCell ⟨g, 1, none⟩ sl) g 199 #[pl, sl, .int .i64 b] := B3.set_ 1 sl
  have R4 : Blk (w3.setCell ⟨g, 1, none⟩ sl) w.heap.size 30 (ms 0 0 false 0 ⟨#[]⟩) := R3.far (p := ⟨g, 1, none⟩) hwg _
  have V4 : Blk (w3.setCell ⟨g, 1, none⟩ sl) w2.heap.size 30 #[.int .i64 s, .int .i64 ss, .bool lo, .int .u32 pr, .string d] := V3.far (p := ⟨g, 1, none⟩) (Ne.symm hgs) _
  have bel4 : Below g w (w3.setCell ⟨g, 1, none⟩ sl) := bel3.setCell (p := ⟨g, 1, none⟩) (Nat.le_refl _) _
  have k4 : ∀ h', h' ≠ g → h' < w.heap.size → (w3.setCell ⟨g, 1, none⟩ sl).heap[h']? = w.heap[h']? := fun h' hh hl' => (Below.heap_setCell w3 ⟨g, 1, none⟩ _ h' hh).trans (K3.out h' hh hl')
  have K4 := Lib.hid k4
  clear B3 R3 V3 bel3 c1 f1 K3 k4
  generalize (w3.setCell ⟨g, 1, none⟩ sl) = w4 at *
  have c2 : w4.cell? ⟨g, 2, none⟩ = some (.int .i64 b) := B4.cell 2
  have f2 : w4.frozen? ⟨g, 2, none⟩ = false := B4.frozen 2
  have v4 : w4.cell? ⟨w2.heap.size, 4, none⟩ = some (.string d) := V4.cell 4
  have hbw : IntKind.i64.wrap (b - (d.size : Int)) = (T : Int) := by rw [HBR.out, IntWalk.i64_in _ (by omega)]; omega
  have hbw2 : b - (d.size : Int) = (T : Int) := by rw [HBR.out]; omega
  go_region
  try rw [hbw2]
  clear hbw
  go_upto_region 6 with (fail)
  have B5 : Blk ((w4.setCell ⟨g, 2, none⟩ (.int .i64 (T : Int))).drew) g 199 #[pl, sl, .int .i64 (T : Int)] := (B4.set_ 2 _).drew
  have R5 : Blk ((w4.setCell ⟨g, 2, none⟩ (.int .i64 (T : Int))).drew) w.heap.size 30 (ms 0 0 false 0 ⟨#[]⟩) := (R4.far (p := ⟨g, 2, none⟩) hwg _).drew
  have V5 : Blk ((w4.setCell ⟨g, 2, none⟩ (.int .i64 (T : Int))).drew) w2.heap.size 30 #[.int .i64 s, .int .i64 ss, .bool lo, .int .u32 pr, .string d] := (V4.far (p := ⟨g, 2, none⟩) (Ne.symm hgs) _).drew
  have bel5 : Below g w ((w4.setCell ⟨g, 2, none⟩ (.int .i64 (T : Int))).drew) := (bel4.setCell (p := ⟨g, 2, none⟩) (Nat.le_refl _) _).drew
  have k5 : ∀ h', h' ≠ g → h' < w.heap.size → ((w4.setCell ⟨g, 2, none⟩ (.int .i64 (T : Int))).drew).heap[h']? = w.heap[h']? := fun h' hh hl' => (Below.heap_setCell w4 ⟨g, 2, none⟩ _ h' hh).trans (K4.out h' hh hl')
  have K5 := Lib.hid k5
  clear B4 R4 V4 bel4 c2 f2 v4 K4 k5
  generalize ((w4.setCell ⟨g, 2, none⟩ (.int .i64 (T : Int))).drew) = w5 at *
  have RC := Cel.of_blk R5
  have B6 : Blk (w5.setCells w.heap.size 0 [.int .i64 s, .int .i64 ss, .bool lo, .int .u32 pr, .string d]) g 199 #[pl, sl, .int .i64 (T : Int)] := blk_setCells B5 (Ne.symm hwg) _ _
  have R6 : Cel (w5.setCells w.heap.size 0 [.int .i64 s, .int .i64 ss, .bool lo, .int .u32 pr, .string d]) w.heap.size 0 (ms s ss lo pr d) := RC.setCells_same [.int .i64 s, .int .i64 ss, .bool lo, .int .u32 pr, .string d] rfl
  have bel6 : Below g w (w5.setCells w.heap.size 0 [.int .i64 s, .int .i64 ss, .bool lo, .int .u32 pr, .string d]) := below_setCells bel5 (by omega) _ _
  have k6 : ∀ h', h' ≠ g → h' < w.heap.size → (w5.setCells w.heap.size 0 [.int .i64 s, .int .i64 ss, .bool lo, .int .u32 pr, .string d]).heap[h']? = w.heap[h']? := fun h' hh hl' => (heap_setCells' (show h' ≠ w.heap.size by omega) _ _ _).trans (K5.out h' hh hl')
  have K6 := Lib.hid k6
  have HB6 := Lib.hid B6
  clear B6 B5 bel5 K5 k6
  go_wp2_with (first | (refine wpList_load_at rfl 30 _ rfl w2.heap.size 0 rfl #[.int .i64 s, .int .i64 ss, .bool lo, .int .u32 pr, .string d] _ (Cel.of_blk V5) Try.underlying30 rfl szX' ?_) | (refine wpList_store_at rfl 30 _ _ rfl w.heap.size 0 #[.int .i64 s, .int .i64 ss, .bool lo, .int .u32 pr, .string d] rfl rfl _ RC szX' rfl (by kernel_rfl) ?_))
  refine bodyPost_ret (v := .tuple #[.agg (ms s ss lo pr d), .bool true]) ?_ rfl ⟨rfl, HB6.out, K6.out, bel6⟩
  rw [results_cell_tmp rfl]
  have h := run_loadVar_at (P := Try.prog) 30 _ R6 Try.underlying30 rfl szX
  simp [asAddr, h]
/-- The first one is read. -/
theorem dv_read {b0 g : Nat} {b : Nat} {sv rv : Value} {Z : List (Nat × Nat)} {W r : List Mg} {x : Mg} {w : World} (h : Dw b0 g sv rv (x.d.size + b) Z W (x :: r) w) (hb : b ≤ 100000) (hd : x.d.size ≤ 100000) : Calls Try.prog 51 #[.pointer (some ⟨g, 0, none⟩)] w fun e w' => e = .returned (.tuple #[.agg (mgc x), .bool true]) ∧ (∃ rv', Dw b0 g sv rv' b Z W r w' ∧ Keep g sv rv Z rv' w w') ∧ Below b0 w w' := by
  obtain ⟨gc, off, cap, hv, h1, h2, h3, h4, hbr, h6⟩ := h.r.show_ (by simp)
  have K := h6 0 (mgc x) (by simp) (Nat.le_refl 5) (cellsM_get (by rfl))
  rw [Nat.zero_mul, Nat.add_zero] at K
  have hc := h.r
  rw [hv] at hc
  obtain ⟨q1, hbv⟩ := qo_tail2 hc (by simp)
  rw [cellsM_drop] at q1
  obtain ⟨v1, hv1⟩ : ∃ v1, v1 = Value.slice (if cap = 1 then some ⟨gc, off, none⟩ else some ⟨gc, off + 5, none⟩) ((x :: r).length - 1) (cap - 1) := ⟨_, rfl⟩
  rw [← hv1] at q1 hbv
  have q1' : Qo w b0 5 v1 r.length (cellsM r) := q1
  have hgc : gc ≠ g := fun e => h.nr (by rw [hbr, e])
  have B := h.B
  rw [hv] at B
  unfold maxLen at h2
  refine (read_blk g gc off (r.length + 1) cap x.st x.ss x.pr _ x.lo x.d b sv v1 (by omega) h1 h2 (by omega) (by omega) (by omega) hv1 w B K hgc).mono ?_
  rintro e w' ⟨rfl, B', hf, hb'⟩
  have hbk : ∀ k, blkOf v1 = some k → blkOf rv = some k := fun k hk => by
    rcases hbv with e | e
    · rw [hbr, ← hk, e]
    · rw [e] at hk; cases hk
  have hs := hb'.size
  refine ⟨rfl, ⟨v1, ⟨B', h.s.block hs fun k hk => hf k (fun e => h.ns (e ▸ hk)) (h.s.lt hk).2, q1'.block hs fun k hk => hf k (fun e => h.nr (e ▸ hbk k hk)) (h.r.lt (hbk k hk)).2, fun k z hz => ?_, h.mi, h.ns, fun e => h.nr (hbk g e), fun k hk e => h.sr k hk (hbk k e), fun z hz => ⟨(h.mg z hz).1, (h.mg z hz).2.1, fun e => (h.mg z hz).2.2 (hbk z.2 e)⟩, h.hg, h.zl, h.sw⟩, ⟨hs, fun i hi hn => hf i (fun e => hn (.inl e)) hi, fun i hi => .inl (hbk i hi)⟩⟩, hb'.mono h.hg⟩
  obtain ⟨m1, es, c, M, E⟩ := h.m k z hz
  exact ⟨m1, es, c, M.block (hf z.2 (h.mg z (List.mem_of_getElem? hz)).1 M.lt), E⟩
end Go.Proofs.Ythddacgdmngfhaa.del
