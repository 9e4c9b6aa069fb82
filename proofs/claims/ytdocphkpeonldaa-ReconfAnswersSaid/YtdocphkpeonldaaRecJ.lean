/- Layer 28: a request is answered. -/
import Derived.Test.YtdocphkpeonldaaRecH
import Derived.Test.YtdocphkpeonldaaRecE
namespace Go.Proofs.Ytdocphkpeonldaa.rec_
open Go.Sort (grow)
open Go.ChangeShapes Go.WideShapes Go.ChangeAt Go.RowKit kit oct
set_option maxRecDepth 100000

theorem results_tmp_cell_tmp_at {P : Program} {fn : Func} {p u v : Tmp} {ty : TypeId} (hr : fn.results = #[.tmp u, .cell p ty, .tmp v]) (tmps : Array Value) (w : World) (h o : Nat) (cs : Array Value) (d : TypeDesc)
    (hp : tmps.getD p undef = .pointer (some ⟨h, o, none⟩)) (C : Cel w h o cs)
    (hu : P.underlying ty = some d) (hd : (match d with | .struct _ | .array _ _ => true | _ => false) = true) (hi : (P.info? ty).map (·.size) = some cs.size) :
    (results fn tmps).run P w = .ok (.tuple #[tmps.getD u undef, .agg cs, tmps.getD v undef]) w := by
  have hp' : tmps[p]?.getD undef = .pointer (some ⟨h, o, none⟩) := by simpa using hp
  simp [results, hr, hp', asAddr, run_loadVar_at ty d C hu hd hi]
set_option maxHeartbeats 2000000 in
theorem asked_one (b0 g h : Nat) (w : World) (B : Blk w g 149 (st 9 5 0 0 0)) (G : Blk w h 23 #[.int .i64 17, .string (mS 5 3)]) (hg : b0 ≤ g) :
    Calls Try.prog 30 #[.pointer (some ⟨g, 0, none⟩), .agg (cc 130 5 h), .int .i64 4] w fun e w' => ∃ k cap, e = .returned (.tuple #[.int .i64 3, .agg (cd 130 5 k cap), .bool true]) ∧ w.heap.size ≤ k ∧ 1 ≤ cap ∧ cap ≤ maxLen ∧ Cel w' k 0 #[.int .i64 16, .string (rS 5 1)] ∧ Keep w.heap.size g w w' ∧ Below b0 w w' := by
  have hgw := B.lt
  have S1 := ((Blk.new w 34 #[.pointer (some ⟨g, 0, none⟩)]).alloc (.cells (cc 130 5 h) 43)).alloc (.cells c0 43)
  have X1 := (blk_new2 w (.cells #[.pointer (some ⟨g, 0, none⟩)] 34) 43 (cc 130 5 h)).alloc (.cells c0 43)
  have R1 : Blk (((w.alloc (.cells #[.pointer (some ⟨g, 0, none⟩)] 34)).alloc (.cells (cc 130 5 h) 43)).alloc (.cells c0 43)) (w.heap.size + 1 + 1) 43 c0 := by
    have := blk_new2 (w.alloc (.cells #[.pointer (some ⟨g, 0, none⟩)] 34)) (.cells (cc 130 5 h) 43) 43 c0
    simpa using this
  have B1 := ((B.alloc (.cells #[.pointer (some ⟨g, 0, none⟩)] 34)).alloc (.cells (cc 130 5 h) 43)).alloc (.cells c0 43)
  have G1 := ((G.alloc (.cells #[.pointer (some ⟨g, 0, none⟩)] 34)).alloc (.cells (cc 130 5 h) 43)).alloc (.cells c0 43)
  have k1 := (((Keep.refl w.heap.size g w).alloc (Nat.le_refl _) (.cells #[.pointer (some ⟨g, 0, none⟩)] 34)).alloc (by simp) (.cells (cc 130 5 h) 43)).alloc (by simp; omega) (.cells c0 43)
  have bel1 := (((Below.refl b0 w).alloc (by omega) (.cells #[.pointer (some ⟨g, 0, none⟩)] 34)).alloc (by simp; omega) (.cells (cc 130 5 h) 43)).alloc (by simp; omega) (.cells c0 43)
  go_enter Try.func30, Try.ntmps30
  go_upto_region 1 with (fail)
  rw [show ((w.alloc (.cells #[.pointer (some ⟨g, 0, none⟩)] 34)).alloc (.cells (cc 130 5 h) 43)).alloc (.cells #[.int .i64 0, .int .i64 0, .int .u32 0, .int .i64 0, .int .i64 0, .int .u32 0, .string ⟨#[]⟩, .int .u32 0, .int .u32 0, .int .i64 0, .int .i64 0, .slice none 0 0, .slice none 0 0, .slice none 0 0, .slice none 0 0] 43) = ((w.alloc (.cells #[.pointer (some ⟨g, 0, none⟩)] 34)).alloc (.cells (cc 130 5 h) 43)).alloc (.cells c0 43) from rfl]
  clear B G
  generalize ((w.alloc (.cells #[.pointer (some ⟨g, 0, none⟩)] 34)).alloc (.cells (cc 130 5 h) 43)).alloc (.cells c0 43) = w1 at *
  generalize hrq : w.heap.size + 1 + 1 = r at *
  generalize hbcq : w.heap.size + 1 = bc at *
  generalize hbsq : w.heap.size = bs at *
  have hr1 := R1.lt
  go_wp2_with (refine wpList_load_at rfl 43 _ rfl bc 0 rfl (cc 130 5 h) _ (Cel.of_blk X1) Try.underlying43 rfl (szC _ _ _) ?_)
  refine (requested_one h _ G1).mono ?_
  rintro e w2 ⟨rfl, hb2⟩
  have S2 := S1.below hb2 S1.lt
  have X2 := X1.below hb2 X1.lt
  have R2 := R1.below hb2 R1.lt
  have B2 := B1.below hb2 B1.lt
  have k2 := k1.below hb2 (by omega)
  have bel2 := bel1.trans (hb2.mono (by omega))
  have hr2 := R2.lt
  clear S1 X1 R1 B1 G1 k1 bel1 hb2
  have s0 : w2.cell? ⟨bs, 0, none⟩ = some (.pointer (some ⟨g, 0, none⟩)) := S2.cell 0
  have x2 : w2.cell? ⟨bc, 2, none⟩ = some (.int .u32 5) := X2.cell 2
  have d1 : w2.cell? ⟨g, 1, none⟩ = some (.int .u32 5) := B2.cell 1
  go_wp2_with fail
  go_region
  go_upto_region 7 with (fail)
  have e0 : w2.drew.cell? ⟨bs, 0, none⟩ = some (.pointer (some ⟨g, 0, none⟩)) := S2.drew.cell 0
  have e2 : w2.drew.cell? ⟨bc, 2, none⟩ = some (.int .u32 5) := X2.drew.cell 2
  have e1 : w2.drew.cell? ⟨g, 1, none⟩ = some (.int .u32 5) := B2.drew.cell 1
  go_region
  go_upto_region 8 with (fail)
  clear s0 x2 d1 e0 e1 e2
  go_wp2_with fail
  refine (answered_one b0 g bs bc h _ B2.drew.drew S2.drew.drew X2.drew.drew (by omega) (by omega) hg).mono ?_
  rintro e w3 ⟨k, cap, rfl, hk, hp1, hp2, K3, k3, bl3⟩
  have hk' : w2.heap.size ≤ k := hk
  have R3 : Blk w3 r 43 c0 := k3.blk R2.drew.drew hr2 (by omega)
  have hsz : ∀ j, j < bs → j ≠ g → w3.heap[j]? = w.heap[j]? := fun j hj hjg => (k3.block j (Nat.lt_trans hj (by show bs < w2.heap.size; omega)) hjg).trans (k2.block j hj hjg)
  have bel3 := (bel2.drew.drew).trans bl3
  have hkr : k ≠ r := by omega
  have Z := (Cel.of_blk R3).setCells_same (cd 130 5 k cap).toList rfl
  have K4 := K3.setCells_far hkr 0 (cd 130 5 k cap).toList
  have k4 := (Keep.mk hsz).setR (r := r) (by omega) 0 (cd 130 5 k cap).toList
  have bel4 := below_setCells bel3 (show b0 ≤ r by omega) 0 (cd 130 5 k cap).toList
  go_wp2_with (refine wpList_store_at rfl 43 _ _ rfl r 0 (cd 130 5 k cap) rfl rfl c0 (Cel.of_blk R3) (szD _ _ _ _) rfl (cd_one _ _ _ _) ?_)
  exact bodyPost_ret (v := .tuple #[.int .i64 3, .agg (cd 130 5 k cap), .bool true]) ((results_tmp_cell_tmp_at rfl _ _ r 0 (cd 130 5 k cap) _ rfl (Z.congr rfl) Try.underlying43 rfl (szD _ _ _ _)).trans rfl) rfl ⟨k, cap, rfl, by omega, hp1, hp2, K4, by rw [hbsq]; exact k4, bel4⟩
end Go.Proofs.Ytdocphkpeonldaa.rec_
