/- Layer 5: causes one behind the other, to bytes and back. -/
import Derived.Test.YtlpklnjnfeodaaaBldP
import Derived.Test.YtlpklnjnfeodaaaCau
namespace Go.Proofs.Ytlpklnjnfeodaaa.par
open Go.ChangeShapes Go.WideShapes Go.ChangeAt Go.RowKit kit oct bld
set_option maxRecDepth 100000

theorem putAll_nil (w : World) :
    Calls Try.prog 62 #[.slice none 0 0] w fun e w' => e = .returned (.string (cat [])) ∧ Below w.heap.size w w' := by
  have hS := IsB_string w.heap.size w.heap.size ByteArray.empty _ (Lib.fresh_isBuilder 121 5 w) (by simp)
  have e0 : cat [] = ByteArray.empty := rfl
  rw [e0]
  go_enter Try.func62, Try.ntmps62
  go_wp2_with fail
  refine wp_loop_rounds 1 ?_
  rw [rounds_succ]
  go_wp2_with (go_at_call 78; refine hS.mono ?_; rintro e w2 ⟨rfl, hb2⟩)
  go_ret
  exact ⟨rfl, ((Below.refl _ _).alloc (Nat.le_refl _) _).trans hb2⟩
theorem putAll_own (B : Nat) (v : Value) (ps : List (Int × ByteArray)) (w : World) (hn : ps.length ≤ 16) (h : w.ownsRow B 23 2 v ps.length (cellsP ps)) :
    Calls Try.prog 62 #[v] w fun e w' => e = .returned (.string (cat ps)) ∧ Below w.heap.size w w' := by
  rcases own_rowL h with ⟨rfl, rfl⟩ | ⟨g, cap, rfl, _, _, h3, h4, h5⟩
  · exact putAll_nil w
  · exact putAll_row _ cap ps w hn h3 h4 h5

theorem info59 : (Try.prog.info? 59).map (fun i => (i.zero, i.size, i.bytes)) = some (some (.agg #[.int .i64 0, .string ByteArray.empty]), 2, 24) := by kernel_rfl
theorem asP_call (p : Int × ByteArray) (w : World) : Calls Try.prog 61 #[.agg #[.int .i64 p.1, .string p.2]] w fun e w' => e = .returned (.agg #[.int .i64 p.1, .string p.2]) ∧ Below w.heap.size w w' := asParam_any p.1 p.2 w

set_option maxHeartbeats 2000000 in
theorem cputAll_row (a : Addr) (cap : Nat) (ps : List (Int × ByteArray)) (w : World) (hn : ps.length ≤ 16) (hc : ps.length ≤ cap) (hcm : cap ≤ maxLen) (hr : RowL w a ps) :
    Calls Try.prog 31 #[.slice (some a) ps.length cap] w fun e w' => e = .returned (.string (cat ps)) ∧ Below w.heap.size w w' := by
  unfold maxLen at hcm
  obtain ⟨i0, hi, hz0, hz1, hz2⟩ := info_parts info23
  have HR := Lib.hid hr
  clear hr
  go_enter Try.func31, Try.ntmps31
  go_wp2_with fail
  go_loopw [3, 8] (fun sl si wr => ∃ (ds qs : List (Int × ByteArray)) (v : Value), ps = ds ++ qs ∧ si = .int .i64 (ds.length : Nat) ∧ v = sl ∧ wr.ownsRow w.heap.size 23 2 v ds.length (cellsP ds) ∧ Below w.heap.size w wr) (fun _ si _ => ps.length - (intOf si).toNat)
  case atStart => exact ⟨[], ps, _, rfl, rfl, rfl, World.ownsRow_nil _ _ _ _, Below.refl _ _⟩
  case round =>
    obtain ⟨ds, qs, v, hps, rfl, rfl, hown, bel⟩ := hrel
    have hlen : ds.length + qs.length = ps.length := by rw [hps]; simp
    have HP := Lib.hid hps
    have HO := Lib.hid hown
    clear hps hown
    cases qs with
    | nil =>
      have hd : ds.length = ps.length := by simpa using hlen
      have hq := HP.out
      simp only [List.append_nil] at hq
      have hO := HO.out
      rw [← hq] at hO
      have hS := putAll_own w.heap.size v ps wr hn hO
      obtain ⟨S, hSe⟩ : ∃ S, S = cat ps := ⟨_, rfl⟩
      rw [← hSe] at hS
      have HE := Lib.hid hSe
      clear HP HO HR hlen hq hO hSe
      generalize ps.length = n at *
      rw [hd]
      go_wp2_with (go_at_call 62; refine hS.mono ?_; rintro e w2 ⟨rfl, hb2⟩)
      go_ret
      exact ⟨congrArg (fun s => Ending.returned (.string s)) HE.out, bel.trans (hb2.mono bel.size)⟩
    | cons p qs =>
      obtain ⟨c0, c1⟩ := (HR.out.below bel HR.out.1).2 ds p qs HP.out
      have hlt : ds.length < ps.length := by simp at hlen; omega
      have hB : w.heap.size ≤ wr.heap.size := bel.size
      have N1 := Blk.new wr 59 #[.int .i64 p.1, .string p.2]
      have C1 := fun i => N1.cell i
      have bel1 := bel.alloc hB (.cells #[.int .i64 p.1, .string p.2] 59)
      have own1 := HO.out.alloc (.cells #[.int .i64 p.1, .string p.2] 59)
      have hps : ps = (ds ++ [p]) ++ qs := by rw [HP.out]; simp
      have hlen1 : (ds ++ [p]).length = ds.length + 1 := by simp
      have HP1 := Lib.hid hps
      have HL1 := Lib.hid hlen1
      have HLen := Lib.hid hlen
      have HO1 := Lib.hid own1
      have hAs := asP_call p
      clear HO HP hps hlen1 own1 hlen
      go_wp2_with fail
      generalize wr.alloc (.cells #[.int .i64 p.1, .string p.2] 59) = w1 at *
      refine (hAs _).mono ?_
      rintro e w2 ⟨rfl, hb2⟩
      have bel2 := bel1.trans (hb2.mono bel1.size)
      have own2 := HO1.out.kept (below_grown hb2) (by cases v.ownBlock <;> simp)
      have h63 : ds.length + 1 ≤ maxLen := by unfold maxLen; omega
      clear HO1 N1 C1 hAs
      go_wp2_with (at_builtin; refine wpList_append_own _ rfl _ _ 25 rfl w.heap.size 23 i0 (.agg #[.int .i64 0, .string ByteArray.empty]) 2 24 Try.underlying25 hi hz0 hz1 hz2 rfl (by decide) v ds.length (cellsP ds) rfl (own2.alloc _) ⟨w2.heap.size, 0, none⟩ 1 1 [.int .i64 p.1, .string p.2] rfl rfl (cell_two_new _ _ _ _) (by intro u hu; simp at hu; rcases hu with rfl | rfl <;> rfl) h63 (by omega) (by simp; have := bel2.size; omega) ?_; intro v' w8 hown8 hgrow hnil)
      have bel8 := (bel2.alloc bel2.size (.cells #[.int .i64 p.1, .string p.2] 23)).grown hgrow (by simp; have := bel2.size; omega) (fun k hk => (own2.lt k hk).1)
      have own9 : w8.ownsRow w.heap.size 23 2 v' (ds ++ [p]).length (cellsP (ds ++ [p])) := by rw [HL1.out, cellsP_snoc]; exact hown8
      have HO9 := Lib.hid own9
      clear own9 hown8 hgrow hnil own2
      go_wp2_with fail
      go_roundw
      case rel => exact ⟨ds ++ [p], qs, v', HP1.out, by rw [HL1.out]; go_num, rfl, HO9.out, bel8⟩
      case measure => have := HLen.out; simp at this; simp [intOf]; omega
end Go.Proofs.Ytlpklnjnfeodaaa.par
