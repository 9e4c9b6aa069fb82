/- Layer 5: causes one behind the other are read again. -/
import Derived.Test.YtlpklnjnfeodaaaCauS
namespace Go.Proofs.Ytlpklnjnfeodaaa.par
open Go.ChangeShapes Go.WideShapes Go.ChangeAt Go.RowKit kit oct bld
set_option maxRecDepth 100000

theorem own_mono {w : World} {B B' e : Nat} {v : Value} {n : Nat} {xs : List Value} (h : w.ownsRow B e 2 v n xs) (hB : B' ≤ B) : w.ownsRow B' e 2 v n xs := by
  refine ⟨h.1, ?_⟩
  rcases h.2 with h2 | ⟨g, cap, cur, rfl, hb, rest⟩
  · exact .inl h2
  · exact .inr ⟨g, cap, cur, rfl, Nat.le_trans hB hb, rest⟩

/-- What cause.All comes to. -/
def CAllPost (w : World) (ps : List (Int × ByteArray)) (e : Ending) (w' : World) : Prop :=
  ∃ v, e = .returned (.tuple #[v, .int .i64 0]) ∧ w'.ownsRow w.heap.size 59 2 v ps.length (cellsP ps) ∧ Below w.heap.size w w'

set_option maxHeartbeats 2000000 in
theorem call_list (ps : List (Int × ByteArray)) (w : World) (hk : ps.length ≤ 16) (hm : ∀ p, p ∈ ps → mayP p.1 p.2 = true) :
    Calls Try.prog 32 #[.string (cat ps)] w (CAllPost w ps) := by
  obtain ⟨i0, hi, hz0, hz1, hz2⟩ := info_parts info59
  have hfin : ∀ v w', w'.ownsRow w.heap.size 59 2 v ps.length (cellsP ps) → Below w.heap.size w w' → CAllPost w ps (.returned (.tuple #[v, .int .i64 0])) w' := fun v w' h1 h2 => ⟨v, rfl, h1, h2⟩
  have hA := fun w => all_list ps w hk hm
  have HF := Lib.hid hfin
  clear hm hfin
  generalize cat ps = S at *
  go_enter Try.func32, Try.ntmps32
  go_wp2_with fail
  refine (hA _).mono ?_
  rintro e w1 ⟨v, rfl, hown, hb1⟩
  rcases own_rowL hown with ⟨rfl, rfl⟩ | ⟨g, cap, rfl, hg1, hg2, hc, hcm, hr⟩
  · clear hA hown
    go_wp2_with fail
    refine wp_loop_rounds 1 ?_
    rw [rounds_succ]
    go_wp2_with fail
    go_ret2
    exact HF.out _ _ (World.ownsRow_nil _ _ _ _) hb1
  · unfold maxLen at hcm
    have HR := Lib.hid hr
    clear hA hown hr
    go_wp2_with fail
    go_loopw [6, 16] (fun sl si wr => ∃ (ds qs : List (Int × ByteArray)) (v : Value), ps = ds ++ qs ∧ si = .int .i64 (ds.length : Nat) ∧ v = sl ∧ wr.ownsRow w1.heap.size 59 2 v ds.length (cellsP ds) ∧ Below w1.heap.size w1 wr) (fun _ si _ => ps.length - (intOf si).toNat)
    case atStart => exact ⟨[], ps, _, rfl, rfl, rfl, World.ownsRow_nil _ _ _ _, Below.refl _ _⟩
    case round =>
      obtain ⟨ds, qs, v, hps, rfl, rfl, hown, bel⟩ := hrel
      have hlen : ds.length + qs.length = ps.length := by rw [hps]; simp
      have HP := Lib.hid hps
      have HO := Lib.hid hown
      clear hps hown
      cases qs with
      | nil =>
        have hd : ds.length = ps.length := by simpa using hlen
        have hq := HP.out
        simp only [List.append_nil] at hq
        have hO := HO.out
        rw [← hq] at hO
        have HO2 := Lib.hid hO
        clear HP HO HR hlen hq hO
        generalize ps.length = n at *
        rw [hd]
        go_wp2_with fail
        go_ret2
        exact HF.out _ _ (own_mono HO2.out hb1.size) (hb1.trans (bel.mono hb1.size))
      | cons p qs =>
        obtain ⟨c0, c1⟩ := (HR.out.below bel (fun _ => hg2)).2 ds p qs HP.out
        rw [add_zero'] at c0 c1
        dsimp only at c1
        have hlt : ds.length < ps.length := by simp at hlen; omega
        have hB : w1.heap.size ≤ wr.heap.size := bel.size
        have N1 := Blk.new wr 23 #[.int .i64 p.1, .string p.2]
        have C1 := fun i => N1.cell i
        have bel1 := bel.alloc hB (.cells #[.int .i64 p.1, .string p.2] 23)
        have own1 := HO.out.alloc (.cells #[.int .i64 p.1, .string p.2] 23)
        have hps : ps = (ds ++ [p]) ++ qs := by rw [HP.out]; simp
        have hlen1 : (ds ++ [p]).length = ds.length + 1 := by simp
        have HP1 := Lib.hid hps
        have HL1 := Lib.hid hlen1
        have HLen := Lib.hid hlen
        have HO1 := Lib.hid own1
        have h63 : ds.length + 1 ≤ maxLen := by unfold maxLen; omega
        clear HO HP hps hlen1 own1 hlen
        go_upto_region 6 with fail
        generalize wr.alloc (.cells #[.int .i64 p.1, .string p.2] 23) = w2 at *
        have own2 := HO1.out
        go_wp2_with (at_builtin; refine wpList_append_own _ rfl _ _ 57 rfl w1.heap.size 59 i0 (.agg #[.int .i64 0, .string ByteArray.empty]) 2 24 Try.underlying57 hi hz0 hz1 hz2 rfl (by decide) v ds.length (cellsP ds) rfl (own2.alloc _) ⟨w2.heap.size, 0, none⟩ 1 1 [.int .i64 p.1, .string p.2] rfl rfl (cell_two_new _ _ _ _) (by intro u hu; simp at hu; rcases hu with rfl | rfl <;> rfl) h63 (by omega) (by simp; have := bel1.size; omega) ?_; intro v' w8 hown8 hgrow hnil)
        have bel8 := (bel1.alloc bel1.size (.cells #[.int .i64 p.1, .string p.2] 59)).grown hgrow (by simp; have := bel1.size; omega) (fun k hk => (own2.lt k hk).1)
        have own9 : w8.ownsRow w1.heap.size 59 2 v' (ds ++ [p]).length (cellsP (ds ++ [p])) := by rw [HL1.out, cellsP_snoc]; exact hown8
        have HO9 := Lib.hid own9
        clear own9 hown8 hgrow hnil own2 HO1
        go_wp2_with fail
        go_roundw
        case rel => exact ⟨ds ++ [p], qs, v', HP1.out, by rw [HL1.out]; go_num, rfl, HO9.out, bel8⟩
        case measure => have := HLen.out; simp at this; simp [intOf]; omega

end Go.Proofs.Ytlpklnjnfeodaaa.par
