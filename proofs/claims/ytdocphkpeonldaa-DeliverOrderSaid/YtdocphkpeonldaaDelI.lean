/- Layer 18: messages of one stream that come in whatever order are read in order, each once; the statement walked. -/
import Derived.Test.YtdocphkpeonldaaDelH
namespace Go.Proofs.Ytdocphkpeonldaa.del
open Go.Sort (grow)
open Go.ChangeShapes Go.WideShapes Go.ChangeAt Go.RowKit kit
set_option maxRecDepth 100000

/-- Which numbers came, as the statement keeps it. -/
def bl (f : Nat → Bool) : Array Value := ⟨(List.range 70).map fun j => .bool (f j)⟩
theorem bl_at (f : Nat → Bool) {j : Nat} (h : j < 70) : (bl f)[j]? = some (.bool (f j)) := by simp [bl, h]
theorem bl_set (f : Nat → Bool) {n : Nat} (_ : n < 70) : (bl f).setIfInBounds n (.bool true) = bl (fun k => if k = n then true else f k) := by
  apply Array.ext_getElem?
  intro i
  by_cases hi : i < 70
  · rw [bl_at _ hi]
    by_cases e : n = i
    · subst e
      rw [Array.getElem?_setIfInBounds_self_of_lt (by simp [bl]; omega), if_pos rfl]
    · rw [Array.getElem?_setIfInBounds_ne e, bl_at _ hi, if_neg (fun q => e q.symm)]
  · rw [Array.getElem?_eq_none (by simp [bl]; omega), Array.getElem?_eq_none (by simp [bl]; omega)]
theorem mk70 (w : World) : (Instr.makeSlice 125 (.int .i64 70) (.int .i64 70)).run Try.prog w = .ok (.slice (some ⟨w.heap.size, 0, none⟩) 70 70) (w.alloc (.cells (bl (fun _ => false)) 4)) := by kernel_rfl
theorem rws_len : ∀ k, (rws k).length = 5 * k
  | 0 => rfl
  | k + 1 => by rw [rws, List.length_append, rws_len k]; simp; omega
theorem rws_get {j : Nat} : ∀ {k : Nat}, j < k → ∀ {q : Nat}, q < 5 → (rws k)[5 * j + q]? = ([.int .i64 0, .int .i64 j, .bool false, .int .u32 0, .string ⟨#[]⟩] : List Value)[q]?
  | 0, h, _, _ => absurd h (by omega)
  | k + 1, h, q, hq => by
    rw [rws]
    by_cases e : j < k
    · rw [List.getElem?_append_left (by rw [rws_len]; omega)]
      exact rws_get e hq
    · obtain rfl : j = k := by omega
      rw [List.getElem?_append_right (by rw [rws_len]; omega), rws_len, show 5 * j + q - 5 * j = q by omega]
theorem rws_cel {w : World} {r k j : Nat} (K : Cel w r 0 (rws k).toArray) (h : j < k) : Cel w r (5 * j) #[.int .i64 0, .int .i64 j, .bool false, .int .u32 0, .string ⟨#[]⟩] := by
  refine ⟨K.1, fun q u hu => ?_⟩
  have hq : q < 5 := (Array.getElem?_eq_some_iff.1 hu).1
  have := K.2 (5 * j + q) u (by rw [List.getElem?_toArray, rws_get h hq]; simpa using hu)
  rwa [Nat.zero_add] at this
theorem Fo.turn {cb : Nat} {ob : Obj} {f : Nat → Bool} {b0 g h m i : Nat} {w : World} (F : Fo cb ob f b0 g h m i w) (o : Nat) (x : Value) {t : TypeId} {cs : Array Value} (B : Blk (w.setCell ⟨cb, o, none⟩ x) cb t cs) : Fo cb (.cells cs t) f b0 g h m i (w.setCell ⟨cb, o, none⟩ x) := by
  obtain ⟨l, es, c, ⟨⟨cap, B1, h1, h2⟩, C, M, a1, a2, a3, a4, a5, a6, G, a7, a8, a9⟩, H, own, hne⟩ := F
  exact ⟨l, es, c, ⟨⟨cap, B1.far (p := ⟨cb, o, none⟩) (Ne.symm a7) _, h1, h2⟩, C.far (p := ⟨cb, o, none⟩) (Ne.symm a8) _, M.far (p := ⟨cb, o, none⟩) (Ne.symm a9) _, a1, a2, a3, a4, a5, a6, B, a7, a8, a9⟩, H, own_other own (fun k hk => Below.heap_setCell _ _ _ _ (hne k hk).2.2.2), hne⟩
theorem Fo.came {cb : Nat} {cs : Array Value} {t : TypeId} {f : Nat → Bool} {b0 g h m i : Nat} {w : World} (F : Fo cb (.cells cs t) f b0 g h m i w) : Blk w cb t cs := by
  obtain ⟨l, es, c, q, _⟩ := F
  exact q.G
theorem Fo.drew {cb : Nat} {ob : Obj} {f : Nat → Bool} {b0 g h m i : Nat} {w : World} (F : Fo cb ob f b0 g h m i w) : Fo cb ob f b0 g h m i w.drew := F.below (Below.refl _ _).drew rfl
theorem read_zero (g cp : Nat) (oa : Option Addr) (w : World) (c1 : w.cell? ⟨g, 1, none⟩ = some (.slice oa 0 cp)) (hg : g < w.heap.size) : Calls Try.prog 65 #[.pointer (some ⟨g, 0, none⟩)] w fun e w' => e = .returned (.tuple #[.agg #[.int .i64 0, .int .i64 0, .bool false, .int .u32 0, .string ⟨#[]⟩], .bool false]) ∧ Below w.heap.size w w' := by
  have c2 : (w.alloc (.cells #[.int .i64 0, .int .i64 0, .bool false, .int .u32 0, .string ⟨#[]⟩] 128)).cell? ⟨g, 1, none⟩ = some (.slice oa 0 cp) := ((Below.refl w.heap.size w).alloc (Nat.le_refl _) (.cells (ms 0 0 false 0 ⟨#[]⟩) 128)).cell (p := ⟨g, 1, none⟩) hg |>.trans c1
  go_enter Try.func65, Try.ntmps65
  go_wp2_with fail
  refine (ready_of g oa 0 cp _ c2).mono ?_
  rintro e w1 ⟨rfl, rfl⟩
  clear c1 c2
  go_wp2_with fail
  have B := Blk.new w 128 (ms 0 0 false 0 ⟨#[]⟩)
  have bel := (Below.refl w.heap.size w).alloc (Nat.le_refl _) (.cells (ms 0 0 false 0 ⟨#[]⟩) 128)
  refine bodyPost_ret (v := .tuple #[.agg (ms 0 0 false 0 ⟨#[]⟩), .bool false]) ?_ rfl ⟨rfl, bel⟩
  rw [results_cell_tmp rfl]
  have h := run_loadVar_row (w.alloc (.cells (ms 0 0 false 0 ⟨#[]⟩) 128)) w.heap.size 128 128 _ (0, 0) _ B Try.underlying128 rfl (by kernel_rfl)
  have h2 : w.alloc (.cells (ms 0 0 false 0 ⟨#[]⟩) 128) = w.alloc (.cells #[.int .i64 0, .int .i64 0, .bool false, .int .u32 0, .string ⟨#[]⟩] 128) := rfl
  rw [h2] at h
  simp [asAddr, h]
theorem add_blk (a : Addr) (i : Nat) : (a.add i).block = a.block := by unfold Addr.add; split <;> rfl
/-- What is read of whom, so many being read already. -/
structure Rd (g cb r k j : Nat) (f : Nat → Bool) (w0 w : World) : Prop where
  B : ∃ x oa cp, Blk w g 200 #[x, .slice oa (k - j : Nat) cp, .int .i64 0] ∧ (0 < k - j → oa = some ⟨r, 5 * j, none⟩ ∧ k - j ≤ cp ∧ cp ≤ maxLen)
  K : 0 < k → r ≠ g ∧ Cel w r 0 (rws k).toArray
  C : Blk w cb 4 (bl f)
  ne : cb ≠ g
  bel : Below g w0 w
theorem Fo.rd {cb : Nat} {f : Nat → Bool} {g h m k : Nat} {w0 w : World} (F : Fo cb (.cells (bl f) 4) f g g h m k w) (bel : Below g w0 w) : ∃ r, Rd g cb r k 0 f w0 w := by
  obtain ⟨l, es, c, ⟨⟨cap, B1, h1, h2⟩, C, M, a1, a2, a3, a4, a5, a6, G, a7, a8, a9⟩, H, own, hne⟩ := F
  rcases own.2 with ⟨q1, q2⟩ | ⟨r, cap', cur, q, hb, hg, hn, hm, hs, _⟩
  · subst q1
    have hk : k = 0 := by simpa using q2
    subst hk
    exact ⟨0, ⟨_, none, 0, B1, fun h => absurd h (by omega)⟩, fun h => absurd h (by omega), G, a7, bel⟩
  · subst q
    exact ⟨r, ⟨_, _, cap', B1, fun h => ⟨rfl, by omega, hm⟩⟩, fun _ => ⟨(hne r rfl).1, Cel.of_owns own⟩, G, a7, bel⟩
set_option maxHeartbeats 8000000 in
theorem order_walk (oa : Option Addr) (a : Addr) (len cap : Nat) (v : Nat → Nat) (w : World) (hlc : len ≤ cap) (hcm : cap ≤ maxLen) (hoa : 0 < len → oa = some a) (hab : 0 < len → a.block < w.heap.size)
    (hv : ∀ i, i < len → v i ≤ 255 ∧ w.cell? (a.add i) = some (.int .u8 (v i))) :
    Calls Try.prog 13 #[.slice oa len cap] w fun e w' => e = .returned (.bool true) ∧ Below w.heap.size w w' := by
  unfold maxLen at hcm
  have HV := Lib.hid (And.intro hoa (And.intro hab hv))
  clear hoa hab hv
  have hmk := mk70
  go_enter Try.func13, Try.ntmps13
  go_wp2_with fail
  refine (new_one _).mono ?_
  rintro e w1 ⟨rfl, ⟨h, m, hO⟩, bel1⟩
  have hO1 := hO (w1.alloc (.cells (bl (fun _ => false)) 4)) ((Below.refl _ _).alloc (Nat.le_refl _) _) w1.heap.size (.cells (bl (fun _ => false)) 4) (Blk.new w1 4 (bl (fun _ => false))) (Nat.le_refl _)
  have F1 : Fo w1.heap.size (.cells (bl (fun _ => false)) 4) (fun _ => false) w.heap.size w.heap.size h m 0 (w1.alloc (.cells (bl (fun _ => false)) 4)) := ⟨_, _, _, hO1, Hold.empty.congr (fun k => by simp), World.ownsRow_nil _ _ _ _, fun k hk => by simp [Value.ownBlock] at hk⟩
  have bel2 := bel1.alloc bel1.size (.cells (bl (fun _ => false)) 4)
  have bel2' := bel1.size
  clear hO hO1 bel1
  go_upto_region 3 with fail
  clear hmk
  generalize w1.alloc (.cells (bl (fun _ => false)) 4) = w2 at *
  have hcbg : w.heap.size ≤ w1.heap.size := bel2'
  generalize w1.heap.size = cb at *
  obtain ⟨g, hg⟩ : ∃ g, w.heap.size = g := ⟨_, rfl⟩
  rw [hg] at F1 bel2 hcbg
  rw [hg]
  go_upto_block 0 with fail
  go_cut [5] (fun _ wx => ∃ (f : Nat → Bool) (k : Nat), k ≤ 64 ∧ (∀ j, j < k → f j = true) ∧ f k = false ∧ Fo cb (.cells (bl f) 4) f g g h m k wx ∧ Below g w wx)
  case first =>
    go_wp2_with fail
    go_loopw [5] (fun s5 wr => ∃ (i : Nat) (f : Nat → Bool) (k : Nat), i ≤ len ∧ i ≤ 200 ∧ s5 = .int .i64 i ∧ (∀ j, 64 ≤ j → f j = false) ∧ k ≤ 64 ∧ (∀ j, j < k → f j = true) ∧ f k = false ∧ Fo cb (.cells (bl f) 4) f g g h m k wr ∧ Below g w wr) (fun s5 _ => 200 - (intOf s5).toNat)
    case atStart => exact ⟨0, fun _ => false, 0, by omega, by omega, rfl, fun _ _ => rfl, by omega, fun j hj => absurd hj (by omega), rfl, F1, bel2⟩
    case round =>
      clear F1 bel2
      obtain ⟨i, f, k, hil, hi2, rfl, h64, hk64, hpre, hfk, F, bel⟩ := hrel
      have HP := Lib.hid (And.intro h64 (And.intro hpre hfk))
      clear h64 hpre hfk
      by_cases hlt : i < len
      · by_cases h200 : i < 200
        · have hoa := HV.out.1 (by omega)
          subst hoa
          have hbl := HV.out.2.1 (by omega)
          obtain ⟨hv255, hvc⟩ := HV.out.2.2 i hlt
          have hc : wr.cell? (a.add i) = some (.int .u8 (v i)) := (bel.cell (p := a.add i) (by rw [add_blk]; omega)).trans hvc
          clear hvc
          generalize v i = vi at *
          go_upto_region 6 with fail
          go_cut [6] (fun s6 wx => s6 = .int .i64 (vi % 64 : Nat) ∧ wr = wx)
          case first =>
            go_wp2_with fail
            all_goals
              go_meet
              exact ⟨by first | rfl | (congr 1; omega) | go_num, rfl⟩
          case rest =>
          obtain ⟨rfl, hwc⟩ := hcut
          subst hwc
          obtain ⟨n, hn⟩ : ∃ n, vi % 64 = n := ⟨_, rfl⟩
          have hn64 : n < 64 := by omega
          rw [hn]
          clear hn hc
          have hw := F.came
          have hcl := hw.lt
          have hc0 : wr.cell? ⟨cb, n, none⟩ = some (.bool (f n)) := (hw.cell n).trans (bl_at f (by omega))
          have hc1 : wr.drew.cell? ⟨cb, n, none⟩ = some (.bool (f n)) := hc0
          have hn70 : (n : Int) < 70 := by omega
          go_upto_region 7 with fail
          go_cut [38] (fun s38 wx => s38 = .bool false ∧ (∃ k', k' ≤ 64 ∧ (∀ j, j < k' → (if j = n then true else f j) = true) ∧ (if k' = n then true else f k') = false ∧ Fo cb (.cells (bl f) 4) (fun j => if j = n then true else f j) g g h m k' wx) ∧ Below g w wx)
          case first =>
            cases hfn : f n
            · rw [hfn] at hc0 hc1
              have hP := put_new cb (.cells (bl f) 4) f HP.out.1 g g h m n k hn64 hfn hk64 HP.out.2.1 wr.drew F.drew
              have HF := Lib.hid hfn
              clear hfn
              go_region_law ((refine step_call2 (by rfl) 64 Try.f64 _ _ (by rfl) Try.func64 (by kernel_rfl) (by kernel_rfl) #[.pointer (some ⟨g, 0, none⟩), .agg (ms 0 n false 0 ⟨#[]⟩)] (by simp [Act.eval, Act.put, ms]) hP ?_; rintro e w3 ⟨rfl, ⟨k', hk', hp', hq', F'⟩, bl3⟩; refine ⟨_, rfl, ?_⟩; have c3 : w3.cell? ⟨cb, n, none⟩ = some (.bool false) := ((F'.came).cell n).trans ((bl_at f (by omega)).trans (by rw [HF.out]))))
              all_goals
                go_wp2_with fail
                go_meet
                exact ⟨rfl, ⟨k', hk', hp', hq', F'⟩, bel.drew.trans bl3⟩
            · rw [hfn] at hc0 hc1
              have hP := put_old cb (.cells (bl f) 4) f g g h m n k hn64 hfn hk64 wr.drew F.drew
              have hfe : (fun j => if j = n then true else f j) = f := funext fun j => by by_cases e : j = n; rw [if_pos e, e, hfn]; rw [if_neg e]
              have HF := Lib.hid (And.intro hfn hfe)
              clear hfn hfe
              go_region_law ((refine step_call2 (by rfl) 64 Try.f64 _ _ (by rfl) Try.func64 (by kernel_rfl) (by kernel_rfl) #[.pointer (some ⟨g, 0, none⟩), .agg (ms 0 n false 0 ⟨#[]⟩)] (by simp [Act.eval, Act.put, ms]) hP ?_; rintro e w3 ⟨rfl, bl3⟩; refine ⟨_, rfl, ?_⟩; have F' := F.drew.below bl3 rfl; have c3 : w3.cell? ⟨cb, n, none⟩ = some (.bool true) := ((F'.came).cell n).trans ((bl_at f (by omega)).trans (by rw [HF.out.1]))))
              all_goals
                go_wp2_with fail
                go_meet
                refine ⟨rfl, ⟨k, hk64, fun j hj => ?_, ?_, ?_⟩, bel.drew.trans (bl3.mono (by have := bel.size; rw [hg] at this; exact this))⟩
                · by_cases e : j = n
                  · rw [if_pos e]
                  · rw [if_neg e]; exact HP.out.2.1 j hj
                · rw [if_neg (fun e => by have h1 := HP.out.2.2; rw [e, HF.out.1] at h1; cases h1)]
                  exact HP.out.2.2
                · rw [HF.out.2]
                  exact F'
          case rest =>
          obtain ⟨rfl, ⟨k', hk', hp', hq', F'⟩, bel'⟩ := hcut
          clear F bel hw hcl hc0 hc1
          have hw := F'.came
          have hc0 : wc.cell? ⟨cb, n, none⟩ = some (.bool (f n)) := (hw.cell n).trans (bl_at f (by omega))
          have hcf : wc.frozen? ⟨cb, n, none⟩ = false := hw.frozen n
          have B3 : Blk (wc.setCell ⟨cb, n, none⟩ (.bool true)) cb 4 (bl (fun j => if j = n then true else f j)) := (bl_set f (n := n) (by omega)) ▸ (hw.set_ n (.bool true))
          have F3 := F'.turn n (.bool true) B3
          have bel3 := bel'.setCell (p := ⟨cb, n, none⟩) hcbg (.bool true)
          have HQ := Lib.hid (And.intro hp' hq')
          clear hp' hq' F' bel' hw B3
          go_wp2_with fail
          go_roundw
          case rel => exact ⟨i + 1, _, k', by omega, by omega, by go_num, fun j hj => by rw [if_neg (by omega)]; exact HP.out.1 j hj, hk', HQ.out.1, HQ.out.2, F3, bel3⟩
          case measure => simp [intOf]; omega
        · go_wp2_with fail
          go_meet
          exact ⟨f, k, hk64, HP.out.2.1, HP.out.2.2, F, bel⟩
      · go_wp2_with fail
        go_meet
        exact ⟨f, k, hk64, HP.out.2.1, HP.out.2.2, F, bel⟩
  case rest =>
  clear F1 bel2
  obtain ⟨f, k, hk64, hpre, hfk, F, bel⟩ := hcut
  obtain ⟨r, R⟩ := F.rd bel
  have HP := Lib.hid (And.intro hpre hfk)
  clear F bel hpre hfk
  go_wp2_with fail
  go_loopw [7] (fun s7 wr => ∃ j : Nat, j ≤ k ∧ s7 = .int .i64 j ∧ Rd g cb r k j f w wr) (fun s7 _ => k - (intOf s7).toNat)
  case atStart => exact ⟨0, by omega, rfl, R⟩
  case round =>
    clear R
    obtain ⟨j, hjk, rfl, R⟩ := hrel
    have hcl := R.C.lt
    have hc0 : wr.cell? ⟨cb, j, none⟩ = some (.bool (f j)) := (R.C.cell j).trans (bl_at f (by omega))
    have hj70 : (j : Int) < 70 := by omega
    obtain ⟨x, ob, cp, B, hob⟩ := R.B
    by_cases hlt : j < k
    · rw [HP.out.1 j hlt] at hc0
      obtain ⟨rfl, hcp, hcm2⟩ := hob (by omega)
      obtain ⟨hrg, K⟩ := R.K (by omega)
      have hRd := read_any g g r j (k - j) cp x (Nat.le_refl g) hrg (by omega) hcp hcm2 wr B (rws_cel K hlt)
      have HRd := Lib.hid hRd
      clear hRd
      go_wp2_with fail
      refine HRd.out.mono ?_
      rintro e w3 ⟨rfl, ⟨oa', cp', B3, hoa'⟩, O3, bl3⟩
      have K3 := O3.cel K hrg
      have C3 := O3.blk R.C R.ne
      have bel3 := R.bel.trans bl3
      have hgl := B3.lt
      have hg3 : g ≤ w3.heap.size := by omega
      go_upto_region 14 with fail
      have M4 : Blk (w3.alloc (.cells #[.int .i64 0, .int .i64 j, .bool false, .int .u32 0, .string ⟨#[]⟩] 128)) w3.heap.size 128 #[.int .i64 0, .int .i64 j, .bool false, .int .u32 0, .string ⟨#[]⟩] := Blk.new w3 _ _
      have R4 : Rd g cb r k (j + 1) f w (w3.alloc (.cells #[.int .i64 0, .int .i64 j, .bool false, .int .u32 0, .string ⟨#[]⟩] 128)) := ⟨⟨x, oa', cp', B3.alloc _, hoa'⟩, fun _ => ⟨hrg, K3.alloc _⟩, C3.alloc _, R.ne, bel3.alloc hg3 _⟩
      clear R B K B3 K3 C3 bel3 O3 bl3 hc0
      generalize w3.alloc (.cells #[.int .i64 0, .int .i64 j, .bool false, .int .u32 0, .string ⟨#[]⟩] 128) = w4 at *
      have m1 : w4.cell? ⟨w3.heap.size, 1, none⟩ = some (.int .i64 j) := M4.cell 1
      go_wp2_with fail
      go_roundw
      case rel => exact ⟨j + 1, by omega, by go_num, R4⟩
      case measure => simp [intOf]; omega
    · obtain rfl : j = k := by omega
      rw [HP.out.2] at hc0
      have c1 : wr.cell? ⟨g, 1, none⟩ = some (.slice ob 0 cp) := by have := B.cell 1; rwa [Nat.sub_self] at this
      have hRd := read_zero g cp ob wr c1 B.lt
      have HRd := Lib.hid hRd
      clear hRd
      go_wp2_with fail
      refine HRd.out.mono ?_
      rintro e w3 ⟨rfl, bl3⟩
      have bel3 := R.bel.trans (bl3.mono (by have := B.lt; omega))
      go_upto_region 17 with fail
      have bel4 := bel3.alloc (by have := B.lt; have := bl3.size; omega) (.cells #[.int .i64 0, .int .i64 0, .bool false, .int .u32 0, .string ⟨#[]⟩] 128)
      clear R B bel3 hc0 c1
      generalize w3.alloc (.cells #[.int .i64 0, .int .i64 0, .bool false, .int .u32 0, .string ⟨#[]⟩] 128) = w4 at *
      go_wp2_with fail
      refine (awake18_any _).mono ?_
      rintro e w5 ⟨rfl, hb5⟩
      go_wp2_with fail
      go_ret
      exact ⟨rfl, by rw [hg]; exact bel4.trans (hb5.mono (by have := bel4.size; rw [hg] at this; exact this))⟩
end Go.Proofs.Ytdocphkpeonldaa.del
