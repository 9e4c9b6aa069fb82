/- Layer 38: the program's answer on entries walked. -/
import Derived.Test.YthjhiogbnacmdaaAudB
namespace Go.Proofs.Ythjhiogbnacmdaa.aud
open Go.Sort (grow)
open Go.ChangeShapes Go.WideShapes Go.ChangeAt Go.RowKit kit
set_option maxRecDepth 100000

theorem uM : Try.prog.underlying 91 = some (.map 93 3) := by kernel_rfl
theorem zI (w : World) : (zeroValue 3).run Try.prog w = .ok (.int .i64 0) w := by kernel_rfl
structure WfE (e : Ent) : Prop where
  c : (Lit.int .u32 e.2.2.1).wf = true
  d : (Lit.int .i64 e.2.2.2.1).wf = true
  b : (Lit.int .i64 e.2.1).wf = true
  i : (Lit.int .u32 e.2.2.2.2.1).wf = true
open Classical in
noncomputable def dd (L : List Ent) (k : Nat) : Int := if dup L k then 4 else 0
theorem dd_zero (L : List Ent) : dd L 0 = 0 := by
  unfold dd
  rw [if_neg]
  rintro ⟨j, i, _, h, _⟩
  exact absurd h (Nat.not_lt_zero j)
theorem dd_or (L : List Ent) (k : Nat) : dd L k = 0 ∨ dd L k = 4 := by
  unfold dd
  split
  · exact .inr rfl
  · exact .inl rfl
theorem dd_yes (L : List Ent) (k : Nat) (h : 1 < ct L (k + 1) (ek (L.getD k e0))) : dd L (k + 1) = 4 := by
  rw [ct_self] at h
  unfold dd
  rw [if_pos ((dup_succ L k).2 (.inr (by omega)))]
theorem dd_no (L : List Ent) (k : Nat) (h : ¬ 1 < ct L (k + 1) (ek (L.getD k e0))) : dd L (k + 1) = dd L k := by
  rw [ct_self] at h
  unfold dd
  have : dup L (k + 1) ↔ dup L k := by
    rw [dup_succ]
    exact ⟨fun q => q.resolve_right (by omega), .inl⟩
  by_cases q : dup L k
  · rw [if_pos q, if_pos (this.2 q)]
  · rw [if_neg q, if_neg (fun z => q (this.1 z))]
theorem szE (a b c d i o s : Int) : (Try.prog.info? 30).map (·.size) = some (#[.int .u32 a, .int .i64 b, .int .u32 c, .int .i64 d, .int .u32 i, .int .u32 o, .int .i64 s] : Array Value).size := by
  show _ = some 7
  kernel_rfl
/-- What is wrong of entries. -/
noncomputable def tw (L : List Ent) (most : Int) : Int := (if most < (L.length : Int) then 2 else 0) + dd L L.length
set_option maxHeartbeats 4000000 in
theorem table_any (h cap : Nat) (L : List Ent) (most : Int) (w : World) (hn : L.length ≤ 12) (hc : L.length ≤ cap) (hcm : cap ≤ maxLen) (hh : h < w.heap.size) (hL : ∀ k, k < L.length → Cel w h (k * 7) (er (L.getD k e0))) (hwf : ∀ k, k < L.length → WfE (L.getD k e0)) :
    Calls Try.prog 25 #[.slice (some ⟨h, 0, none⟩) L.length cap, .int .i64 most] w fun e w' => e = .returned (.int .i64 (tw L most)) ∧ Below w.heap.size w w' := by
  unfold maxLen at hcm
  have hmk : ∀ w, (Instr.makeMap 91 none).run Try.prog w = .ok (.map (some w.heap.size)) (w.alloc (.map #[] 0)) := fun w => rfl
  have HL := Lib.hid hL
  have HW := Lib.hid hwf
  clear hL hwf
  go_enter Try.func25, Try.ntmps25
  go_upto_if 13 with (fail)
  go_cut [5] (fun s5 wx => s5 = .int .i64 (if most < (L.length : Int) then 2 else 0) ∧ wx = w)
  case first =>
    have b1 : bits .or .i64 0 2 = 2 := by decide
    by_cases hm : most < (L.length : Int)
    · have d0 : decide (most < (L.length : Int)) = true := decide_eq_true hm
      go_wp2_with fail
      go_meet
      exact ⟨by rw [if_pos hm], rfl⟩
    · have d0 : decide (most < (L.length : Int)) = false := decide_eq_false hm
      go_wp2_with fail
      go_meet
      exact ⟨by rw [if_neg (by omega)], rfl⟩
  case rest =>
  obtain ⟨rfl, hwc⟩ := hcut
  have hwc := hwc.symm
  subst hwc
  obtain ⟨W0, hW0⟩ : ∃ W0 : Int, W0 = if most < (L.length : Int) then 2 else 0 := ⟨_, rfl⟩
  have HW0 := Lib.hid hW0
  rw [← hW0]
  have hW2 : W0 = 0 ∨ W0 = 2 := by
    rw [hW0]
    split
    · exact .inr rfl
    · exact .inl rfl
  clear hW0
  go_upto_region 5 with (fail)
  have C0 : Cnt Try.prog 93 (w.alloc (.map #[] 0)) w.heap.size (ct L 0) := Cnt.new w
  have bel0 := (Below.refl w.heap.size w).alloc (Nat.le_refl _) (.map #[] 0)
  generalize w.alloc (.map #[] 0) = w1 at *
  clear hmk
  go_wp2_with fail
  go_loopw [5, 19] (fun s5 s19 wr => ∃ k : Nat, k ≤ L.length ∧ s19 = .int .i64 k ∧ s5 = .int .i64 (W0 + dd L k) ∧ Cnt Try.prog 93 wr w.heap.size (ct L k) ∧ Below w.heap.size w wr) (fun _ s19 _ => L.length - (intOf s19).toNat)
  case atStart => exact ⟨0, by omega, rfl, by rw [dd_zero, Int.add_zero], C0, bel0⟩
  case round =>
    clear C0 bel0
    obtain ⟨k, hk, rfl, rfl, C, bel⟩ := hrel
    by_cases hlt : k < L.length
    · have hd : decide ((k : Int) < (L.length : Int)) = true := decide_eq_true (by omega)
      have K0 := (HL.out k hlt).below bel hh
      have wf := HW.out k hlt
      have hdy := dd_yes L k
      have hdn := dd_no L k
      have hcu := ct_upd L k
      have hcl := ct_le L k (ek (L.getD k e0))
      have hcs := ct_self L k
      rcases he : L.getD k e0 with ⟨a, b, c, d, i, o, s⟩
      rw [he] at K0 wf hdy hdn hcu hcl hcs
      obtain ⟨l, hl⟩ := ky_key wf.c wf.d wf.b wf.i
      have sz := szE a b c d i o s
      have HD := Lib.hid (And.intro hdy hdn)
      have HU := Lib.hid hcu
      have HS := Lib.hid hcs
      clear wf he hdy hdn hcu hcs
      go_upto_region 8 with (refine wpList_load_at rfl 30 _ rfl h (k * 7) rfl #[.int .u32 a, .int .i64 b, .int .u32 c, .int .i64 d, .int .u32 i, .int .u32 o, .int .i64 s] _ K0 Try.underlying30 rfl sz ?_)
      have hgw : w.heap.size ≤ wr.heap.size := bel.size
      have E1 := Blk.new wr 30 #[.int .u32 a, .int .i64 b, .int .u32 c, .int .i64 d, .int .u32 i, .int .u32 o, .int .i64 s]
      have C1 := C.below ((Below.refl wr.heap.size wr).alloc (Nat.le_refl _) (.cells #[.int .u32 a, .int .i64 b, .int .u32 c, .int .i64 d, .int .u32 i, .int .u32 o, .int .i64 s] 30)) C.lt
      have bel1 := bel.alloc bel.size (.cells #[.int .u32 a, .int .i64 b, .int .u32 c, .int .i64 d, .int .u32 i, .int .u32 o, .int .i64 s] 30)
      clear C bel K0 sz
      generalize hw2 : wr.alloc (.cells #[.int .u32 a, .int .i64 b, .int .u32 c, .int .i64 d, .int .u32 i, .int .u32 o, .int .i64 s] 30) = w2 at *
      clear hw2
      generalize wr.heap.size = g at *
      have x1 : w2.cell? ⟨g, 1, none⟩ = some (.int .i64 b) := E1.cell 1
      have x2 : w2.cell? ⟨g, 2, none⟩ = some (.int .u32 c) := E1.cell 2
      have x3 : w2.cell? ⟨g, 3, none⟩ = some (.int .i64 d) := E1.cell 3
      have x4 : w2.cell? ⟨g, 4, none⟩ = some (.int .u32 i) := E1.cell 4
      go_upto_region 9 with (fail)
      have N3 := Blk.new w2 93 #[.int .u32 c, .int .i64 d, .int .i64 b, .int .u32 i]
      have C3 := C1.below ((Below.refl w2.heap.size w2).alloc (Nat.le_refl _) (.cells #[.int .u32 c, .int .i64 d, .int .i64 b, .int .u32 i] 93)) C1.lt
      have bel3 := bel1.alloc bel1.size (.cells #[.int .u32 c, .int .i64 d, .int .i64 b, .int .u32 i] 93)
      clear C1 bel1 E1 x1 x2 x3 x4
      generalize w2.alloc (.cells #[.int .u32 c, .int .i64 d, .int .i64 b, .int .u32 i] 93) = w3 at *
      generalize w2.heap.size = v at *
      have k0 : w3.cell? ⟨v, 0, none⟩ = some (.int .u32 c) := N3.cell 0
      have k1 : w3.cell? ⟨v, 1, none⟩ = some (.int .i64 d) := N3.cell 1
      have k2 : w3.cell? ⟨v, 2, none⟩ = some (.int .i64 b) := N3.cell 2
      have k3 : w3.cell? ⟨v, 3, none⟩ = some (.int .u32 i) := N3.cell 3
      obtain ⟨n0, hn0⟩ : ∃ n0, n0 = ct L k (ky c d b i) := ⟨_, rfl⟩
      have hcl0 : 0 ≤ n0 ∧ n0 ≤ k := by rw [hn0]; exact hcl
      obtain ⟨es0, c0, M0, _⟩ := id C3
      obtain ⟨st, es1, c1, hE, CE, hS⟩ := C3.drew.entry keyLaw uM zI hl
      obtain ⟨es2, c2, hS2, CF⟩ := hS _ (n0 + 1) (M0.drew.set_ es1 c1)
      have lk1 := C3.look keyLaw uM zI hl
      have lk2 := C3.drew.look keyLaw uM zI hl
      have lk3 := CE.look keyLaw uM zI hl
      have CF2 : Cnt Try.prog 93 (Go.ChangeMaps.setBlock (Go.ChangeMaps.setBlock w3.drew w.heap.size (.map es1 c1)) w.heap.size (.map es2 c2)) w.heap.size (ct L (k + 1)) := by rw [hn0] at CF; exact HU.out ▸ CF
      rw [← hn0] at lk1 lk2 lk3 hE
      unfold ky at lk1 lk2 lk3 hE
      have M1 := M0.drew.set_ es1 c1
      have N4 := blk_map M1 (blk_map M0.drew N3.drew es1 c1) es2 c2
      have bel4 := M1.bel (M0.drew.bel bel3.drew (Nat.le_refl _) es1 c1) (Nat.le_refl _) es2 c2
      have HK := Lib.hid (show ct L (k + 1) (ky c d b i) = n0 + 1 by rw [hn0]; exact HS.out)
      clear CE CF hS C3 hcl hn0
      unfold goInt at hE hS2
      go_upto_region 9 with (fail)
      go_region
      all_goals
        clear lk1 lk2 lk3 hE hS2 k0 k1 k2 k3 N3 M0 M1 bel3
        generalize Go.ChangeMaps.setBlock (Go.ChangeMaps.setBlock w3.drew w.heap.size (.map es1 c1)) w.heap.size (.map es2 c2) = w4 at *
        have k0 : w4.cell? ⟨v, 0, none⟩ = some (.int .u32 c) := N4.cell 0
        have k1 : w4.cell? ⟨v, 1, none⟩ = some (.int .i64 d) := N4.cell 1
        have k2 : w4.cell? ⟨v, 2, none⟩ = some (.int .i64 b) := N4.cell 2
        have k3 : w4.cell? ⟨v, 3, none⟩ = some (.int .u32 i) := N4.cell 3
        have lk4 := CF2.look keyLaw uM zI hl
        rw [HK.out] at lk4
        unfold ky at lk4
        by_cases hq : 1 < n0 + 1
        · have dq : decide (1 < n0 + 1) = true := decide_eq_true hq
          have bo : bits .or .i64 (W0 + dd L k) 4 = W0 + 4 := by rcases hW2 with rfl | rfl <;> rcases dd_or L k with e | e <;> rw [e] <;> decide
          have hfin : dd L (k + 1) = 4 := HD.out.1 (by rw [show ct L (k + 1) (ek (a, b, c, d, i, o, s)) = n0 + 1 from HK.out]; exact hq)
          go_wp2_with fail
          go_roundw
          case rel => exact ⟨k + 1, by omega, by simp, by rw [hfin], CF2, bel4⟩
          case measure => first | omega | (simp only [intOf]; omega) | (simp [intOf]; omega)
        · have dq : decide (1 < n0 + 1) = false := decide_eq_false hq
          have hfin : dd L (k + 1) = dd L k := HD.out.2 (by rw [show ct L (k + 1) (ek (a, b, c, d, i, o, s)) = n0 + 1 from HK.out]; exact hq)
          go_wp2_with fail
          go_roundw
          case rel => exact ⟨k + 1, by omega, by simp, by rw [hfin], CF2, bel4⟩
          case measure => first | omega | (simp only [intOf]; omega) | (simp [intOf]; omega)
    · have hd : decide ((k : Int) < (L.length : Int)) = false := decide_eq_false (by omega)
      obtain rfl : k = L.length := by omega
      go_wp2_with fail
      go_ret
      have hE : tw L most = W0 + dd L L.length := by unfold tw; rw [← HW0.out]
      exact ⟨by rw [hE]; rfl, bel⟩
end Go.Proofs.Ythjhiogbnacmdaa.aud
