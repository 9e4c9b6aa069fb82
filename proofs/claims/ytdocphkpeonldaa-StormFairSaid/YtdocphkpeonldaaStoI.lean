/- Layer 42: what is done next, of any packets; without losses. -/
import Derived.Test.YtdocphkpeonldaaStoH
namespace Go.Proofs.Ytdocphkpeonldaa.storm
open Go.Sort (grow)
open Go.ChangeShapes Go.WideShapes Go.ChangeAt Go.RowKit kit
set_option maxRecDepth 100000

theorem next_nil (g cap : Nat) (oa : Option Addr) (w : World) : Calls Try.prog 33 #[.pointer (some ⟨g, 0, none⟩), .slice oa 0 cap] w fun e w' => e = .returned (.agg (ac 13 1 0)) ∧ Below w.heap.size w w' := by
  go_enter Try.func33, Try.ntmps33
  go_wp2_with fail
  exact bodyPost_ret (v := .agg (ac 13 1 0)) (results_cell_at rfl _ _ w.heap.size 0 (ac 13 1 0) _ rfl (Cel.of_blk (Blk.new _ _ _)) Try.underlying63 rfl (szA _ _ _)) rfl ⟨rfl, (Below.refl _ _).alloc (Nat.le_refl _) _⟩
theorem next_all (b0 g mp h cap : Nat) (l d b m : Int) (f : Value → Int) (L : List It) (w : World) (S : Stm w g mp l d b m f) (NT : Net w h L) (hg : b0 ≤ g) (hm : b0 ≤ mp) (hgm : mp ≠ g) (hhg : h ≠ g) (hhm : h ≠ mp) (hn : L.length ≤ 100) (hcap : L.length ≤ cap) (hcm : cap ≤ maxLen)
    (hwf : ∀ k, k < L.length → WfI (L.getD k it0)) (hf : ∀ k, k < L.length → 0 ≤ f (iw (L.getD k it0)) ∧ f (iw (L.getD k it0)) ≤ 1000) :
    Calls Try.prog 33 #[.pointer (some ⟨g, 0, none⟩), .slice (some ⟨h, 0, none⟩) L.length cap] w (NextPost b0 g mp l d b m f L w) := by
  by_cases h0 : L.length = 0
  · rw [h0]
    refine (next_nil g cap _ w).mono ?_
    rintro e w' ⟨rfl, hb⟩
    have := S.glt
    exact ⟨13, 1, 0, f, rfl, .inl ⟨rfl, rfl, rfl⟩, fun _ => rfl, S.below hb S.glt S.mlt, (Mv.refl b0 g mp w).below hb (by omega)⟩
  · exact next_gen b0 g mp h cap l d b m f L w S NT hg hm hgm hhg hhm h0 hn hcap hcm hwf hf
theorem Stm.two {g m g2 m2 : Nat} {w w' : World} {l d b mo : Int} {f : Value → Int} (h : Two g m w w') (S : Stm w g2 m2 l d b mo f) (h1 : g2 ≠ g) (h2 : g2 ≠ m) (h3 : m2 ≠ g) (h4 : m2 ≠ m) : Stm w' g2 m2 l d b mo f := by
  have hl := S.mlt
  obtain ⟨⟨x, B⟩, C⟩ := S
  exact ⟨⟨x, h.blk B h1 h2⟩, C.block (h.block m2 hl h3 h4)⟩
theorem Net.alloc {w : World} {h : Nat} {L : List It} (n : Net w h L) (o : Obj) : Net (w.alloc o) h L := n.block (((Below.refl w.heap.size w).alloc (Nat.le_refl _) o).block h n.lt) (by simp)
/-- Nothing was lost. -/
def nil0 : Value → Int := fun _ => 0
theorem up_nil (v : Value) : up nil0 v 0 = nil0 := by
  funext y
  unfold up nil0
  split <;> rfl
theorem calm_next {l d b m : Int} {L : List It} {W A : Int} {f' : Value → Int} (h : NextOk l d b m nil0 L W A f') (h1 : (l ≤ 0 ∧ b ≤ 0) ∨ m ≤ 0) (h2 : d ≤ 0) : (W = 13 ∨ W = 9) ∧ f' = nil0 := by
  have hz : ∀ v, nil0 v = 0 := fun _ => rfl
  rcases h with ⟨rfl, _, rfl⟩ | ⟨k, _, _, _, h⟩
  · exact ⟨.inl rfl, rfl⟩
  · rcases h with ⟨_, rfl, rfl⟩ | ⟨_, _, a1, a2, _⟩ | ⟨_, _, a1, a2, _⟩ | ⟨_, _, a1, _⟩ | ⟨_, rfl, rfl⟩
    · exact ⟨.inr rfl, rfl⟩
    · rw [hz] at a2; omega
    · rw [hz] at a2; omega
    · omega
    · exact ⟨.inr rfl, up_nil _⟩
set_option maxHeartbeats 2000000 in
theorem calm_law (x : Int) (oa : Option Addr) (a : Addr) (len cap : Nat) (E : Nat → It) (w : World) (hlc : len ≤ cap) (hcm : cap ≤ maxLen) (hoa : 0 < len → oa = some a) (hr : RowI w a len E) (hwf : ∀ i, i < len → (Lit.int .i64 (E i).leg).wf = true ∧ (Lit.int .u32 (E i).fr).wf = true ∧ (Lit.int .u32 (E i).to).wf = true) :
    Calls Try.prog 6 #[.int .u64 x, .slice oa len cap] w fun e w' => e = .returned (.bool true) ∧ Below w.heap.size w w' := by
  have hal := hr.lt
  have HWF := Lib.hid hwf
  have HR := Lib.hid hr
  clear hr hwf
  have n1 := fun w => new_gen x (-5) (-1) (-9) 9 w
  have n2 := fun w => new_gen x 100 0 100 (-3) w
  rw [show pc (-5) = 0 from rfl, show pc (-1) = 0 from rfl, show pc (-9) = 0 from rfl, show pc 9 = 9 from rfl] at n1
  rw [show pc 100 = 100 from rfl, show pc 0 = 0 from rfl, show pc (-3) = 0 from rfl] at n2
  go_enter Try.func6, Try.ntmps6
  go_wp2_with fail
  refine (n1 w).mono ?_
  rintro e w1 ⟨g1, k1, rfl, hg1, hk1, hgk1, B1, C1, bel1⟩
  have S1 : Stm w1 g1 k1 0 0 0 9 nil0 := ⟨⟨x, B1⟩, C1⟩
  clear B1 C1 n1
  go_wp2_with fail
  refine (n2 w1).mono ?_
  rintro e w2 ⟨g2, k2, rfl, hg2, hk2, hgk2, B2, C2, bel2⟩
  have S2 : Stm w2 g2 k2 100 0 100 0 nil0 := ⟨⟨x, B2⟩, C2⟩
  have hs1 := S1.glt
  have hs2 := S1.mlt
  have hs3 := S2.glt
  have hs4 := S2.mlt
  have S1' := S1.below bel2 hs1 hs2
  have bel3 := bel1.trans (bel2.mono bel1.size)
  clear B2 C2 n2 S1 bel1 bel2
  have R2 := HR.out.below bel3 (fun h => hal h)
  have hi := items_any oa a len cap E w2 hlc hcm hoa R2 HWF.out
  have HI := Lib.hid hi
  clear hi R2 HWF HR
  go_wp2_with fail
  refine HI.out.mono ?_
  rintro e w3 ⟨n, h, c, rfl, hn1, hn2, hh, hnc, hcm3, NT, bel4⟩
  have S1 := S1'.below bel4 (by omega) (by omega)
  have S2' := S2.below bel4 hs3 hs4
  have bel5 := bel3.trans (bel4.mono bel3.size)
  have hwfL : ∀ k, k < (nl E n).length → WfI ((nl E n).getD k it0) := fun k hk => by rw [nl_at E n k (by rwa [nl_len] at hk)]; exact nr_wf _
  have hlen := nl_len E n
  clear S1' S2 bel3 bel4 HI
  obtain ⟨L, hL⟩ : ∃ L, nl E n = L := ⟨_, rfl⟩
  rw [hL] at NT hwfL hlen
  have HW := Lib.hid hwfL
  clear hL hwfL
  subst hlen
  go_upto_region 5 with (fail)
  go_loopw [8] (fun s8 wr => ∃ k : Nat, k ≤ 60 ∧ s8 = .int .i64 k ∧ Stm wr g1 k1 0 0 0 9 nil0 ∧ Stm wr g2 k2 100 0 100 0 nil0 ∧ Net wr h L ∧ Below w.heap.size w wr) (fun s8 _ => 60 - (intOf s8).toNat)
  case atStart => exact ⟨0, by omega, rfl, S1, S2', NT, bel5⟩
  case round =>
    clear S1 S2' NT bel5
    obtain ⟨k, hk, rfl, S1, S2, NT, bel⟩ := hrel
    by_cases hlt : k < 60
    · have hd : decide ((k : Int) < 60) = true := decide_eq_true (by omega)
      have hf0 : ∀ k, k < L.length → 0 ≤ nil0 (iw (L.getD k it0)) ∧ nil0 (iw (L.getD k it0)) ≤ 1000 := fun k _ => ⟨Int.le_refl 0, by show (0 : Int) ≤ 1000; decide⟩
      have c1 := next_all w.heap.size g1 k1 h c 0 0 0 9 nil0 L wr S1 NT hg1 hk1 (Ne.symm hgk1) (by omega) (by omega) (by omega) hnc hcm3 HW.out hf0
      have HC1 := Lib.hid c1
      clear c1
      go_wp2_with fail
      refine HC1.out.mono ?_
      rintro e w4 ⟨W1, A1, Bq1, f1, rfl, ok1, _, T1, M1⟩
      obtain ⟨hW1, rfl⟩ := calm_next ok1 (.inl ⟨Int.le_refl _, Int.le_refl _⟩) (Int.le_refl _)
      have S2a := Stm.two M1.two S2 (by omega) (by omega) (by omega) (by omega)
      have NTa := M1.two.net NT (by omega) (by omega)
      have bela := bel.trans M1.bel
      have c2 := next_all w.heap.size g2 k2 h c 100 0 100 0 nil0 L w4 S2a NTa (by omega) (by omega) (Ne.symm hgk2) (by omega) (by omega) (by omega) hnc hcm3 HW.out hf0
      have HC2 := Lib.hid c2
      clear c2 HC1 ok1 S1 S2 NT bel M1 hf0
      go_wp2_with fail
      refine HC2.out.mono ?_
      rintro e w5 ⟨W2, A2, Bq2, f2, rfl, ok2, _, T2, M2⟩
      obtain ⟨hW2, rfl⟩ := calm_next ok2 (.inr (Int.le_refl _)) (Int.le_refl _)
      have S1b := Stm.two M2.two T1 (by omega) (by omega) (by omega) (by omega)
      have NTb := M2.two.net NTa (by omega) (by omega)
      have belb := bela.trans M2.bel
      have hsz := belb.size
      clear HC2 ok2 T1 NTa bela S2a M2
      unfold ac
      rcases hW1 with rfl | rfl <;> rcases hW2 with rfl | rfl
      all_goals
        go_wp2_with fail
        go_roundw
        case rel => exact ⟨k + 1, by omega, by go_num, (S1b.alloc _).alloc _, (T2.alloc _).alloc _, (NTb.alloc _).alloc _, (belb.alloc hsz _).alloc (by simp; omega) _⟩
        case measure => simp [intOf]; omega
    · have hd : decide ((k : Int) < 60) = false := decide_eq_false (by omega)
      go_wp2_with fail
      refine (awake42_any _).mono ?_
      rintro e w3 ⟨rfl, hb3⟩
      go_wp2_with fail
      go_ret
      exact ⟨rfl, bel.trans (hb3.mono bel.size)⟩
theorem open_items {H : Type} {enc : TypeId × Value → H} {W : World} {base : Nat} {v1 : Value} {d1 : DataW H} {p1 : List MemPlace}
    (o1 : Value.okWide Try.prog W .any base 56 v1) (h1 : DataW.Trod enc Try.prog W 0 (fun _ => true) true 56 v1 d1 p1) :
    ∃ (oa : Option Addr) (a : Addr) (len cap : Nat) (E : Nat → It), v1 = .slice oa len cap ∧ len ≤ cap ∧ cap ≤ maxLen ∧ (0 < len → oa = some a) ∧ RowI W a len E ∧ ∀ i, i < len → (Lit.int .i64 (E i).leg).wf = true ∧ (Lit.int .u32 (E i).fr).wf = true ∧ (Lit.int .u32 (E i).to).wf = true := by
  rcases open_row 4 (sh := [.int .i64, .int .i64, .int .u32, .int .u32, .str, .bool]) Try.underlying56 (by kernel_rfl) (by kernel_rfl) (by decide) o1 h1 with rfl | ⟨a, len, cap, C, rfl, hlc, hcm, hab, hC⟩
  · exact ⟨none, ⟨0, 0, none⟩, 0, 0, fun _ => it0, rfl, Nat.le_refl _, Nat.zero_le _, fun h => absurd h (Nat.lt_irrefl 0), ⟨fun h => absurd h (Nat.lt_irrefl 0), fun i hi => absurd hi (Nat.not_lt_zero i)⟩, fun i hi => absurd hi (Nat.not_lt_zero i)⟩
  · have hx : ∀ i, ∃ x : It, i < len → (∀ (j : Nat) u, (ir x)[j]? = some u → W.cell? ((a.add (i * 6)).add j) = some u) ∧ (Lit.int .i64 x.leg).wf = true ∧ (Lit.int .u32 x.fr).wf = true ∧ (Lit.int .u32 x.to).wf = true := by
      intro i
      by_cases hi : i < len
      · obtain ⟨hF, hc⟩ := hC i hi
        obtain ⟨x1, t1, e1, w1, F1⟩ := hF.int
        obtain ⟨x2, t2, e2, w2, F2⟩ := F1.int
        obtain ⟨x3, t3, e3, w3, F3⟩ := F2.int
        obtain ⟨x4, t4, e4, w4, F4⟩ := F3.int
        obtain ⟨x5, t5, e5, w5, F5⟩ := F4.str
        obtain ⟨x6, t6, e6, F6⟩ := F5.bool
        have e7 := F6.nil
        refine ⟨⟨x1, x2, x3, x4, x5, x6⟩, fun _ => ⟨fun j u hu => ?_, w1, w3, w4⟩⟩
        have := hc j u (by rw [e1, e2, e3, e4, e5, e6, e7]; simpa [ir] using hu)
        rw [Addr.add_add]
        exact this
      · exact ⟨it0, fun h => absurd h hi⟩
    have hs := fun i => Classical.choose_spec (hx i)
    exact ⟨some a, a, len, cap, fun i => Classical.choose (hx i), rfl, hlc, hcm, fun _ => rfl, ⟨hab, fun i hi => (hs i hi).1⟩, fun i hi => (hs i hi).2⟩
theorem calm_open {H : Type} {enc : TypeId × Value → H} {W : World} {base : Nat} {v0 v1 : Value} {d0 d1 : DataW H} {p0 p1 : List MemPlace}
    (o0 : Value.okWide Try.prog W .any base 30 v0) (o1 : Value.okWide Try.prog W .any base 56 v1) (h0 : DataW.Trod enc Try.prog W 0 (fun _ => true) true 30 v0 d0 p0) (h1 : DataW.Trod enc Try.prog W 0 (fun _ => true) true 56 v1 d1 p1) :
    Calls Try.prog 6 #[v0, v1] W fun e w' => e = .returned (.bool true) ∧ Below W.heap.size W w' := by
  obtain ⟨x, rfl, _, _, _⟩ := open_int Try.underlying30 o0 h0
  obtain ⟨oa, a, len, cap, E, rfl, hlc, hcm, hoa, hr, hwf⟩ := open_items o1 h1
  exact calm_law x oa a len cap E W hlc hcm hoa hr hwf
end Go.Proofs.Ytdocphkpeonldaa.storm
