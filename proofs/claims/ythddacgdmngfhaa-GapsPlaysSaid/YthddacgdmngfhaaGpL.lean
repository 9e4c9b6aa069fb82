/- Layer 16: a number that comes. -/
import Derived.Test.YthddacgdmngfhaaGpK
namespace Go.Proofs.Ythddacgdmngfhaa.gap
open Go.Sort (grow)
open Go.ChangeShapes Go.WideShapes Go.ChangeAt Go.RowKit kit gapm
set_option maxRecDepth 100000
def addS (s : St) (d : Nat) : St := if lookV s d = 1 then add s (s.c + d) else s
def addD (s : St) (D : List Int) (d : Nat) (t : Int) : List Int := if lookV s d = 2 ∧ D.length < 16 then D ++ [t] else D
theorem infoU : (Try.prog.info? 28).map (fun i => (i.zero, i.size, i.bytes)) = some (some (.int .u32 0), 1, 4) := by kernel_rfl
theorem look_new {s : St} {d : Nat} (h : lookV s d = 1) : 0 < d ∧ d ≤ 1000 ∧ ¬ Mem (s.c + d) s.P := by
  unfold lookV at h
  by_cases h1 : d = 0 ∨ 2147483648 < d
  · rw [if_pos h1] at h; cases h
  · rw [if_neg h1] at h
    by_cases h2 : 1000 < d
    · rw [if_pos h2] at h; cases h
    · rw [if_neg h2] at h
      by_cases h3 : memB s.P (s.c + d) = true
      · rw [if_pos h3] at h; cases h
      · exact ⟨by omega, by omega, fun h => h3 (memB_iff.2 h)⟩
theorem own_arr {w : World} {b0 n : Nat} {t : TypeId} {v : Value} {xs : List Value} (own : w.ownsRow b0 t 1 v n xs) : ∃ (oa : Option Addr) (cap : Nat), v = .slice oa n cap := by
  rcases own.2 with ⟨rfl, h0⟩ | ⟨h, cap, cur, rfl, _⟩
  · have : n = 0 := h0
    exact ⟨none, 0, by rw [this]⟩
  · exact ⟨_, cap, rfl⟩
set_option maxHeartbeats 4000000 in
theorem add_any {b0 g C : Nat} {s : St} {D : List Int} {pv dv : Value} {w : World} (h : Gt b0 g C s D pv dv w) (d : Nat) (hd : d < 4294967296) (hok : s.Ok) (hn : s.P.length ≤ 1900) (hP : Bd s.P) (hc : s.c < 200000000) (hD : D.length ≤ 16) :
    Calls Try.prog 41 #[.pointer (some ⟨g, 0, none⟩), .int .u32 (ab C (s.c + d))] w fun e w' => e = .returned (.int .i64 (lookV s d)) ∧ JoS b0 g C (addS s d) (addD s D d (ab C (s.c + d))) pv dv w w' := by
  have hlk := look_any h d hd (by omega) hP (by omega)
  obtain ⟨c, P⟩ := s
  dsimp only at hn hc hlk ⊢
  have hb0 : b0 ≤ w.heap.size := by have := h.hg; have := h.B.lt; omega
  obtain ⟨lv, hlv⟩ : ∃ lv, lookV ⟨c, P⟩ d = lv := ⟨_, rfl⟩
  rw [hlv] at hlk ⊢
  have hl3 : lv = 1 ∨ lv = 2 ∨ lv = 3 := by
    rw [← hlv]; unfold lookV
    split
    · exact .inr (.inl rfl)
    · split
      · exact .inr (.inr rfl)
      · split
        · exact .inr (.inl rfl)
        · exact .inl rfl
  have HH := Lib.hid h
  obtain ⟨od, dcap, hdv⟩ := own_arr h.d
  go_enter Try.func41, Try.ntmps41
  clear h
  go_wp2_with fail
  refine hlk.mono ?_
  rintro e w1 ⟨rfl, hb1⟩
  have G1 := HH.out.below hb1 (Nat.le_refl _)
  have B1 : Below b0 w w1 := hb1.mono hb0
  have U1 : Up g pv dv w pv dv w1 := Up.of_below hb1
  have hb01 : b0 ≤ w1.heap.size := by have := hb1.size; omega
  have HX := Lib.hid (And.intro G1 (And.intro U1 B1))
  clear G1 U1 B1 hlk
  rcases hl3 with rfl | rfl | rfl
  · -- a new one
    obtain ⟨hd0, hd1, hm⟩ := look_new hlv
    have hj := join_any (c + d) HX.out.1 hn hP (by omega)
    have hjj : jn (c + d) P (idx (c + d) P) = join (c + d) P := jn_join _ _ c hok hm
    rw [hjj] at hj
    have hS : addS ⟨c, P⟩ d = goOn ⟨c, join (c + d) P⟩ := by unfold addS; rw [if_pos hlv]; rfl
    have hDD : addD ⟨c, P⟩ D d (ab C (c + d)) = D := by unfold addD; rw [if_neg (by rw [hlv]; omega)]
    have HE := Lib.hid (And.intro hS hDD)
    have hjl : (join (c + d) P).length ≤ 2000 := by have := jn_len (c + d) P (idx (c + d) P); rw [hjj] at this; omega
    have hjb : Bd (join (c + d) P) := fun p hp => by
      have h1 : ∀ y, Mem y (join (c + d) P) → y < 536870912 := fun y hy => by
        rcases (join_mem (c + d) y P c hok).1 hy with e | ⟨q, hq, hq1, hq2⟩
        · omega
        · have := (hP q hq).2; omega
      by_cases hcd : c + d = c + 1
      · -- its parts are these numbers still
        have key : ∀ p ∈ join (c + d) P, p.1 ≤ p.2 := by
          have hrec : ∀ (P : Pt) (b x : Nat), Inv b P → ∀ p ∈ join x P, p.1 ≤ p.2 ∨ False := by
            intro P
            induction P with
            | nil => intro b x _ p hp; simp [join] at hp; subst hp; exact .inl (Nat.le_refl _)
            | cons q r ih =>
              intro b x i p hp
              obtain ⟨f, t⟩ := q
              obtain ⟨i1, i2, i3⟩ := i
              have old : ∀ p ∈ r, p.1 ≤ p.2 := fun p hp => inv_le i3 p hp
              unfold join at hp
              split at hp
              · split at hp
                · rcases List.mem_cons.1 hp with rfl | hp
                  · exact .inl (by show x ≤ t; omega)
                  · exact .inl (old p hp)
                · rcases List.mem_cons.1 hp with rfl | hp
                  · exact .inl (Nat.le_refl _)
                  · rcases List.mem_cons.1 hp with rfl | hp
                    · exact .inl i2
                    · exact .inl (old p hp)
              · split at hp
                · cases r with
                  | nil =>
                    rcases List.mem_cons.1 hp with rfl | hp
                    · exact .inl (by show f ≤ x; omega)
                    · cases hp
                  | cons q2 r2 =>
                    obtain ⟨g2, u2⟩ := q2
                    have hq2 := old (g2, u2) (by simp)
                    dsimp only at hp hq2
                    split at hp
                    · rcases List.mem_cons.1 hp with rfl | hp
                      · exact .inl (by show f ≤ u2; have := i3.1; omega)
                      · exact .inl (old p (by simp [hp]))
                    · rcases List.mem_cons.1 hp with rfl | hp
                      · exact .inl (by show f ≤ x; omega)
                      · exact .inl (old p (by simpa using hp))
                · rcases List.mem_cons.1 hp with rfl | hp
                  · exact .inl i2
                  · exact ih t x i3 p hp
          intro p hp
          rcases hrec P c (c + d) hok p hp with q | q
          · exact q
          · exact q.elim
        have h2 := h1 _ ⟨p, hp, key p hp, Nat.le_refl _⟩
        have := key p hp
        omega
      · have hI : Inv c (join (c + d) P) := join_inv (c + d) P c hok (by omega) hm (by omega)
        exact bd_of hI h1 (Nat.le_refl _) p hp
    have HJL := Lib.hid (And.intro hjl hjb)
    clear hjj hS hDD hlv hm hP hok hjl hjb
    go_wp2_with fail
    refine hj.mono ?_
    rintro e w2 ⟨rfl, pv2, G2, U2, B2⟩
    have hg2 := goOn_any G2 HJL.out.1 HJL.out.2 (by omega)
    have HX2 := Lib.hid (And.intro U2 B2)
    clear hj G2 U2 B2
    go_wp2_with fail
    refine hg2.mono ?_
    rintro e w3 ⟨rfl, pv3, dv3, G3, U3, B3⟩
    have HX3 := Lib.hid (And.intro G3 (And.intro U3 B3))
    clear hg2 G3 U3 B3
    go_wp2_with fail
    go_ret
    refine ⟨rfl, ?_⟩
    rw [HE.out.1, HE.out.2]
    exact ⟨pv3, dv3, HX3.out.1, (HX.out.2.1.trans HX2.out.1).trans HX3.out.2.1, (HX.out.2.2.trans HX2.out.2).trans HX3.out.2.2⟩
  · -- one that came
    have hS : addS ⟨c, P⟩ d = ⟨c, P⟩ := by unfold addS; rw [if_neg (by rw [hlv]; omega)]
    have c2 : w1.cell? ⟨g, 2, none⟩ = some (.slice od D.length dcap) := (HX.out.1.B.cell 2).trans (congrArg some hdv)
    obtain ⟨m, hm⟩ : ∃ m, D.length = m := ⟨_, rfl⟩
    rw [hm] at c2
    by_cases hD16 : D.length < 16
    · have hDD : addD ⟨c, P⟩ D d (ab C (c + d)) = D ++ [ab C (c + d)] := by unfold addD; rw [if_pos ⟨hlv, hD16⟩]
      have HE := Lib.hid (And.intro hS hDD)
      have hm16 : (m : Int) < 16 := by omega
      obtain ⟨i0, hi, hz0, hz1, hz2⟩ := info_parts infoU
      have al : Below w1.heap.size w1 (w1.alloc (.cells #[.int .u32 (ab C (c + d))] 28)) := (Below.refl _ _).alloc (Nat.le_refl _) _
      have G2 := HX.out.1.below al (Nat.le_refl _)
      have V2 := Blk.new w1 28 #[.int .u32 (ab C (c + d))]
      have c2' : (w1.alloc (.cells #[.int .u32 (ab C (c + d))] 28)).cell? ⟨g, 2, none⟩ = some (.slice od D.length dcap) := (G2.B.cell 2).trans (congrArg some hdv)
      have d2 := G2.d
      rw [hdv] at d2
      rw [hm] at c2' d2
      have HN := Lib.hid (show ∀ j u, (#[.int .u32 (ab C (c + d))] : Array Value).toList[j]? = some u → (w1.alloc (.cells #[.int .u32 (ab C (c + d))] 28)).cell? ((⟨w1.heap.size, 0, none⟩ : Addr).add j) = some u from World.news_of_block V2)
      have HD2 := Lib.hid d2
      have U2 := HX.out.2.1.trans (Up.of_below al)
      have B2 := HX.out.2.2.trans (al.mono hb01)
      have hbb : b0 ≤ (w1.alloc (.cells #[.int .u32 (ab C (c + d))] 28)).heap.size := by have := al.size; omega
      have HM := Lib.hid hm
      have HF := Lib.hid (show ∀ (h8 cap8 : Nat) (w8 : World), w8.ownsRow b0 28 1 (.slice (some ⟨h8, 0, none⟩) (m + 1) cap8) (m + 1) (cellsU D ++ [.int .u32 (ab C (c + d))]) → (w1.alloc (.cells #[.int .u32 (ab C (c + d))] 28)).grownBy w8 (Value.slice od m dcap).ownBlock → ((Value.slice od m dcap).ownBlock = some h8 ∨ h8 = (w1.alloc (.cells #[.int .u32 (ab C (c + d))] 28)).heap.size) →
          Blk w8 g 189 #[.int .u32 (ab C c), pv, dv] ∧ JoS b0 g C ⟨c, P⟩ (D ++ [ab C (c + d)]) pv dv w (w8.setCell ⟨g, 2, none⟩ (.slice (some ⟨h8, 0, none⟩) (m + 1) cap8)) from fun h8 cap8 w8 own8 gr8 hat8 => by
        have hob : (Value.slice od m dcap).ownBlock = dv.ownBlock := by rw [hdv, HM.out]
        rw [hob] at gr8 hat8
        have G8 : Blk w8 g 189 _ := (gr8.block g G2.B.lt (fun e => G2.nd e.symm)).trans G2.B
        have p8 := own_other G2.p (fun k hk => gr8.block k (own_lt' G2.p hk) (fun e => G2.pd k hk e.symm))
        have h8g : h8 ≠ g := by
          rcases hat8 with q | q
          · intro e; exact G2.nd (by rw [q, e])
          · have := G2.B.lt; omega
        refine ⟨G8, pv, .slice (some ⟨h8, 0, none⟩) (m + 1) cap8, ⟨G8.set_ 2 _, own_other p8 (fun k hk => Below.heap_setCell w8 ⟨g, 2, none⟩ _ k (fun e => G2.np (by have e' : k = g := e; rw [← e']; exact hk))), ?_, G2.np, fun e => h8g (Option.some.inj e), fun k hk e => ?_, G2.hg⟩, U2.trans ⟨by have := gr8.size; simpa [World.setCell] using this, fun k hk h1 _ h3 => (Below.heap_setCell w8 ⟨g, 2, none⟩ _ k h1).trans (gr8.block k hk (fun e => h3 e.symm)), fun k hk => .inl hk, fun k hk => ?_⟩, ?_⟩
        · have hl : (D ++ [ab C (c + d)]).length = m + 1 := by rw [List.length_append, HM.out]; rfl
          rw [hl]
          have := own_other (w' := w8.setCell ⟨g, 2, none⟩ (.slice (some ⟨h8, 0, none⟩) (m + 1) cap8)) own8 (fun k hk => Below.heap_setCell w8 ⟨g, 2, none⟩ _ k (fun e => by cases hk; exact h8g e))
          simpa [cellsU] using this
        · cases e
          rcases hat8 with q | q
          · exact G2.pd h8 hk q
          · exact absurd (Nat.lt_of_lt_of_le (own_lt' G2.p hk) (Nat.le_of_eq q.symm)) (Nat.lt_irrefl _)
        · cases hk
          rcases hat8 with q | q
          · exact .inl q
          · exact .inr (Nat.le_of_eq q.symm)
        · exact (B2.grown gr8 hbb (fun k hk => own_ge G2.d k hk)).setCell (p := ⟨g, 2, none⟩) G2.hg _)
      clear hS hDD hlv hP hok G2 V2 d2 U2 B2 al hm HH hdv
      go_wp2_with (at_builtin; refine wpList_append_lies _ rfl _ _ 38 rfl b0 28 i0 (.int .u32 0) 1 4 Try.underlying38 hi hz0 hz1 hz2 rfl (by decide) (.slice od m dcap) m _ rfl HD2.out ⟨w1.heap.size, 0, none⟩ 1 1 (#[.int .u32 (ab C (c + d))] : Array Value).toList rfl rfl HN.out (by intro u hu; simp at hu; subst hu; rfl) (by omega) (by unfold maxLen; omega) (by omega) hbb (w1.alloc (.cells #[.int .u32 (ab C (c + d))] 28)).heap.size rfl ?_; intro h8 cap8 w8 hown8 hgrow8 hat8 hlt8; have HFF := HF.out h8 cap8 w8 hown8 hgrow8 hat8; have c8 := HFF.1.cell 2; have f8 := HFF.1.frozen 2; have HJ := Lib.hid HFF.2; clear HFF hown8 hgrow8 hat8)
      all_goals
        go_ret
        refine ⟨rfl, ?_⟩
        rw [HE.out.1, HE.out.2]
        exact HJ.out
    · have hDD : addD ⟨c, P⟩ D d (ab C (c + d)) = D := by unfold addD; rw [if_neg (fun q => hD16 q.2)]
      have HE := Lib.hid (And.intro hS hDD)
      have hm16 : (16 : Int) ≤ (m : Int) := by omega
      clear hS hDD hlv hP hok HH hdv
      go_wp2_with fail
      go_ret
      refine ⟨rfl, ?_⟩
      rw [HE.out.1, HE.out.2]
      exact ⟨pv, dv, HX.out.1, HX.out.2.1, HX.out.2.2⟩
  · -- too far
    have hS : addS ⟨c, P⟩ d = ⟨c, P⟩ := by unfold addS; rw [if_neg (by rw [hlv]; omega)]
    have hDD : addD ⟨c, P⟩ D d (ab C (c + d)) = D := by unfold addD; rw [if_neg (by rw [hlv]; omega)]
    have HE := Lib.hid (And.intro hS hDD)
    clear hS hDD hlv hP hok HH hdv
    go_wp2_with fail
    go_ret
    refine ⟨rfl, ?_⟩
    rw [HE.out.1, HE.out.2]
    exact ⟨pv, dv, HX.out.1, HX.out.2.1, HX.out.2.2⟩
end Go.Proofs.Ythddacgdmngfhaa.gap
