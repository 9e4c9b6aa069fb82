/- Layer 42: what is done next. -/
import Derived.Test.YtdocphkpeonldaaStoF
import Derived.Deep.RegionHeld3
namespace Go.Proofs.Ytdocphkpeonldaa.storm
open Go.Sort (grow)
open Go.ChangeShapes Go.WideShapes Go.ChangeAt Go.RowKit kit
open Go.WideMaps (KeyLaw)
set_option maxRecDepth 100000

/-- An act's cells. -/
def ac (W A B : Int) : Array Value := #[.int .i64 W, .int .i64 0, .int .i64 A, .int .i64 B, .int .i64 0, .int .i64 0, .int .i64 0, .int .i64 0, .string ⟨#[]⟩]
theorem szA (W A B : Int) : (Try.prog.info? 63).map (·.size) = some (ac W A B).size := by show _ = some 9; kernel_rfl
theorem ac_one (W A B : Int) : (ac W A B).all (·.oneCell') = true := by kernel_rfl
/-- What may be done with a packet of a way, when so many were lost, and what is counted then. -/
def Did (l d b m : Int) (f : Value → Int) (x : It) (W : Int) (f' : Value → Int) : Prop :=
  (x.bent = true ∧ W = 9 ∧ f' = f) ∨ (x.bent = false ∧ W = 10 ∧ 0 < l ∧ f (iw x) < m ∧ f' = up f (iw x) (f (iw x) + 1)) ∨
    (x.bent = false ∧ W = 12 ∧ 0 < b ∧ f (iw x) < m ∧ f' = up f (iw x) (f (iw x) + 1)) ∨ (x.bent = false ∧ W = 11 ∧ 0 < d ∧ f' = f) ∨ (x.bent = false ∧ W = 9 ∧ f' = up f (iw x) 0)
def NextOk (l d b m : Int) (f : Value → Int) (L : List It) (W A : Int) (f' : Value → Int) : Prop :=
  (W = 13 ∧ A = 1 ∧ f' = f) ∨ ∃ k : Nat, k < L.length ∧ k < 4 ∧ A = k ∧ Did l d b m f (L.getD k it0) W f'
/-- What Next comes to. -/
def NextPost (b0 g mp : Nat) (l d b m : Int) (f : Value → Int) (L : List It) (w : World) (e : Ending) (w' : World) : Prop :=
  ∃ W A B f', e = .returned (.agg (ac W A B)) ∧ NextOk l d b m f L W A f' ∧ (W = 13 → B = 0) ∧ Stm w' g mp l d b m f' ∧ Mv b0 g mp w w'
/-- The next number's seed, and the number. -/
def nx (x : Int) : Int := IntKind.u64.wrap (IntKind.u64.wrap (x * 6364136223846793005) + 1442695040888963407)
def ch (x o : Int) : Bool := decide (wrap64 ((nx x / 8589934592).tmod 100) < o)
theorem ch_pos (x o : Int) (h : ch x o = true) : 0 < o := by
  obtain ⟨r, hr, _⟩ := drawn x 100 (by omega) (by omega)
  have := of_decide_eq_true h
  unfold nx at this
  rw [hr] at this
  omega
theorem chance_fn (g mp : Nat) (x l d b m o : Int) (w : World) (B : Blk w g 160 (sr x l d b m mp)) : Calls Try.prog 88 #[.pointer (some ⟨g, 0, none⟩), .int .i64 o] w fun e w' => e = .returned (.bool (ch x o)) ∧ w' = w.setCell ⟨g, 0, none⟩ (.int .u64 (nx x)) := by
  have c0 : w.cell? ⟨g, 0, none⟩ = some (.int .u64 x) := B.cell 0
  have f0 := B.frozen 0
  have hu := u64_pos 100 (by omega) (by omega)
  have hd : Calls Try.prog 86 #[.pointer (some ⟨g, 0, none⟩), .int .i64 100] w fun e w' => e = .returned (.int .i64 (wrap64 ((nx x / 8589934592).tmod 100))) ∧ w' = w.setCell ⟨g, 0, none⟩ (.int .u64 (nx x)) := by
    unfold nx
    go_enter Try.func86, Try.ntmps86
    go_wp2
    go_ret
    exact ⟨rfl, rfl⟩
  clear c0 f0 hu
  unfold ch
  generalize wrap64 ((nx x / 8589934592).tmod 100) = r at *
  generalize nx x = y at *
  go_enter Try.func88, Try.ntmps88
  go_wp2_with fail
  refine hd.mono ?_
  rintro e w1 ⟨rfl, hw⟩
  go_wp2_with fail
  go_ret
  exact ⟨rfl, by first | exact hw | rfl⟩
/-- The walk's state: the storm, the answer's room, the way. -/
structure Nx (b0 g mp ta tw : Nat) (l d b m : Int) (f : Value → Int) (wc : Array Value) (w0 w : World) : Prop where
  stm : Stm w g mp l d b m f
  act : Blk w ta 63 (ac 0 0 0)
  way : Blk w tw 162 wc
  mv : Mv b0 g mp w0 w
theorem Nx.seed {b0 g mp ta tw : Nat} {l d b m : Int} {f : Value → Int} {wc : Array Value} {w0 w : World} (h : Nx b0 g mp ta tw l d b m f wc w0 w) (hg : b0 ≤ g) (hgm : mp ≠ g) (ha : ta ≠ g) (hw : tw ≠ g) (y : Int) : Nx b0 g mp ta tw l d b m f wc w0 (w.setCell ⟨g, 0, none⟩ (.int .u64 y)) := by
  obtain ⟨⟨⟨x, B⟩, C⟩, A, W, M⟩ := h
  exact ⟨⟨⟨y, B.set_ 0 (.int .u64 y)⟩, C.block (Below.heap_setCell w ⟨g, 0, none⟩ _ mp hgm)⟩, A.far (p := ⟨g, 0, none⟩) ha _, W.far (p := ⟨g, 0, none⟩) hw _, M.setG hg 0 _⟩
theorem Nx.drew {b0 g mp ta tw : Nat} {l d b m : Int} {f : Value → Int} {wc : Array Value} {w0 w : World} (h : Nx b0 g mp ta tw l d b m f wc w0 w) : Nx b0 g mp ta tw l d b m f wc w0 w.drew := ⟨h.stm.drew, h.act.drew, h.way.drew, h.mv.drew⟩
theorem Nx.mvd {b0 g mp ta tw : Nat} {l d b m : Int} {f f' : Value → Int} {wc : Array Value} {w0 w w' : World} (h : Nx b0 g mp ta tw l d b m f wc w0 w) (S : Stm w' g mp l d b m f') (M : Mv b0 g mp w w') (ha : ta ≠ g) (ham : ta ≠ mp) (hw : tw ≠ g) (hwm : tw ≠ mp) : Nx b0 g mp ta tw l d b m f' wc w0 w' :=
  ⟨S, M.two.blk h.act ha ham, M.two.blk h.way hw hwm, h.mv.trans M⟩
set_option maxHeartbeats 4000000 in
theorem next_gen (b0 g mp h cap : Nat) (l d b m : Int) (f : Value → Int) (L : List It) (w : World) (S : Stm w g mp l d b m f) (NT : Net w h L) (hg : b0 ≤ g) (hm : b0 ≤ mp) (hgm : mp ≠ g) (hhg : h ≠ g) (hhm : h ≠ mp) (hn0 : L.length ≠ 0) (hn : L.length ≤ 100) (hcap : L.length ≤ cap) (hcm : cap ≤ maxLen)
    (hwf : ∀ k, k < L.length → WfI (L.getD k it0)) (hf : ∀ k, k < L.length → 0 ≤ f (iw (L.getD k it0)) ∧ f (iw (L.getD k it0)) ≤ 1000) :
    Calls Try.prog 33 #[.pointer (some ⟨g, 0, none⟩), .slice (some ⟨h, 0, none⟩) L.length cap] w (NextPost b0 g mp l d b m f L w) := by
  have hgl := S.glt
  have hml := S.mlt
  have hhl := NT.lt
  have hbw : b0 ≤ w.heap.size := by omega
  have A1 := Blk.new w 63 (ac 0 0 0)
  have S1 := S.alloc (.cells (ac 0 0 0) 63)
  have NT1 := NT.block (((Below.refl w.heap.size w).alloc (Nat.le_refl _) (.cells (ac 0 0 0) 63)).block h hhl) (by simp)
  have M1 := (Mv.refl b0 g mp w).alloc hbw (.cells (ac 0 0 0) 63)
  have hne : ((L.length : Int) == 0) = false := beq_eq_false_iff_ne.2 (by omega)
  have HWF := Lib.hid hwf
  have HF := Lib.hid hf
  clear hwf hf
  go_enter Try.func33, Try.ntmps33
  go_upto_region 1 with (fail)
  rw [show w.alloc (.cells #[.int .i64 0, .int .i64 0, .int .i64 0, .int .i64 0, .int .i64 0, .int .i64 0, .int .i64 0, .int .i64 0, .string ⟨#[]⟩] 63) = w.alloc (.cells (ac 0 0 0) 63) from rfl]
  clear S NT
  generalize w.alloc (.cells (ac 0 0 0) 63) = w1 at *
  generalize hta : w.heap.size = ta at *
  go_wp2_with fail
  refine (draw_gen b0 g mp l d b m 8 f (by omega) (by omega) w1 S1 hg hgm).mono ?_
  rintro e w2 ⟨r, rfl, hr, S2, M2'⟩
  have A2 := M2'.two.blk A1 (by omega) (by omega)
  have NT2 := M2'.two.net NT1 hhg hhm
  have M2 := M1.trans M2'
  clear A1 S1 NT1 M1 M2'
  by_cases h0 : r = 0
  · subst h0
    have Z9 := (Cel.of_blk A2).setCells_same (ac 13 1 0).toList rfl
    have S9 := S2.setR (r := ta) (by omega) (by omega) 0 (ac 13 1 0).toList
    have M9 := M2.setR (r := ta) (by omega) (by omega) 0 (ac 13 1 0).toList
    go_wp2_with (refine wpList_store_at rfl 63 _ _ rfl ta 0 (ac 13 1 0) rfl rfl (ac 0 0 0) (Cel.of_blk A2) (szA _ _ _) rfl (ac_one _ _ _) ?_)
    exact bodyPost_ret (v := .agg (ac 13 1 0)) (results_cell_at rfl _ _ ta 0 (ac 13 1 0) _ rfl (Z9.congr rfl) Try.underlying63 rfl (szA _ _ _)) rfl ⟨13, 1, 0, _, rfl, .inl ⟨rfl, rfl, rfl⟩, fun _ => rfl, S9, M9⟩
  · have e0 : ((r : Int) == 0) = false := by simp; omega
    clear hr
    go_upto_region 3 with (fail)
    go_cut [5] (fun s5 wx => ∃ k : Nat, s5 = .int .i64 k ∧ k < L.length ∧ k < 4 ∧ Stm wx g mp l d b m f ∧ Mv b0 g mp w2 wx)
    case first =>
      go_wp2_with fail
      all_goals
        refine (draw_gen b0 g mp l d b m _ f (by omega) (by omega) w2 S2 hg hgm).mono ?_
        rintro e w3 ⟨k, rfl, hk, S3, M3'⟩
        go_wp2_with fail
        go_meet
        exact ⟨k, rfl, by omega, by omega, S3, M3'⟩
    case rest =>
    obtain ⟨k, rfl, hkl, hk4, S3, M3'⟩ := hcut
    have A3 := M3'.two.blk A2 (by omega) (by omega)
    have NT3 := M3'.two.net NT2 hhg hhm
    have M3 := M2.trans M3'
    clear A2 S2 NT2 M2 M3' h0 e0
    generalize wc = w3 at *
    have K0 := NT3.cel k hkl
    have wf := HWF.out k hkl
    have hfb := HF.out k hkl
    have hok : ∀ W f', Did l d b m f (L.getD k it0) W f' → NextOk l d b m f L W k f' := fun W f' hd => .inr ⟨k, hkl, hk4, rfl, hd⟩
    clear HWF HF
    rcases hx : L.getD k it0 with ⟨xl, xn, xf, xt, xs, xb⟩
    rw [hx] at K0 wf hfb hok
    clear hx
    have HOK := Lib.hid hok
    have HFB := Lib.hid hfb
    clear hok hfb
    have hki : (k : Int) < L.length := by omega
    have x5 : w3.cell? ⟨h, k * 6 + 5, none⟩ = some (.bool xb) := K0.cell 5 (u := .bool xb) rfl
    cases xb
    · obtain ⟨li, hli⟩ := wy_key (c := xl) (d := xf) (b := xt) wf.l wf.f wf.t
      have szz : (Try.prog.info? 70).map (·.size) = some (#[.int .i64 xl, .int .i64 xn, .int .u32 xf, .int .u32 xt, .string xs, .bool false] : Array Value).size := by show _ = some 6; kernel_rfl
      have hwy := wayOf_any ⟨xl, xn, xf, xt, xs, false⟩ w3
      clear wf
      go_upto_region 6 with (fail)
      go_wp2_with (refine wpList_load_at rfl 70 _ rfl h (k * 6) rfl #[.int .i64 xl, .int .i64 xn, .int .u32 xf, .int .u32 xt, .string xs, .bool false] _ K0 Try.underlying70 rfl szz ?_)
      refine hwy.mono ?_
      rintro e w4 ⟨rfl, hb4⟩
      have S4 := S3.below hb4 S3.glt S3.mlt
      have A4 := A3.below hb4 A3.lt
      have M4 := M3.below hb4 (by have := A3.lt; omega)
      clear S3 A3 M3 hb4 hwy NT3 K0 szz x5
      unfold iw wy
      dsimp only
      go_upto_region 7 with (fail)
      have W5 := Blk.new w4 162 #[.int .i64 xl, .int .u32 xf, .int .u32 xt]
      have HX : Nx b0 g mp ta w4.heap.size l d b m f #[.int .i64 xl, .int .u32 xf, .int .u32 xt] w (w4.alloc (.cells #[.int .i64 xl, .int .u32 xf, .int .u32 xt] 162)) := ⟨S4.alloc _, A4.alloc _, W5, M4.alloc (by have := A4.lt; omega) _⟩
      have htw1 : g < w4.heap.size := S4.glt
      have htw2 : mp < w4.heap.size := S4.mlt
      have htw3 : ta < w4.heap.size := A4.lt
      have htw4 : w.heap.size ≤ w4.heap.size := M4.two.size
      clear S4 A4 M4 W5
      generalize w4.alloc (.cells #[.int .i64 xl, .int .u32 xf, .int .u32 xt] 162) = w6 at *
      generalize w4.heap.size = tw at *
      have htwg : tw ≠ g := by omega
      obtain ⟨n0, hn0⟩ : ∃ n0, n0 = f (wy xl xf xt) := ⟨_, rfl⟩
      have hn0 := Lib.hid hn0
      have szw : (Try.prog.info? 162).map (·.size) = some (#[.int .i64 xl, .int .u32 xf, .int .u32 xt] : Array Value).size := by show _ = some 3; kernel_rfl
      have htag : ta ≠ g := by omega
      have htam : ta ≠ mp := by omega
      have htwm : tw ≠ mp := by omega
      generalize w6 = wc at *
      go_cut [37] (fun s37 wx => ∃ c : Bool, s37 = .bool c ∧ (c = true → 0 < l ∧ f (wy xl xf xt) < m) ∧ Nx b0 g mp ta tw l d b m f #[.int .i64 xl, .int .u32 xf, .int .u32 xt] w wx)
      case first =>
        have HXA := Lib.hid HX
        obtain ⟨⟨⟨x, B⟩, C⟩, A, W, M⟩ := HX
        have lx : wc.drew.cell? ⟨g, 1, none⟩ = some (.int .i64 l) := B.cell 1
        have lx' : wc.cell? ⟨g, 1, none⟩ = some (.int .i64 l) := B.cell 1
        have y5a : wc.drew.cell? ⟨g, 5, none⟩ = some (.map (some mp)) := B.cell 5
        have y4a : wc.drew.cell? ⟨g, 4, none⟩ = some (.int .i64 m) := B.cell 4
        have v0a : wc.drew.cell? ⟨tw, 0, none⟩ = some (.int .i64 xl) := W.cell 0
        have v1a : wc.drew.cell? ⟨tw, 1, none⟩ = some (.int .u32 xf) := W.cell 1
        have v2a : wc.drew.cell? ⟨tw, 2, none⟩ = some (.int .u32 xt) := W.cell 2
        have C0 := C.drew
        have hch := chance_fn g mp x l d b m l wc.drew B
        obtain ⟨c, hc⟩ : ∃ c, ch x l = c := ⟨_, rfl⟩
        have hcp := ch_pos x l
        rw [hc] at hch hcp
        have HCP := Lib.hid hcp
        clear hcp hc
        have D1 := B.drew.set_ 0 (.int .u64 (nx x))
        have W1 := W.drew.far (p := ⟨g, 0, none⟩) htwg (.int .u64 (nx x))
        have C1 := C.drew.block (Below.heap_setCell wc.drew ⟨g, 0, none⟩ (.int .u64 (nx x)) mp hgm)
        clear A M B C W
        obtain ⟨w5, hw5⟩ : ∃ w5, wc.drew.setCell ⟨g, 0, none⟩ (.int .u64 (nx x)) = w5 := ⟨_, rfl⟩
        rw [hw5] at hch D1 W1 C1
        have HX5 : Nx b0 g mp ta tw l d b m f #[.int .i64 xl, .int .u32 xf, .int .u32 xt] w w5 := by rw [← hw5]; exact HXA.out.drew.seed hg hgm htag htwg _
        have HX5 := Lib.hid HX5
        clear hw5 HXA
        have lx5 : w5.cell? ⟨g, 1, none⟩ = some (.int .i64 l) := D1.cell 1
        have y5 : w5.cell? ⟨g, 5, none⟩ = some (.map (some mp)) := D1.cell 5
        have y4 : w5.cell? ⟨g, 4, none⟩ = some (.int .i64 m) := D1.cell 4
        have v0 : w5.cell? ⟨tw, 0, none⟩ = some (.int .i64 xl) := W1.cell 0
        have v1 : w5.cell? ⟨tw, 1, none⟩ = some (.int .u32 xf) := W1.cell 1
        have v2 : w5.cell? ⟨tw, 2, none⟩ = some (.int .u32 xt) := W1.cell 2
        have lk := C1.look keyLaw uM zI hli
        rw [← hn0.out] at lk
        unfold wy at lk
        clear D1 W1 C1
        have lk0 := C0.look keyLaw uM zI hli
        rw [← hn0.out] at lk0
        unfold wy at lk0
        clear C0
        cases c
        · refine wp_region_any (by kernel_rfl) ?_
          change wpAny _ _ _ _ _ _ _ (World.drew _)
          refine wpAny_take (i := 0) (v := ?_) rfl (by kernel_rfl) (by kernel_rfl) (by kernel_rfl) (fun _ _ _ h => h) (Or.inl ⟨by kernel_rfl, ?_⟩) ?_; rotate_left; (intro w; go_simp; try with_reducible rfl)
          refine wpAny_take (i := 1) (v := ?_) rfl (by kernel_rfl) (by kernel_rfl) (by kernel_rfl) (fun _ _ _ h => h) (Or.inl ⟨by kernel_rfl, ?_⟩) ?_; rotate_left; (intro w; go_simp; try with_reducible rfl)
          refine wpAny_take (i := 2) (v := ?_) rfl (by kernel_rfl) (by kernel_rfl) (by kernel_rfl) (fun _ _ _ h => h) (Or.inl ⟨by kernel_rfl, ?_⟩) ?_; rotate_left; (intro w; go_simp; try with_reducible rfl)
          refine wpAny_take (i := 3) (v := ?_) rfl (by kernel_rfl) (by kernel_rfl) (by kernel_rfl) (fun _ _ _ h => h) (Or.inl ⟨by kernel_rfl, ?_⟩) ?_; rotate_left; (intro w; go_simp; try with_reducible rfl)
          refine wpAny_take (i := 4) (v := ?_) rfl (by kernel_rfl) (by kernel_rfl) (by kernel_rfl) (fun _ _ _ h => h) (Or.inl ⟨by kernel_rfl, ?_⟩) ?_; rotate_left; (intro w; go_simp; try with_reducible rfl)
          refine wpAny_ready (rs := [5]) (by kernel_rfl) (by simp) ?_
          refine AllReady.cons rfl (fun K hK => ?_) AllReady.nil
          go_simp
          refine hK _ _ ?_
          clear hK K
          refine wpAny_ready (rs := [6]) (by kernel_rfl) (by simp) ?_
          refine AllReady.cons rfl (fun K hK => ?_) AllReady.nil
          refine step_call (by rfl) 88 Try.f88 _ _ (by rfl) Try.func88 (by kernel_rfl) (by kernel_rfl) #[.pointer (some ⟨g, 0, none⟩), .int .i64 l] (by simp [Act.eval, Act.put]) hch ?_
          intro w7 hw7
          subst hw7
          refine hK _ _ ?_
          clear hK K
          refine wpAny_take (i := 7) (v := ?_) rfl (by kernel_rfl) (by kernel_rfl) (by kernel_rfl) (fun _ _ _ h => h) (Or.inl ⟨by kernel_rfl, ?_⟩) ?_; rotate_left; (intro w; go_simp; try with_reducible rfl)
          refine wpAny_take (i := 8) (v := undef) rfl (by kernel_rfl) (by kernel_rfl) (by kernel_rfl) (fun _ _ _ h => h) (Or.inr ⟨by kernel_rfl, rfl⟩) ?_
          refine wpAny_take (i := 9) (v := undef) rfl (by kernel_rfl) (by kernel_rfl) (by kernel_rfl) (fun _ _ _ h => h) (Or.inr ⟨by kernel_rfl, rfl⟩) ?_
          refine wpAny_take (i := 10) (v := undef) rfl (by kernel_rfl) (by kernel_rfl) (by kernel_rfl) (fun _ _ _ h => h) (Or.inr ⟨by kernel_rfl, rfl⟩) ?_
          generalize hF : wpAny _ _ _ _ _ _ = F
          go_simp
          subst hF
          refine wpAny_take (i := 11) (v := undef) rfl (by kernel_rfl) (by kernel_rfl) (by kernel_rfl) (fun _ _ _ h => h) (Or.inr ⟨by kernel_rfl, rfl⟩) ?_
          refine wpAny_take (i := 12) (v := undef) rfl (by kernel_rfl) (by kernel_rfl) (by kernel_rfl) (fun _ _ _ h => h) (Or.inr ⟨by kernel_rfl, rfl⟩) ?_
          refine wpAny_take (i := 13) (v := undef) rfl (by kernel_rfl) (by kernel_rfl) (by kernel_rfl) (fun _ _ _ h => h) (Or.inr ⟨by kernel_rfl, rfl⟩) ?_
          generalize hF : wpAny _ _ _ _ _ _ = F
          go_simp
          subst hF
          refine wpAny_take (i := 14) (v := undef) rfl (by kernel_rfl) (by kernel_rfl) (by kernel_rfl) (fun _ _ _ h => h) (Or.inr ⟨by kernel_rfl, rfl⟩) ?_
          refine wpAny_take (i := 15) (v := undef) rfl (by kernel_rfl) (by kernel_rfl) (by kernel_rfl) (fun _ _ _ h => h) (Or.inr ⟨by kernel_rfl, rfl⟩) ?_
          refine wpAny_take (i := 16) (v := undef) rfl (by kernel_rfl) (by kernel_rfl) (by kernel_rfl) (fun _ _ _ h => h) (Or.inr ⟨by kernel_rfl, rfl⟩) ?_
          generalize hF : wpAny _ _ _ _ _ _ = F
          go_simp
          subst hF
          refine wpAny_take (i := 17) (v := undef) rfl (by kernel_rfl) (by kernel_rfl) (by kernel_rfl) (fun _ _ _ h => h) (Or.inr ⟨by kernel_rfl, rfl⟩) ?_
          refine wpAny_take (i := 18) (v := undef) rfl (by kernel_rfl) (by kernel_rfl) (by kernel_rfl) (fun _ _ _ h => h) (Or.inr ⟨by kernel_rfl, rfl⟩) ?_
          refine wpAny_take (i := 19) (v := undef) rfl (by kernel_rfl) (by kernel_rfl) (by kernel_rfl) (fun _ _ _ h => h) (Or.inr ⟨by kernel_rfl, rfl⟩) ?_
          generalize hF : wpAny _ _ _ _ _ _ = F
          go_simp
          subst hF
          refine wpAny_take (i := 20) (v := ?_) rfl (by kernel_rfl) (by kernel_rfl) (by kernel_rfl) (fun _ _ _ h => h) (Or.inl ⟨by kernel_rfl, ?_⟩) ?_; rotate_left; (intro w; go_simp; try with_reducible rfl)
          refine wpAny_take (i := 21) (v := ?_) rfl (by kernel_rfl) (by kernel_rfl) (by kernel_rfl) (fun _ _ _ h => h) (Or.inl ⟨by kernel_rfl, ?_⟩) ?_; rotate_left; (intro w; go_simp; try with_reducible rfl)
          generalize hF : wpAny _ _ _ _ _ _ = F
          go_simp
          subst hF
          refine wpAny_done (by kernel_rfl) ?_ _
          go_wp2_with fail
          go_meet
          exact ⟨_, rfl, fun h => (by cases h), HX5.out⟩
        · go_region_held3 (fun w' => w'.cell? ⟨g, 1, none⟩ = some (.int .i64 l) ∧ w'.cell? ⟨g, 5, none⟩ = some (.map (some mp)) ∧ w'.cell? ⟨g, 4, none⟩ = some (.int .i64 m) ∧ w'.cell? ⟨tw, 0, none⟩ = some (.int .i64 xl) ∧ w'.cell? ⟨tw, 1, none⟩ = some (.int .u32 xf) ∧ w'.cell? ⟨tw, 2, none⟩ = some (.int .u32 xt) ∧ (Instr.lookup 158 (.map (some mp)) (.agg #[.int .i64 xl, .int .u32 xf, .int .u32 xt]) false).run Try.prog w' = .ok (.int .i64 n0) w')
            (first | with_reducible exact ⟨lx, y5a, y4a, v0a, v1a, v2a, lk0⟩ | with_reducible exact ⟨lx5, y5, y4, v0, v1, v2, lk⟩ | go_keep)
            ((refine step_call (by rfl) 88 Try.f88 _ _ (by rfl) Try.func88 (by kernel_rfl) (by kernel_rfl) #[.pointer (some ⟨g, 0, none⟩), .int .i64 l] (by simp [Act.eval, Act.put]) hch ?_; intro w7 hw7; subst hw7))
          all_goals
            go_wp2_with fail
            go_meet
            exact ⟨_, rfl, fun h => ⟨HCP.out (by first | trivial | rfl), by first | exact of_decide_eq_true h | (rw [← hn0.out]; exact of_decide_eq_true h)⟩, HX5.out⟩
      case rest =>
      obtain ⟨c, rfl, hcl, HX⟩ := hcut
      cases c
      rotate_left
      · go_wp2_with (refine wpList_load_at rfl 162 _ rfl tw 0 rfl #[.int .i64 xl, .int .u32 xf, .int .u32 xt] _ (Cel.of_blk HX.way) Try.underlying162 rfl szw ?_)
        refine (note_gen b0 g mp l d b m xl xf xt f _ HX.stm hg hm hgm hli HFB.out.1 HFB.out.2).mono ?_
        rintro e w7 ⟨rfl, S7, M7⟩
        have HX7 := HX.mvd S7 M7 htag htam htwg htwm
        clear HX S7 M7
        obtain ⟨S8, A8, W8, M8⟩ := HX7
        have hc2 := hcl (by first | trivial | rfl)
        have hok := HOK.out 10 _ (.inr (.inl ⟨rfl, rfl, hc2.1, hc2.2, rfl⟩))
        clear hcl HOK HFB W8 hli szw
        go_upto_region 9 with (fail)
        have Z9 := (Cel.of_blk A8).setCells_same (ac 10 k 0).toList rfl
        have S9 := S8.setR (r := ta) (by omega) (by omega) 0 (ac 10 k 0).toList
        have M9 := M8.setR (r := ta) (by omega) (by omega) 0 (ac 10 k 0).toList
        go_wp2_with (refine wpList_store_at rfl 63 _ _ rfl ta 0 (ac 10 k 0) rfl rfl (ac 0 0 0) (Cel.of_blk A8) (szA _ _ _) rfl (ac_one _ _ _) ?_)
        exact bodyPost_ret (v := .agg (ac 10 k 0)) (results_cell_at rfl _ _ ta 0 (ac 10 k 0) _ rfl (Z9.congr rfl) Try.underlying63 rfl (szA _ _ _)) rfl ⟨10, k, 0, _, rfl, hok, (fun _ => rfl), S9, M9⟩
      · clear hcl
        go_upto_region 10 with (fail)
        go_cut [64] (fun s64 wx => ∃ c : Bool, s64 = .bool c ∧ (c = true → 0 < b ∧ f (wy xl xf xt) < m) ∧ Nx b0 g mp ta tw l d b m f #[.int .i64 xl, .int .u32 xf, .int .u32 xt] w wx)
        case first =>
          have HXA := Lib.hid HX
          obtain ⟨⟨⟨x, B⟩, C⟩, A, W, M⟩ := HX
          have lx : wc.drew.cell? ⟨g, 3, none⟩ = some (.int .i64 b) := B.cell 3
          have lx' : wc.cell? ⟨g, 3, none⟩ = some (.int .i64 b) := B.cell 3
          have y5a : wc.drew.cell? ⟨g, 5, none⟩ = some (.map (some mp)) := B.cell 5
          have y4a : wc.drew.cell? ⟨g, 4, none⟩ = some (.int .i64 m) := B.cell 4
          have v0a : wc.drew.cell? ⟨tw, 0, none⟩ = some (.int .i64 xl) := W.cell 0
          have v1a : wc.drew.cell? ⟨tw, 1, none⟩ = some (.int .u32 xf) := W.cell 1
          have v2a : wc.drew.cell? ⟨tw, 2, none⟩ = some (.int .u32 xt) := W.cell 2
          have C0 := C.drew
          have hch := chance_fn g mp x l d b m b wc.drew B
          obtain ⟨c, hc⟩ : ∃ c, ch x b = c := ⟨_, rfl⟩
          have hcp := ch_pos x b
          rw [hc] at hch hcp
          have HCP := Lib.hid hcp
          clear hcp hc
          have D1 := B.drew.set_ 0 (.int .u64 (nx x))
          have W1 := W.drew.far (p := ⟨g, 0, none⟩) htwg (.int .u64 (nx x))
          have C1 := C.drew.block (Below.heap_setCell wc.drew ⟨g, 0, none⟩ (.int .u64 (nx x)) mp hgm)
          clear A M B C W
          obtain ⟨w5, hw5⟩ : ∃ w5, wc.drew.setCell ⟨g, 0, none⟩ (.int .u64 (nx x)) = w5 := ⟨_, rfl⟩
          rw [hw5] at hch D1 W1 C1
          have HX5 : Nx b0 g mp ta tw l d b m f #[.int .i64 xl, .int .u32 xf, .int .u32 xt] w w5 := by rw [← hw5]; exact HXA.out.drew.seed hg hgm htag htwg _
          have HX5 := Lib.hid HX5
          clear hw5 HXA
          have lx5 : w5.cell? ⟨g, 3, none⟩ = some (.int .i64 b) := D1.cell 3
          have y5 : w5.cell? ⟨g, 5, none⟩ = some (.map (some mp)) := D1.cell 5
          have y4 : w5.cell? ⟨g, 4, none⟩ = some (.int .i64 m) := D1.cell 4
          have v0 : w5.cell? ⟨tw, 0, none⟩ = some (.int .i64 xl) := W1.cell 0
          have v1 : w5.cell? ⟨tw, 1, none⟩ = some (.int .u32 xf) := W1.cell 1
          have v2 : w5.cell? ⟨tw, 2, none⟩ = some (.int .u32 xt) := W1.cell 2
          have lk := C1.look keyLaw uM zI hli
          rw [← hn0.out] at lk
          unfold wy at lk
          clear D1 W1 C1
          have lk0 := C0.look keyLaw uM zI hli
          rw [← hn0.out] at lk0
          unfold wy at lk0
          clear C0
          cases c
          · refine wp_region_any (by kernel_rfl) ?_
            change wpAny _ _ _ _ _ _ _ (World.drew _)
            refine wpAny_take (i := 0) (v := ?_) rfl (by kernel_rfl) (by kernel_rfl) (by kernel_rfl) (fun _ _ _ h => h) (Or.inl ⟨by kernel_rfl, ?_⟩) ?_; rotate_left; (intro w; go_simp; try with_reducible rfl)
            refine wpAny_take (i := 1) (v := ?_) rfl (by kernel_rfl) (by kernel_rfl) (by kernel_rfl) (fun _ _ _ h => h) (Or.inl ⟨by kernel_rfl, ?_⟩) ?_; rotate_left; (intro w; go_simp; try with_reducible rfl)
            refine wpAny_take (i := 2) (v := ?_) rfl (by kernel_rfl) (by kernel_rfl) (by kernel_rfl) (fun _ _ _ h => h) (Or.inl ⟨by kernel_rfl, ?_⟩) ?_; rotate_left; (intro w; go_simp; try with_reducible rfl)
            refine wpAny_take (i := 3) (v := ?_) rfl (by kernel_rfl) (by kernel_rfl) (by kernel_rfl) (fun _ _ _ h => h) (Or.inl ⟨by kernel_rfl, ?_⟩) ?_; rotate_left; (intro w; go_simp; try with_reducible rfl)
            refine wpAny_take (i := 4) (v := ?_) rfl (by kernel_rfl) (by kernel_rfl) (by kernel_rfl) (fun _ _ _ h => h) (Or.inl ⟨by kernel_rfl, ?_⟩) ?_; rotate_left; (intro w; go_simp; try with_reducible rfl)
            refine wpAny_ready (rs := [5]) (by kernel_rfl) (by simp) ?_
            refine AllReady.cons rfl (fun K hK => ?_) AllReady.nil
            go_simp
            refine hK _ _ ?_
            clear hK K
            refine wpAny_ready (rs := [6]) (by kernel_rfl) (by simp) ?_
            refine AllReady.cons rfl (fun K hK => ?_) AllReady.nil
            refine step_call (by rfl) 88 Try.f88 _ _ (by rfl) Try.func88 (by kernel_rfl) (by kernel_rfl) #[.pointer (some ⟨g, 0, none⟩), .int .i64 b] (by simp [Act.eval, Act.put]) hch ?_
            intro w7 hw7
            subst hw7
            refine hK _ _ ?_
            clear hK K
            refine wpAny_take (i := 7) (v := ?_) rfl (by kernel_rfl) (by kernel_rfl) (by kernel_rfl) (fun _ _ _ h => h) (Or.inl ⟨by kernel_rfl, ?_⟩) ?_; rotate_left; (intro w; go_simp; try with_reducible rfl)
            refine wpAny_take (i := 8) (v := undef) rfl (by kernel_rfl) (by kernel_rfl) (by kernel_rfl) (fun _ _ _ h => h) (Or.inr ⟨by kernel_rfl, rfl⟩) ?_
            refine wpAny_take (i := 9) (v := undef) rfl (by kernel_rfl) (by kernel_rfl) (by kernel_rfl) (fun _ _ _ h => h) (Or.inr ⟨by kernel_rfl, rfl⟩) ?_
            refine wpAny_take (i := 10) (v := undef) rfl (by kernel_rfl) (by kernel_rfl) (by kernel_rfl) (fun _ _ _ h => h) (Or.inr ⟨by kernel_rfl, rfl⟩) ?_
            generalize hF : wpAny _ _ _ _ _ _ = F
            go_simp
            subst hF
            refine wpAny_take (i := 11) (v := undef) rfl (by kernel_rfl) (by kernel_rfl) (by kernel_rfl) (fun _ _ _ h => h) (Or.inr ⟨by kernel_rfl, rfl⟩) ?_
            refine wpAny_take (i := 12) (v := undef) rfl (by kernel_rfl) (by kernel_rfl) (by kernel_rfl) (fun _ _ _ h => h) (Or.inr ⟨by kernel_rfl, rfl⟩) ?_
            refine wpAny_take (i := 13) (v := undef) rfl (by kernel_rfl) (by kernel_rfl) (by kernel_rfl) (fun _ _ _ h => h) (Or.inr ⟨by kernel_rfl, rfl⟩) ?_
            generalize hF : wpAny _ _ _ _ _ _ = F
            go_simp
            subst hF
            refine wpAny_take (i := 14) (v := undef) rfl (by kernel_rfl) (by kernel_rfl) (by kernel_rfl) (fun _ _ _ h => h) (Or.inr ⟨by kernel_rfl, rfl⟩) ?_
            refine wpAny_take (i := 15) (v := undef) rfl (by kernel_rfl) (by kernel_rfl) (by kernel_rfl) (fun _ _ _ h => h) (Or.inr ⟨by kernel_rfl, rfl⟩) ?_
            refine wpAny_take (i := 16) (v := undef) rfl (by kernel_rfl) (by kernel_rfl) (by kernel_rfl) (fun _ _ _ h => h) (Or.inr ⟨by kernel_rfl, rfl⟩) ?_
            generalize hF : wpAny _ _ _ _ _ _ = F
            go_simp
            subst hF
            refine wpAny_take (i := 17) (v := undef) rfl (by kernel_rfl) (by kernel_rfl) (by kernel_rfl) (fun _ _ _ h => h) (Or.inr ⟨by kernel_rfl, rfl⟩) ?_
            refine wpAny_take (i := 18) (v := undef) rfl (by kernel_rfl) (by kernel_rfl) (by kernel_rfl) (fun _ _ _ h => h) (Or.inr ⟨by kernel_rfl, rfl⟩) ?_
            refine wpAny_take (i := 19) (v := undef) rfl (by kernel_rfl) (by kernel_rfl) (by kernel_rfl) (fun _ _ _ h => h) (Or.inr ⟨by kernel_rfl, rfl⟩) ?_
            generalize hF : wpAny _ _ _ _ _ _ = F
            go_simp
            subst hF
            refine wpAny_take (i := 20) (v := ?_) rfl (by kernel_rfl) (by kernel_rfl) (by kernel_rfl) (fun _ _ _ h => h) (Or.inl ⟨by kernel_rfl, ?_⟩) ?_; rotate_left; (intro w; go_simp; try with_reducible rfl)
            refine wpAny_take (i := 21) (v := ?_) rfl (by kernel_rfl) (by kernel_rfl) (by kernel_rfl) (fun _ _ _ h => h) (Or.inl ⟨by kernel_rfl, ?_⟩) ?_; rotate_left; (intro w; go_simp; try with_reducible rfl)
            generalize hF : wpAny _ _ _ _ _ _ = F
            go_simp
            subst hF
            refine wpAny_done (by kernel_rfl) ?_ _
            go_wp2_with fail
            go_meet
            exact ⟨_, rfl, fun h => (by cases h), HX5.out⟩
          · go_region_held3 (fun w' => w'.cell? ⟨g, 3, none⟩ = some (.int .i64 b) ∧ w'.cell? ⟨g, 5, none⟩ = some (.map (some mp)) ∧ w'.cell? ⟨g, 4, none⟩ = some (.int .i64 m) ∧ w'.cell? ⟨tw, 0, none⟩ = some (.int .i64 xl) ∧ w'.cell? ⟨tw, 1, none⟩ = some (.int .u32 xf) ∧ w'.cell? ⟨tw, 2, none⟩ = some (.int .u32 xt) ∧ (Instr.lookup 158 (.map (some mp)) (.agg #[.int .i64 xl, .int .u32 xf, .int .u32 xt]) false).run Try.prog w' = .ok (.int .i64 n0) w')
              (first | with_reducible exact ⟨lx, y5a, y4a, v0a, v1a, v2a, lk0⟩ | with_reducible exact ⟨lx5, y5, y4, v0, v1, v2, lk⟩ | go_keep)
              ((refine step_call (by rfl) 88 Try.f88 _ _ (by rfl) Try.func88 (by kernel_rfl) (by kernel_rfl) #[.pointer (some ⟨g, 0, none⟩), .int .i64 b] (by simp [Act.eval, Act.put]) hch ?_; intro w7 hw7; subst hw7))
            all_goals
              go_wp2_with fail
              go_meet
              exact ⟨_, rfl, fun h => ⟨HCP.out (by first | trivial | rfl), by first | exact of_decide_eq_true h | (rw [← hn0.out]; exact of_decide_eq_true h)⟩, HX5.out⟩
        case rest =>
        obtain ⟨c, rfl, hcl, HX⟩ := hcut
        cases c
        rotate_left
        · go_wp2_with (refine wpList_load_at rfl 162 _ rfl tw 0 rfl #[.int .i64 xl, .int .u32 xf, .int .u32 xt] _ (Cel.of_blk HX.way) Try.underlying162 rfl szw ?_)
          refine (note_gen b0 g mp l d b m xl xf xt f _ HX.stm hg hm hgm hli HFB.out.1 HFB.out.2).mono ?_
          rintro e w7 ⟨rfl, S7, M7⟩
          have HX7 := HX.mvd S7 M7 htag htam htwg htwm
          clear HX S7 M7
          obtain ⟨S8, A8, W8, M8⟩ := HX7
          have hc2 := hcl (by first | trivial | rfl)
          have hok := HOK.out 12 _ (.inr (.inr (.inl ⟨rfl, rfl, hc2.1, hc2.2, rfl⟩)))
          clear hcl HOK HFB W8 hli szw
          go_wp2_with fail
          refine (draw_gen b0 g mp l d b m 16384 _ (by omega) (by omega) w7 S8 hg hgm).mono ?_
          rintro e w8 ⟨bb, rfl, hbb, S9', M9'⟩
          have A9 := M9'.two.blk A8 htag htam
          have M9'' := M8.trans M9'
          have Z9 := (Cel.of_blk A9).setCells_same (ac 12 k bb).toList rfl
          have S9 := S9'.setR (r := ta) (by omega) (by omega) 0 (ac 12 k bb).toList
          have M9 := M9''.setR (r := ta) (by omega) (by omega) 0 (ac 12 k bb).toList
          go_wp2_with (refine wpList_store_at rfl 63 _ _ rfl ta 0 (ac 12 k bb) rfl rfl (ac 0 0 0) (Cel.of_blk A9) (szA _ _ _) rfl (ac_one _ _ _) ?_)
          exact bodyPost_ret (v := .agg (ac 12 k bb)) (results_cell_at rfl _ _ ta 0 (ac 12 k bb) _ rfl (Z9.congr rfl) Try.underlying63 rfl (szA _ _ _)) rfl ⟨12, k, bb, _, rfl, hok, (fun h => by omega), S9, M9⟩
        · clear hcl
          go_upto_region 13 with (fail)
          go_cut [93] (fun s93 wx => ∃ c : Bool, s93 = .bool c ∧ (c = true → 0 < d) ∧ Nx b0 g mp ta tw l d b m f #[.int .i64 xl, .int .u32 xf, .int .u32 xt] w wx)
          case first =>
            obtain ⟨x, B⟩ := HX.stm.blk
            have lx' : wc.cell? ⟨g, 2, none⟩ = some (.int .i64 d) := B.cell 2
            clear B
            have hl150 : decide ((L.length : Int) < 150) = true := decide_eq_true (by omega)
            go_wp2_with fail
            refine (chance_gen b0 g mp l d b m d f _ HX.stm hg hgm).mono ?_
            rintro e w7 ⟨c, rfl, hcd, S7, M7⟩
            have HX7 := Lib.hid (HX.mvd S7 M7 htag htam htwg htwm)
            clear HX S7 M7 lx'
            cases c
            · go_wp2_with fail
              go_meet
              exact ⟨_, rfl, fun h => (by cases h), HX7.out⟩
            · go_wp2_with fail
              go_meet
              exact ⟨_, rfl, fun h => hcd (by first | trivial | rfl), HX7.out⟩
          case rest =>
          obtain ⟨c, rfl, hcl, HX⟩ := hcut
          cases c
          rotate_left
          · obtain ⟨S8, A8, W8, M8⟩ := HX
            have hok := HOK.out 11 f (.inr (.inr (.inr (.inl ⟨rfl, rfl, hcl (by first | trivial | rfl), rfl⟩))))
            clear hcl HOK HFB W8 hli szw
            go_upto_region 14 with (fail)
            have Z9 := (Cel.of_blk A8).setCells_same (ac 11 k 0).toList rfl
            have S9 := S8.setR (r := ta) (by omega) (by omega) 0 (ac 11 k 0).toList
            have M9 := M8.setR (r := ta) (by omega) (by omega) 0 (ac 11 k 0).toList
            go_wp2_with (refine wpList_store_at rfl 63 _ _ rfl ta 0 (ac 11 k 0) rfl rfl (ac 0 0 0) (Cel.of_blk A8) (szA _ _ _) rfl (ac_one _ _ _) ?_)
            exact bodyPost_ret (v := .agg (ac 11 k 0)) (results_cell_at rfl _ _ ta 0 (ac 11 k 0) _ rfl (Z9.congr rfl) Try.underlying63 rfl (szA _ _ _)) rfl ⟨11, k, 0, _, rfl, hok, (fun _ => rfl), S9, M9⟩
          · clear hcl
            go_upto_region 15 with (fail)
            obtain ⟨⟨⟨x, B⟩, C⟩, A8, W8, M8⟩ := HX
            obtain ⟨es0, c0, M0, _⟩ := id C
            have dl := fun ty => C.drew.del keyLaw uM hli #[158, 162] rfl ty
            obtain ⟨es, ce, hd, CF⟩ := dl 0
            have hdel : ∀ ty, (Builtin.delete_ #[158, 162] ty #[.map (some mp), .agg #[.int .i64 xl, .int .u32 xf, .int .u32 xt]]).run Try.prog wc.drew = .ok (.tuple #[]) (Go.ChangeMaps.setBlock wc.drew mp (.map es ce)) := fun ty => hd
            have y5 : wc.cell? ⟨g, 5, none⟩ = some (.map (some mp)) := B.cell 5
            have v0 : wc.cell? ⟨tw, 0, none⟩ = some (.int .i64 xl) := W8.cell 0
            have v1 : wc.cell? ⟨tw, 1, none⟩ = some (.int .u32 xf) := W8.cell 1
            have v2 : wc.cell? ⟨tw, 2, none⟩ = some (.int .u32 xt) := W8.cell 2
            have y5' : wc.drew.cell? ⟨g, 5, none⟩ = some (.map (some mp)) := B.cell 5
            have v0' : wc.drew.cell? ⟨tw, 0, none⟩ = some (.int .i64 xl) := W8.cell 0
            have v1' : wc.drew.cell? ⟨tw, 1, none⟩ = some (.int .u32 xf) := W8.cell 1
            have v2' : wc.drew.cell? ⟨tw, 2, none⟩ = some (.int .u32 xt) := W8.cell 2
            have B9 := blk_map M0.drew B.drew es ce
            have A9 := blk_map M0.drew A8.drew es ce
            have M9' := M8.drew.setM hm M0.drew es ce
            have S9' : Stm (Go.ChangeMaps.setBlock wc.drew mp (.map es ce)) g mp l d b m (up f (wy xl xf xt) 0) := ⟨⟨x, B9⟩, CF⟩
            have HS9 := Lib.hid S9'
            have HA9 := Lib.hid A9
            have HM9 := Lib.hid M9'
            clear dl hd CF C B W8 M0 B9 A9 A8 M8 M9' S9'
            have hok := HOK.out 9 _ (.inr (.inr (.inr (.inr ⟨rfl, rfl, rfl⟩))))
            clear HOK HFB hli szw
            go_region
            all_goals
              generalize Go.ChangeMaps.setBlock wc.drew mp (.map es ce) = w7 at *
              have S8 := HS9.out
              have A8 := HA9.out
              have M8 := HM9.out
              clear HS9 HA9 HM9 hdel y5 v0 v1 v2 y5' v0' v1' v2'
              go_upto_region 16 with (fail)
              have Z9 := (Cel.of_blk A8).setCells_same (ac 9 k 0).toList rfl
              have S9 := S8.setR (r := ta) (by omega) (by omega) 0 (ac 9 k 0).toList
              have M9 := M8.setR (r := ta) (by omega) (by omega) 0 (ac 9 k 0).toList
              go_wp2_with (refine wpList_store_at rfl 63 _ _ rfl ta 0 (ac 9 k 0) rfl rfl (ac 0 0 0) (Cel.of_blk A8) (szA _ _ _) rfl (ac_one _ _ _) ?_)
              exact bodyPost_ret (v := .agg (ac 9 k 0)) (results_cell_at rfl _ _ ta 0 (ac 9 k 0) _ rfl (Z9.congr rfl) Try.underlying63 rfl (szA _ _ _)) rfl ⟨9, k, 0, _, rfl, hok, (fun _ => rfl), S9, M9⟩
    · have HOK' := HOK.out
      have hok := HOK' 9 f (.inl ⟨rfl, rfl, rfl⟩)
      clear HOK' HOK HFB
      have Z9 := (Cel.of_blk A3).setCells_same (ac 9 k 0).toList rfl
      have S9 := S3.setR (r := ta) (by omega) (by omega) 0 (ac 9 k 0).toList
      have M9 := M3.setR (r := ta) (by omega) (by omega) 0 (ac 9 k 0).toList
      go_wp2_with (refine wpList_store_at rfl 63 _ _ rfl ta 0 (ac 9 k 0) rfl rfl (ac 0 0 0) (Cel.of_blk A3) (szA _ _ _) rfl (ac_one _ _ _) ?_)
      exact bodyPost_ret (v := .agg (ac 9 k 0)) (results_cell_at rfl _ _ ta 0 (ac 9 k 0) _ rfl (Z9.congr rfl) Try.underlying63 rfl (szA _ _ _)) rfl ⟨9, k, 0, _, rfl, hok, (fun _ => rfl), S9, M9⟩
end Go.Proofs.Ytdocphkpeonldaa.storm
