/- Layer 40: objects that are too great, or too many, are refused; the statement walked. -/
import Derived.Test.YtdocphkpeonldaaLimF
import Derived.Deep.DeepCutAuto
namespace Go.Proofs.Ytdocphkpeonldaa.fil
open Go.Sort (grow)
open Go.ChangeShapes Go.WideShapes Go.ChangeAt Go.RowKit kit oct byt
set_option maxRecDepth 100000

/-- A sender and a receiver behind i objects, and the object that is too great. -/
structure Both (b0 sg g m y i : Nat) (v : Value) (es : Array MapEntry) (c : Nat) (w : World) : Prop where
  sd : Sd b0 sg (min i 16) v w
  rv : Rv b0 g m es c w
  es : Es (min i 16) es
  gr : Blk w y 137 #[.int .u32 1, .string (Zs 20001)]
  vn : ∀ k, v.ownBlock = some k → k ≠ g ∧ k ≠ m ∧ k ≠ y
  sn : sg ≠ g ∧ sg ≠ m ∧ sg ≠ y
  yn : y ≠ g ∧ y ≠ m
theorem Both.below {b0 sg g m y i k c : Nat} {v : Value} {es : Array MapEntry} {w w' : World} (h : Both b0 sg g m y i v es c w) (hb : Below k w w') (hk : w.heap.size ≤ k) : Both b0 sg g m y i v es c w' :=
  ⟨h.sd.below hb hk, h.rv.below hb hk, h.es, h.gr.below hb (Nat.lt_of_lt_of_le h.gr.lt hk), h.vn, h.sn, h.yn⟩
theorem szOb (i : Int) (d : ByteArray) : (Try.prog.info? 137).map (·.size) = some (#[.int .u32 i, .string d] : Array Value).size := szO i d
/-- Behind an object that was put. -/
theorem Both.put {b0 sg g m y i c : Nat} {v v' : Value} {es : Array MapEntry} {w w' : World} (h : Both b0 sg g m y i v es c w) (hi : i < 16) (s : Sd b0 sg (i + 1) v' w') (hv : ∀ k, v'.ownBlock = some k → v.ownBlock = some k ∨ w.heap.size ≤ k) (hf : ∀ b, b < w.heap.size → b ≠ sg → v.ownBlock ≠ some b → w'.heap[b]? = w.heap[b]?) :
    Sd b0 sg (i + 1) v' w' ∧ Rv b0 g m es c w' ∧ Blk w' y 137 #[.int .u32 1, .string (Zs 20001)] ∧ (∀ k, v'.ownBlock = some k → k ≠ g ∧ k ≠ m ∧ k ≠ y) := by
  have hgl := h.rv.B.lt
  have hml := h.rv.M.lt
  have hyl := h.gr.lt
  have nv : ∀ q, (q = g ∨ q = m ∨ q = y) → v.ownBlock ≠ some q := fun q hq e => by
    have := h.vn q e
    omega
  refine ⟨s, ⟨(hf g hgl (Ne.symm h.sn.1) (nv g (.inl rfl))).trans h.rv.B, (hf m hml (Ne.symm h.sn.2.1) (nv m (.inr (.inl rfl)))).trans h.rv.M, h.rv.hg, h.rv.hm, h.rv.ne⟩, (hf y hyl (Ne.symm h.sn.2.2) (nv y (.inr (.inr rfl)))).trans h.gr, fun k hk => ?_⟩
  rcases hv k hk with q | q
  · exact h.vn k q
  · omega
set_option maxHeartbeats 8000000 in
theorem limits_law (n : Int) (w : World) : Calls Try.prog 14 #[.int .i64 n] w fun e w' => e = .returned (.bool true) ∧ Below w.heap.size w w' := by
  obtain ⟨K, hK⟩ : ∃ K : Nat, n % 32 = (K : Int) := ⟨(n % 32).toNat, by omega⟩
  have hK31 : K ≤ 31 := by omega
  have hkb : bits .and .i64 n 31 = (K : Int) := by rw [← hK]; exact i64_mask n 5 (by omega)
  have hm1 : ∀ w, (Instr.makeSlice 122 (.int .i64 20001) (.int .i64 20001)).run Try.prog w = .ok (.slice (some ⟨w.heap.size, 0, none⟩) 20001 20001) (mz 20001 w) := fun w => mz_run 20001 w (by omega)
  have hc1 : ∀ w, (convert 122 9 (.slice (some ⟨w.heap.size, 0, none⟩) 20001 20001)).run Try.prog (mz 20001 w) = .ok (.string (Zs 20001)) (mz 20001 w) := fun w => mz_conv 20001 w
  have hm2 : ∀ w, (Instr.makeSlice 122 (.int .i64 900) (.int .i64 900)).run Try.prog w = .ok (.slice (some ⟨w.heap.size, 0, none⟩) 900 900) (mz 900 w) := fun w => mz_run 900 w (by omega)
  have hc2 : ∀ w, (convert 122 9 (.slice (some ⟨w.heap.size, 0, none⟩) 900 900)).run Try.prog (mz 900 w) = .ok (.string (Zs 900)) (mz 900 w) := fun w => mz_conv 900 w
  have hm3 : ∀ w, (Instr.makeSlice 122 (.int .i64 901) (.int .i64 901)).run Try.prog w = .ok (.slice (some ⟨w.heap.size, 0, none⟩) 901 901) (mz 901 w) := fun w => mz_run 901 w (by omega)
  have hc3 : ∀ w, (convert 122 9 (.slice (some ⟨w.heap.size, 0, none⟩) 901 901)).run Try.prog (mz 901 w) = .ok (.string (Zs 901)) (mz 901 w) := fun w => mz_conv 901 w
  have HM2 := Lib.hid (And.intro hm2 hc2)
  have HM3 := Lib.hid (And.intro hm3 hc3)
  clear hm2 hc2 hm3 hc3 hK
  go_enter Try.func14, Try.ntmps14
  go_wp2_with fail
  refine (new_sd _).mono ?_
  rintro e w1 ⟨rfl, s1, b1⟩
  go_wp2_with fail
  refine (new_rv _).mono ?_
  rintro e w2 ⟨rfl, r2, b2⟩
  have hw12 : w.heap.size < w1.heap.size := s1.B.lt
  have s2 := s1.below b2 (Nat.le_refl _)
  have bel2 := b1.trans (b2.mono b1.size)
  have r2' : Rv w.heap.size (w1.heap.size + 1) w1.heap.size #[] 0 w2 := ⟨r2.B, r2.M, by omega, by omega, r2.ne⟩
  have hg2 := r2.B.lt
  clear s1 b1 b2 r2
  go_upto_region 3 with fail
  have mb := mz_below 20001 w2
  have bel3 := bel2.trans (mb.mono bel2.size)
  have s3 := s2.below mb (Nat.le_refl _)
  have r3 := r2'.below mb (Nat.le_refl _)
  have hs3 : w2.heap.size ≤ (mz 20001 w2).heap.size := mb.size
  clear mb s2 r2' bel2 hm1 hc1
  generalize mz 20001 w2 = w3 at *
  have Y4 := Blk.new w3 137 #[.int .u32 1, .string (Zs 20001)]
  have al4 := (Below.refl w3.heap.size w3).alloc (Nat.le_refl _) (.cells #[.int .u32 1, .string (Zs 20001)] 137)
  have B4 : Both w.heap.size w.heap.size (w1.heap.size + 1) w1.heap.size w3.heap.size 0 (.slice none 0 0) #[] 0 (w3.alloc (.cells #[.int .u32 1, .string (Zs 20001)] 137)) :=
    ⟨s3.below al4 (Nat.le_refl _), r3.below al4 (Nat.le_refl _), Es.nil, Y4, fun k hk => (by cases hk), ⟨by omega, by omega, by omega⟩, ⟨by omega, by omega⟩⟩
  have bel4 := bel3.trans (al4.mono bel3.size)
  clear s3 r3 Y4 al4 bel3
  obtain ⟨G, hG⟩ : ∃ G, w.heap.size = G := ⟨_, rfl⟩
  obtain ⟨M, hM⟩ : ∃ M, w1.heap.size = M := ⟨_, rfl⟩
  obtain ⟨Y, hY⟩ : ∃ Y, w3.heap.size = Y := ⟨_, rfl⟩
  rw [hG, hM, hY] at B4
  rw [hG] at bel4
  rw [hG, hM, hY]
  generalize w3.alloc (.cells #[.int .u32 1, .string (Zs 20001)] 137) = w4 at *
  have HG := Lib.hid hG
  clear hG hM hY hs3 hg2 hw12
  go_wp2_with fail
  go_loopw [7] (fun s7 wr => ∃ (i c : Nat) (v : Value) (es : Array MapEntry), i ≤ K ∧ s7 = .int .i64 i ∧ Both G G (M + 1) M Y i v es c wr ∧ Below G w wr) (fun s7 _ => K - (intOf s7).toNat)
  case atStart => exact ⟨0, 0, _, _, by omega, rfl, B4, bel4⟩
  case round =>
    clear B4 bel4
    obtain ⟨i, c, v, es, hik, rfl, B, bel⟩ := hrel
    have hGw : G ≤ wr.heap.size := by have := B.sd.B.lt; omega
    by_cases hlt : i < K
    · have hwi : IntKind.u32.wrap (i : Int) = (i : Int) := by rw [IntKind.wrap_u32]; omega
      obtain ⟨k1, k2, k3, k4⟩ := pcs_ok i 900 (by omega) (by omega) (by omega)
      have hpz := fun W => piece_zero i (Zs 900) W (by omega) (by rw [Zs_size]; omega) (by rw [Zs_size]; omega)
      have k3' : (pcs i (Zs 900)).size ≤ maxLen := by rw [k3]; unfold maxLen; omega
      have HM := Lib.hid (And.intro HM2.out.1 HM2.out.2)
      have HK := Lib.hid (And.intro k1 (And.intro k2 (And.intro k4 k3')))
      clear k1 k2 k3 k4 k3'
      generalize pcs i (Zs 900) = PC at *
      by_cases h16 : i < 16
      · have hsd : Sd G G i v wr := by have := B.sd; rwa [Nat.min_eq_left (by omega)] at this
        have hes : Es i es := by have := B.es; rwa [Nat.min_eq_left (by omega)] at this
        have HB := Lib.hid B
        have HE := Lib.hid hes
        have h16i : (i : Int) < 16 := by omega
        have hpn := put_new wr hsd h16
        clear B hsd hes
        go_wp2_with fail
        refine hpn.mono ?_
        rintro e w5 ⟨rfl, ⟨v', s5, hv5⟩, hf5, hsz5, hb5⟩
        obtain ⟨s5, r5, y5, vn5⟩ := HB.out.put h16 s5 hv5 hf5
        have bel5 := bel.trans hb5
        obtain ⟨hm2, hc2⟩ := HM.out
        clear hpn hv5 hf5 hb5 bel
        go_wp2_with fail
        have mb := mz_below 900 w5
        have s6 := s5.below mb (Nat.le_refl _)
        have r6 := r5.below mb (Nat.le_refl _)
        have y6 := Blk.below y5 mb y5.lt
        have hG5 : G ≤ w5.heap.size := by have := s5.B.lt; omega
        have bel6 := bel5.trans (mb.mono hG5)
        clear s5 r5 y5 bel5 hm2 hc2 mb
        generalize mz 900 w5 = w6 at *
        refine (hpz _).mono ?_
        rintro e w7 ⟨rfl, hb7⟩
        have s7 := s6.below hb7 (Nat.le_refl _)
        have r7 := r6.below hb7 (Nat.le_refl _)
        have y7 := Blk.below y6 hb7 y6.lt
        have hG6 : G ≤ w6.heap.size := by have := s6.B.lt; omega
        have bel7 := bel6.trans (hb7.mono hG6)
        have hG7 : G < w7.heap.size := s7.B.lt
        clear s6 r6 y6 bel6 hb7 hpz
        have htk := take_new i 900 0 _ PC w7 r7 HK.out.2.2.2 HK.out.1 HK.out.2.1 (by omega) (by omega) (by rw [HK.out.2.2.1]; omega) (by rw [HK.out.2.2.1]; omega) (by rw [HE.out.size]; exact h16) (HE.out.none (Nat.le_refl _))
        go_wp2_with fail
        refine htk.mono ?_
        rintro e w8 ⟨rfl, ⟨k8, r8⟩, ho8, hb8⟩
        have v8 := s7.own
        have s8 : Sd G G (i + 1) v' w8 := ⟨(ho8 G hG7 HB.out.sn.2.1).trans s7.B, own_other s7.own (fun q hq => ho8 q (own_lt s7.own q hq) (vn5 q hq).2.1), s7.ne, s7.hg⟩
        have y8 : Blk w8 Y 137 #[.int .u32 1, .string (Zs 20001)] := (ho8 Y y7.lt HB.out.yn.2).trans y7
        have bel8 := bel7.trans hb8
        have e8 := HE.out.push k8 c
        have B8 : Both G G (M + 1) M Y (i + 1) v' (es.push ⟨.int .u32 (i : Nat), .agg #[.int .i64 (900 : Nat), .map (some k8)], c⟩) (c + 1) w8 := ⟨by rw [Nat.min_eq_left (by omega)]; exact s8, r8, by rw [Nat.min_eq_left (by omega)]; exact e8, y8, vn5, HB.out.sn, HB.out.yn⟩
        have hG8 : G ≤ w8.heap.size := by have := s8.B.lt; omega
        have HB8 := Lib.hid (And.intro B8 bel8)
        clear s7 r7 y7 bel7 htk r8 ho8 hb8 v8 s8 y8 bel8 e8 B8
        go_wp2_with fail
        have al9 := (Below.refl w8.heap.size w8).alloc (Nat.le_refl _) (.cells #[.int .u32 0, .string ⟨#[]⟩] 137)
        go_roundw
        case rel => exact ⟨i + 1, c + 1, v', _, by omega, by go_num, HB8.out.1.below al9 (Nat.le_refl _), HB8.out.2.trans (al9.mono hG8)⟩
        case measure => simp [intOf]; omega
      · have hm16 : min i 16 = 16 := Nat.min_eq_right (by omega)
        have hsd : Sd G G 16 v wr := by have := B.sd; rwa [hm16] at this
        have hes : Es 16 es := by have := B.es; rwa [hm16] at this
        have HB := Lib.hid B
        have HE := Lib.hid hes
        have h16i : (16 : Int) ≤ (i : Int) := by omega
        have hpn := put_full i wr hsd rfl (by omega)
        clear B hsd hes hm16
        go_wp2_with fail
        refine hpn.mono ?_
        rintro e w5 ⟨rfl, hb5⟩
        have B5 := HB.out.below hb5 (Nat.le_refl _)
        have bel5 := bel.trans (hb5.mono hGw)
        obtain ⟨hm2, hc2⟩ := HM.out
        clear hpn hb5 bel
        go_wp2_with fail
        have mb := mz_below 900 w5
        have hG5 : G ≤ w5.heap.size := by have := B5.sd.B.lt; omega
        have B6 := B5.below mb (Nat.le_refl _)
        have bel6 := bel5.trans (mb.mono hG5)
        clear B5 bel5 hm2 hc2 mb
        generalize mz 900 w5 = w6 at *
        refine (hpz _).mono ?_
        rintro e w7 ⟨rfl, hb7⟩
        have hG6 : G ≤ w6.heap.size := by have := B6.sd.B.lt; omega
        have B7 := B6.below hb7 (Nat.le_refl _)
        have bel7 := bel6.trans (hb7.mono hG6)
        have hG7 : G ≤ w7.heap.size := by have := B7.sd.B.lt; omega
        clear B6 bel6 hb7 hpz
        have htk := take_full i 900 0 _ PC w7 B7.rv HK.out.2.2.2 HK.out.1 HK.out.2.1 (by rw [HE.out.size]; omega) (HE.out.none (by omega))
        have HB7 := Lib.hid B7
        clear B7
        go_wp2_with fail
        refine htk.mono ?_
        rintro e w8 ⟨rfl, hb8⟩
        have B8 := HB7.out.below hb8 (Nat.le_refl _)
        have bel8 := bel7.trans (hb8.mono hG7)
        have B9 : Both G G (M + 1) M Y (i + 1) v es c w8 := ⟨by rw [Nat.min_eq_right (by omega)]; have := B8.sd; rwa [Nat.min_eq_right (by omega)] at this, B8.rv, by rw [Nat.min_eq_right (by omega)]; exact HE.out, B8.gr, B8.vn, B8.sn, B8.yn⟩
        have hG8 : G ≤ w8.heap.size := by have := B8.sd.B.lt; omega
        have HB8 := Lib.hid (And.intro B9 bel8)
        clear htk hb8 B8 B9 bel8 bel7
        go_wp2_with fail
        have al9 := (Below.refl w8.heap.size w8).alloc (Nat.le_refl _) (.cells #[.int .u32 0, .string ⟨#[]⟩] 137)
        go_roundw
        case rel => exact ⟨i + 1, c, v, es, by omega, by go_num, HB8.out.1.below al9 (Nat.le_refl _), HB8.out.2.trans (al9.mono hG8)⟩
        case measure => simp [intOf]; omega
    · obtain rfl : i = K := by omega
      have HB := Lib.hid B
      obtain ⟨hm3, hc3⟩ := HM3.out
      clear B
      go_wp2_with fail
      have mb := mz_below 901 wr
      have B1 := HB.out.below mb (Nat.le_refl _)
      have bel1 := bel.trans (mb.mono hGw)
      clear hm3 hc3 mb bel HB
      generalize mz 901 wr = w6 at *
      obtain ⟨k1, k2, k3, k4⟩ := pcs_ok 0 901 (by omega) (by omega) (by omega)
      have hpz := fun W => piece_zero 0 (Zs 901) W (by omega) (by rw [Zs_size]; omega) (by rw [Zs_size]; omega)
      have k3' : (pcs 0 (Zs 901)).size ≤ maxLen := by rw [k3]; unfold maxLen; omega
      have HK := Lib.hid (And.intro k1 (And.intro k2 (And.intro k4 k3')))
      clear k1 k2 k3 k4 k3'
      generalize pcs 0 (Zs 901) = PD at *
      have hG6 : G ≤ w6.heap.size := by have := B1.sd.B.lt; omega
      refine (hpz _).mono ?_
      rintro e w7 ⟨rfl, hb7⟩
      have HB2 := Lib.hid (B1.below hb7 (Nat.le_refl _))
      have bel7 := bel1.trans (hb7.mono hG6)
      have hG7 : G ≤ w7.heap.size := by have := HB2.out.sd.B.lt; omega
      clear B1 bel1 hb7 hpz
      by_cases hK0 : 0 < i
      · skip
        obtain ⟨kz, hkz⟩ := HB2.out.es.found (by omega)
        have htk := take_odd 0 901 0 _ PD w7 HB2.out.rv HK.out.2.2.2 HK.out.1 HK.out.2.1 900 kz 0 (by omega) hkz
        go_wp2_with fail
        refine htk.mono ?_
        rintro e w8 ⟨rfl, hb8⟩
        have B8 := HB2.out.below hb8 (Nat.le_refl _)
        have bel8 := bel7.trans (hb8.mono hG7)
        have hsz : es.size = min i 16 := HB2.out.es.size
        have r8 := B8.rv
        have s8 := B8.sd
        have y8 := B8.gr
        clear htk hkz hb8 B8 bel7
        have al9 := (Below.refl w8.heap.size w8).alloc (Nat.le_refl _) (.cells #[.int .u32 0, .string ⟨#[]⟩] 137)
        have hG8 : G ≤ w8.heap.size := by have := s8.B.lt; omega
        have s9 := s8.below al9 (Nat.le_refl _)
        have r9 := r8.below al9 (Nat.le_refl _)
        have y9 := y8.below al9 y8.lt
        have bel9 := bel8.trans (al9.mono hG8)
        clear s8 r8 y8 bel8 al9
        go_upto_region 15 with fail
        generalize w8.alloc (.cells #[.int .u32 0, .string ⟨#[]⟩] 137) = w9 at *
        go_wp2_with fail
        have hi0 : (0 : Int) < (i : Int) := by omega
        by_cases h16 : i < 16
        · skip
          refine (awake40_any _).mono ?_
          rintro e w10 ⟨rfl, hb10⟩
          have s10 := s9.below hb10 (Nat.le_refl _)
          have r10 := r9.below hb10 (Nat.le_refl _)
          have y10 := Blk.below y9 hb10 y9.lt
          have hG9 : G ≤ w9.heap.size := by have := s9.B.lt; omega
          have bel10 := bel9.trans (hb10.mono hG9)
          clear s9 r9 y9 bel9 hb10
          have c0 : w10.cell? ⟨Y, 0, none⟩ = some (.int .u32 1) := y10.cell 0
          have c1 : w10.cell? ⟨Y, 1, none⟩ = some (.string (Zs 20001)) := y10.cell 1
          have hG10 : G ≤ w10.heap.size := by have := s10.B.lt; omega
          have hpg := put_great 1 (Zs 20001) w10 s10 (by rw [Zs_size]; omega) (by rw [Zs_size]; unfold maxLen; omega)
          have hpc := fun W => piece_great 1 (Zs 20001) W (by rw [Zs_size]; omega) (by rw [Zs_size]; unfold maxLen; omega)
          go_wp2_with fail
          refine hpg.mono ?_
          rintro e w11 ⟨rfl, hb11⟩
          have r11 := r10.below hb11 (Nat.le_refl _)
          have y11 := Blk.below y10 hb11 y10.lt
          have bel11 := bel10.trans (hb11.mono hG10)
          have hG11 : G ≤ w11.heap.size := Nat.le_trans hG10 hb11.size
          clear s10 r10 y10 bel10 hb11 hpg c0 c1
          have c0 : w11.cell? ⟨Y, 0, none⟩ = some (.int .u32 1) := y11.cell 0
          have c1 : w11.cell? ⟨Y, 1, none⟩ = some (.string (Zs 20001)) := y11.cell 1
          go_wp2_with fail
          refine (hpc _).mono ?_
          rintro e w12 ⟨rfl, hb12⟩
          have r12 := r11.below hb12 (Nat.le_refl _)
          have bel12 := bel11.trans (hb12.mono hG11)
          have hG12 : G ≤ w12.heap.size := Nat.le_trans hG11 hb12.size
          clear r11 y11 bel11 hb12 hpc c0 c1
          go_wp2_with fail
          refine (piece_neg _).mono ?_
          rintro e w13 ⟨rfl, hb13⟩
          have r13 := r12.below hb13 (Nat.le_refl _)
          have bel13 := bel12.trans (hb13.mono hG12)
          clear r12 bel12 hb13
          have hln : Calls Try.prog 73 #[.pointer (some ⟨M + 1, 0, none⟩)] w13 fun e w' => e = .returned (.int .i64 i) ∧ w' = w13 := by
            have h1 := len_rv w13 r13
            rw [show es.size = i by omega] at h1
            exact h1
          have hmn : min (i : Int) 16 = (i : Int) := by omega
          have hmx : max (1 : Int) (i : Int) = (i : Int) := by omega
          clear hsz
          go_wp2_with fail
          refine hln.mono ?_
          rintro e w14 ⟨rfl, rfl⟩
          go_wp2_with fail
          go_ret
          exact ⟨by first | rfl | exact ret_bool (by simp) | exact ret_bool (by simp; omega), by rw [HG.out]; exact bel13⟩
        · skip
          refine (awake40_any _).mono ?_
          rintro e w10 ⟨rfl, hb10⟩
          have s10 := s9.below hb10 (Nat.le_refl _)
          have r10 := r9.below hb10 (Nat.le_refl _)
          have y10 := Blk.below y9 hb10 y9.lt
          have hG9 : G ≤ w9.heap.size := by have := s9.B.lt; omega
          have bel10 := bel9.trans (hb10.mono hG9)
          clear s9 r9 y9 bel9 hb10
          have c0 : w10.cell? ⟨Y, 0, none⟩ = some (.int .u32 1) := y10.cell 0
          have c1 : w10.cell? ⟨Y, 1, none⟩ = some (.string (Zs 20001)) := y10.cell 1
          have hG10 : G ≤ w10.heap.size := by have := s10.B.lt; omega
          have hpg := put_great 1 (Zs 20001) w10 s10 (by rw [Zs_size]; omega) (by rw [Zs_size]; unfold maxLen; omega)
          have hpc := fun W => piece_great 1 (Zs 20001) W (by rw [Zs_size]; omega) (by rw [Zs_size]; unfold maxLen; omega)
          go_wp2_with fail
          refine hpg.mono ?_
          rintro e w11 ⟨rfl, hb11⟩
          have r11 := r10.below hb11 (Nat.le_refl _)
          have y11 := Blk.below y10 hb11 y10.lt
          have bel11 := bel10.trans (hb11.mono hG10)
          have hG11 : G ≤ w11.heap.size := Nat.le_trans hG10 hb11.size
          clear s10 r10 y10 bel10 hb11 hpg c0 c1
          have c0 : w11.cell? ⟨Y, 0, none⟩ = some (.int .u32 1) := y11.cell 0
          have c1 : w11.cell? ⟨Y, 1, none⟩ = some (.string (Zs 20001)) := y11.cell 1
          go_wp2_with fail
          refine (hpc _).mono ?_
          rintro e w12 ⟨rfl, hb12⟩
          have r12 := r11.below hb12 (Nat.le_refl _)
          have bel12 := bel11.trans (hb12.mono hG11)
          have hG12 : G ≤ w12.heap.size := Nat.le_trans hG11 hb12.size
          clear r11 y11 bel11 hb12 hpc c0 c1
          go_wp2_with fail
          refine (piece_neg _).mono ?_
          rintro e w13 ⟨rfl, hb13⟩
          have r13 := r12.below hb13 (Nat.le_refl _)
          have bel13 := bel12.trans (hb13.mono hG12)
          clear r12 bel12 hb13
          have hln : Calls Try.prog 73 #[.pointer (some ⟨M + 1, 0, none⟩)] w13 fun e w' => e = .returned (.int .i64 16) ∧ w' = w13 := by
            have h1 := len_rv w13 r13
            rw [show es.size = 16 by omega] at h1
            exact h1
          have hmn : min (i : Int) 16 = 16 := by omega
          clear hsz
          go_wp2_with fail
          refine hln.mono ?_
          rintro e w14 ⟨rfl, rfl⟩
          go_wp2_with fail
          go_ret
          exact ⟨by first | rfl | exact ret_bool (by simp) | exact ret_bool (by simp; omega), by rw [HG.out]; exact bel13⟩
      · skip
        have hes0 : es.size = 0 := by have := HB2.out.es.size; omega
        have htk := take_new 0 901 0 _ PD w7 HB2.out.rv HK.out.2.2.2 HK.out.1 HK.out.2.1 (by omega) (by omega) (by rw [HK.out.2.2.1]; omega) (by rw [HK.out.2.2.1]; omega) (by omega) (HB2.out.es.none (by omega))
        go_wp2_with fail
        refine htk.mono ?_
        rintro e w8 ⟨rfl, ⟨k8, r8⟩, ho8, hb8⟩
        have s7 := HB2.out.sd
        have s8 : Sd G G (min i 16) v w8 := ⟨(ho8 G s7.B.lt HB2.out.sn.2.1).trans s7.B, own_other s7.own (fun q hq => ho8 q (own_lt s7.own q hq) (HB2.out.vn q hq).2.1), s7.ne, s7.hg⟩
        have y8 : Blk w8 Y 137 #[.int .u32 1, .string (Zs 20001)] := (ho8 Y HB2.out.gr.lt HB2.out.yn.2).trans HB2.out.gr
        have bel8 := bel7.trans hb8
        clear htk ho8 hb8 s7 bel7
        have al9 := (Below.refl w8.heap.size w8).alloc (Nat.le_refl _) (.cells #[.int .u32 0, .string ⟨#[]⟩] 137)
        have hG8 : G ≤ w8.heap.size := by have := s8.B.lt; omega
        have s9 := s8.below al9 (Nat.le_refl _)
        have r9 := r8.below al9 (Nat.le_refl _)
        have y9 := y8.below al9 y8.lt
        have bel9 := bel8.trans (al9.mono hG8)
        clear s8 r8 y8 bel8 al9
        go_upto_region 15 with fail
        generalize w8.alloc (.cells #[.int .u32 0, .string ⟨#[]⟩] 137) = w9 at *
        obtain rfl : i = 0 := by omega
        go_wp2_with fail
        refine (awake40_any _).mono ?_
        rintro e w10 ⟨rfl, hb10⟩
        have s10 := s9.below hb10 (Nat.le_refl _)
        have r10 := r9.below hb10 (Nat.le_refl _)
        have y10 := Blk.below y9 hb10 y9.lt
        have hG9 : G ≤ w9.heap.size := by have := s9.B.lt; omega
        have bel10 := bel9.trans (hb10.mono hG9)
        clear s9 r9 y9 bel9 hb10
        have c0 : w10.cell? ⟨Y, 0, none⟩ = some (.int .u32 1) := y10.cell 0
        have c1 : w10.cell? ⟨Y, 1, none⟩ = some (.string (Zs 20001)) := y10.cell 1
        have hG10 : G ≤ w10.heap.size := by have := s10.B.lt; omega
        have hpg := put_great 1 (Zs 20001) w10 s10 (by rw [Zs_size]; omega) (by rw [Zs_size]; unfold maxLen; omega)
        have hpc := fun W => piece_great 1 (Zs 20001) W (by rw [Zs_size]; omega) (by rw [Zs_size]; unfold maxLen; omega)
        go_wp2_with fail
        refine hpg.mono ?_
        rintro e w11 ⟨rfl, hb11⟩
        have r11 := r10.below hb11 (Nat.le_refl _)
        have y11 := Blk.below y10 hb11 y10.lt
        have bel11 := bel10.trans (hb11.mono hG10)
        have hG11 : G ≤ w11.heap.size := Nat.le_trans hG10 hb11.size
        clear s10 r10 y10 bel10 hb11 hpg c0 c1
        have c0 : w11.cell? ⟨Y, 0, none⟩ = some (.int .u32 1) := y11.cell 0
        have c1 : w11.cell? ⟨Y, 1, none⟩ = some (.string (Zs 20001)) := y11.cell 1
        go_wp2_with fail
        refine (hpc _).mono ?_
        rintro e w12 ⟨rfl, hb12⟩
        have r12 := r11.below hb12 (Nat.le_refl _)
        have bel12 := bel11.trans (hb12.mono hG11)
        have hG12 : G ≤ w12.heap.size := Nat.le_trans hG11 hb12.size
        clear r11 y11 bel11 hb12 hpc c0 c1
        go_wp2_with fail
        refine (piece_neg _).mono ?_
        rintro e w13 ⟨rfl, hb13⟩
        have r13 := r12.below hb13 (Nat.le_refl _)
        have bel13 := bel12.trans (hb13.mono hG12)
        clear r12 bel12 hb13
        have hln : Calls Try.prog 73 #[.pointer (some ⟨M + 1, 0, none⟩)] w13 fun e w' => e = .returned (.int .i64 1) ∧ w' = w13 := by
          have h1 := len_rv w13 r13
          rw [show (es.push ⟨.int .u32 (0 : Nat), .agg #[.int .i64 (901 : Nat), .map (some k8)], c⟩).size = 1 by simp [hes0]] at h1
          exact h1
        clear hes0
        go_wp2_with fail
        refine hln.mono ?_
        rintro e w14 ⟨rfl, rfl⟩
        go_wp2_with fail
        go_ret
        exact ⟨by first | rfl | exact ret_bool (by simp) | exact ret_bool (by simp; omega), by rw [HG.out]; exact bel13⟩
end Go.Proofs.Ytdocphkpeonldaa.fil
