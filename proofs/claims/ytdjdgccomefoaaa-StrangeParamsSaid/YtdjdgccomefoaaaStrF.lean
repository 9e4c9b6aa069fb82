/- Layer 24: the statement on parameters walked. -/
import Derived.Test.YtdjdgccomefoaaaStrE
namespace Go.Proofs.Ytdjdgccomefoaaa.str
open Go.Sort (grow)
open Go.ChangeShapes Go.WideShapes Go.ChangeAt Go.RowKit kit oct par small
set_option maxRecDepth 100000

theorem add_block (a : Addr) (i : Nat) : (a.add i).block = a.block := by unfold Addr.add; split <;> rfl
/-- A row of parameters that came in. -/
structure RowQ (w : World) (a : Addr) (len : Nat) (E : Nat → Pm) : Prop where
  lt : 0 < len → a.block < w.heap.size
  c0 : ∀ i, i < len → w.cell? (a.add (i * 2)) = some (.int .i64 (E i).1)
  c1 : ∀ i, i < len → w.cell? { block := (a.add (i * 2)).block, off := (a.add (i * 2)).off + 1 } = some (.string (E i).2)
theorem RowQ.below {w w' : World} {a : Addr} {len B : Nat} {E : Nat → Pm} (h : RowQ w a len E) (hb : Below B w w') (hB : 0 < len → a.block < B) : RowQ w' a len E :=
  ⟨fun h0 => Nat.lt_of_lt_of_le (h.lt h0) hb.size, fun i hi => (hb.cell (p := a.add (i * 2)) (by rw [add_block]; exact hB (by omega))).trans (h.c0 i hi), fun i hi => (hb.cell (p := { block := (a.add (i * 2)).block, off := (a.add (i * 2)).off + 1 }) (by show (a.add (i * 2)).block < _; rw [add_block]; exact hB (by omega))).trans (h.c1 i hi)⟩
/-- A parameter as the statement takes it. -/
def kt (p : Pm) : Pm := (bits .and .i64 p.1 65535, p.2.extract 0 (min (p.2.size : Int) 20).toNat)
theorem kt_ok (p : Pm) : Ok (kt p) := by
  have h := i64_mask p.1 16 (by omega)
  rw [show ((2 ^ 16 - 1 : Nat) : Int) = 65535 from rfl] at h
  refine ⟨?_, ?_, ?_⟩
  · show 0 ≤ bits .and .i64 p.1 65535; rw [h]; omega
  · show bits .and .i64 p.1 65535 ≤ 65535; rw [h]; omega
  · show (p.2.extract 0 (min (p.2.size : Int) 20).toNat).size ≤ 20; simp; omega
def kl (E : Nat → Pm) : Nat → List Pm
  | 0 => []
  | n + 1 => kl E n ++ [kt (E n)]
theorem kl_len (E : Nat → Pm) (n : Nat) : (kl E n).length = n := by
  induction n with
  | zero => rfl
  | succ n ih => simp [kl, ih]
theorem kl_ok (E : Nat → Pm) (n k : Nat) (hk : k < n) : Ok ((kl E n).getD k q0) := by
  induction n with
  | zero => exact absurd hk (Nat.not_lt_zero k)
  | succ n ih =>
    by_cases h : k < n
    · have e : (kl E (n + 1)).getD k q0 = (kl E n).getD k q0 := by
        show (kl E n ++ [kt (E n)]).getD k q0 = _
        simp [List.getD, List.getElem?_append_left (show k < (kl E n).length by rw [kl_len]; exact h)]
      rw [e]
      exact ih h
    · obtain rfl : k = n := by omega
      have e : (kl E (k + 1)).getD k q0 = kt (E k) := by
        show (kl E k ++ [kt (E k)]).getD k q0 = _
        simp [List.getD, List.getElem?_append_right (show (kl E k).length ≤ k by rw [kl_len]; exact Nat.le_refl k), kl_len]
      rw [e]
      exact kt_ok _
set_option maxHeartbeats 4000000 in
theorem strange_law (oa : Option Addr) (a : Addr) (len cap : Nat) (E : Nat → Pm) (w : World) (hlc : len ≤ cap) (hcm : cap ≤ maxLen) (hoa : 0 < len → oa = some a) (hr : RowQ w a len E) (hz : ∀ i, i < len → (E i).2.size ≤ maxLen) :
    Calls Try.prog 9 #[.slice oa len cap] w fun e w' => e = .returned (.bool true) ∧ Below w.heap.size w w' := by
  obtain ⟨i0, hi, hz0, hz1, hz2⟩ := info_parts infoQ
  unfold maxLen at hcm
  obtain ⟨nn, hnn, hn1, hn2⟩ : ∃ n : Nat, n = min len 12 ∧ n ≤ len ∧ n ≤ 12 := ⟨min len 12, rfl, by omega, by omega⟩
  have HR := Lib.hid hr
  have HNN := Lib.hid hnn
  have HZ := Lib.hid hz
  have hal := hr.lt
  clear hr hnn hz
  go_enter Try.func9, Try.ntmps9
  go_upto_region 4 with (fail)
  have U0 := ((Blk.new w 94 #[]).alloc (.cells #[] 94)).alloc (.cells #[] 94)
  have V0 := (blk_new2 w (.cells #[] 94) 94 #[]).alloc (.cells #[] 94)
  have K0 : Blk (((w.alloc (.cells #[] 94)).alloc (.cells #[] 94)).alloc (.cells #[] 94)) (w.heap.size + 2) 94 #[] := by
    have := Blk.new ((w.alloc (.cells #[] 94)).alloc (.cells #[] 94)) 94 #[]
    simpa using this
  have bel0 := (((Below.refl w.heap.size w).alloc (Nat.le_refl _) (.cells #[] 94)).alloc (by simp) (.cells #[] 94)).alloc (by simp; omega) (.cells #[] 94)
  generalize ((w.alloc (.cells #[] 94)).alloc (.cells #[] 94)).alloc (.cells #[] 94) = w0 at *
  obtain ⟨u0, hu0⟩ : ∃ u0, Value.slice (some ⟨w.heap.size, 0, none⟩) 0 0 = u0 := ⟨_, rfl⟩
  obtain ⟨v0, hv0⟩ : ∃ v0, Value.slice (some ⟨w.heap.size + 1, 0, none⟩) 0 0 = v0 := ⟨_, rfl⟩
  have hU : Row w0 w.heap.size u0 [] := by rw [← hu0]; exact own_none U0 (Nat.le_refl _) (by unfold maxLen; omega) rfl
  have hV : Row w0 w.heap.size v0 [] := by rw [← hv0]; exact own_none V0 (by omega) (by unfold maxLen; omega) rfl
  have hK : w0.ownsRow w.heap.size 94 2 (.slice (some ⟨w.heap.size + 2, 0, none⟩) 0 0) 0 (cellsQ (kl E 0)) := own_none K0 (by omega) (by unfold maxLen; omega) rfl
  have hKU : Dis (.slice (some ⟨w.heap.size + 2, 0, none⟩) 0 0) u0 := by
    rw [← hu0]
    intro g h1 h2
    simp [Value.ownBlock] at h1 h2
    omega
  have hKV : Dis (.slice (some ⟨w.heap.size + 2, 0, none⟩) 0 0) v0 := by
    rw [← hv0]
    intro g h1 h2
    simp [Value.ownBlock] at h1 h2
    omega
  have hUV : Dis u0 v0 := by
    rw [← hu0, ← hv0]
    intro g h1 h2
    simp [Value.ownBlock] at h1 h2
    omega
  rw [hu0, hv0]
  have HUV := Lib.hid hUV
  clear hu0 hv0 hUV U0 V0 K0
  go_loopw [5, 6] (fun s5 s6 wr => ∃ (n g c : Nat), n ≤ nn ∧ s6 = .int .i64 n ∧ s5 = .slice (some ⟨g, 0, none⟩) n c ∧ wr.ownsRow w.heap.size 94 2 (.slice (some ⟨g, 0, none⟩) n c) n (cellsQ (kl E n)) ∧ Row wr w.heap.size u0 [] ∧ Row wr w.heap.size v0 [] ∧ Dis (.slice (some ⟨g, 0, none⟩) n c) u0 ∧ Dis (.slice (some ⟨g, 0, none⟩) n c) v0 ∧ Below w.heap.size w wr) (fun _ s6 _ => nn - (intOf s6).toNat)
  case atStart => exact ⟨0, _, 0, by omega, rfl, rfl, hK, hU, hV, hKU, hKV, bel0⟩
  case round =>
    clear hU hV hK hKU hKV bel0
    obtain ⟨n, g, c, hn, rfl, rfl, own, hU, hV, hKU, hKV, bel⟩ := hrel
    by_cases hlt : n < nn
    · have hl1 : n < len := by omega
      obtain rfl := hoa (by omega)
      have hl2 : n < 12 := by omega
      have R1 := HR.out.below bel (fun h => hal h)
      have q0c := R1.c0 n hl1
      have q1c := R1.c1 n hl1
      have hzn := HZ.out n hl1
      have hkk : kl E (n + 1) = kl E n ++ [kt (E n)] := rfl
      have HKK := Lib.hid hkk
      have HOw := Lib.hid own
      have HU1 := Lib.hid hU
      have HV1 := Lib.hid hV
      have HKU := Lib.hid hKU
      have HKV := Lib.hid hKV
      have hablk : a.block < wr.heap.size := R1.lt (by omega)
      have habw : a.block < w.heap.size := hal (by omega)
      clear R1 own hU hV hKU hKV hkk
      rcases he : E n with ⟨t, s⟩
      rw [he] at q0c q1c hzn HKK
      dsimp only at q0c q1c hzn
      clear he
      obtain ⟨T, hT⟩ : ∃ T, bits .and .i64 t 65535 = T := ⟨_, rfl⟩
      obtain ⟨S, hS⟩ : ∃ S, s.extract 0 (min (s.size : Int) 20).toNat = S := ⟨_, rfl⟩
      have hsl : ∀ W, (Instr.slice 9 (.string s) none (some (.int .i64 (min (s.size : Int) 20))) none).run Try.prog W = .ok (.string S) W := fun W => by
        rw [← hS]
        exact run_slice_string_h W _ s Try.underlying9 .i64 _ (by omega) (by omega)
      have hkt : kt (t, s) = (T, S) := by unfold kt; rw [hT, hS]
      rw [hkt] at HKK
      clear hkt
      unfold maxLen at hzn
      have al := (Below.refl wr.heap.size wr).alloc (Nat.le_refl _) (.cells #[.int .i64 T, .string S] 94)
      have own4 := Lib.hid (own_all (w' := (wr.alloc (.cells #[.int .i64 T, .string S] 94)).drew) HOw.out al.drew)
      have hge : some a.block ≠ (Value.slice (some ⟨g, 0, none⟩) n c).ownBlock := fun q => by have := own_ge HOw.out _ q.symm; omega
      have hgw : w.heap.size ≤ g := own_ge HOw.out g rfl
      have hbs := bel.size
      go_upto_region 6 with (fail)
      go_region_held3 (fun w' => w'.cell? (a.add (n * 2)) = some (.int .i64 t) ∧ w'.cell? { block := (a.add (n * 2)).block, off := (a.add (n * 2)).off + 1 } = some (.string s))
        (first
          | go_keep
          | (go_split_ands
             refine ⟨?_, ?_⟩
             · (rw [hgrow.cell_far _ (by simp [add_block]; omega) (by simp only [add_block]; exact hge)]; assumption)
             · (rw [hgrow.cell_far _ (by simp [add_block]; omega) (by simp only [add_block]; exact hge)]; assumption)))
        ((refine step_append_lies _ (by rfl) _ _ _ (by rfl) w.heap.size 94 i0 (.agg #[.int .i64 0, .string ByteArray.empty]) 2 24 Try.underlying31 hi hz0 hz1 hz2 (by rfl) (by decide) (.slice (some ⟨g, 0, none⟩) n c) n (cellsQ (kl E n)) (by rfl) own4.out ⟨wr.heap.size, 0, none⟩ 1 1 (#[.int .i64 T, .string S] : Array Value).toList (by rfl) (by rfl) (World.news_of_block (cs := #[.int .i64 T, .string S]) (heap_alloc_new _ _)) (prm_one (T, S)) (by omega) (by unfold maxLen; omega) (by omega) (by simp; omega) (wr.heap.size + 1) (by simp) ?_; intro h2 cap2 w8 hown8 hgrow hat hlt8))
      have bel8 : Below w.heap.size w w8 := ((bel.alloc bel.size _).drew).grown hgrow (by simp; omega) (own_ge own4.out)
      have hU8 := own_grow (own_all (w' := (wr.alloc (.cells #[.int .i64 T, .string S] 94)).drew) HU1.out al.drew) hgrow HKU.out
      have hV8 := own_grow (own_all (w' := (wr.alloc (.cells #[.int .i64 T, .string S] 94)).drew) HV1.out al.drew) hgrow HKV.out
      have hdU : Dis (.slice (some ⟨h2, 0, none⟩) (n + 1) cap2) u0 := dis_grow (own_all (w' := (wr.alloc (.cells #[.int .i64 T, .string S] 94)).drew) HU1.out al.drew) HKU.out hat (by simp)
      have hdV : Dis (.slice (some ⟨h2, 0, none⟩) (n + 1) cap2) v0 := dis_grow (own_all (w' := (wr.alloc (.cells #[.int .i64 T, .string S] 94)).drew) HV1.out al.drew) HKV.out hat (by simp)
      have hK8 : w8.ownsRow w.heap.size 94 2 (.slice (some ⟨h2, 0, none⟩) (n + 1) cap2) (n + 1) (cellsQ (kl E (n + 1))) := by
        rw [HKK.out, cellsQ_snoc]
        exact hown8
      have HRR := Lib.hid (And.intro hK8 (And.intro hU8 (And.intro hV8 (And.intro hdU hdV))))
      clear hown8 hgrow hat hlt8 hU8 hV8 hdU hdV hK8 own4 al HOw HU1 HV1 HKU HKV q0c q1c hsl hzn hT hS bel HKK
      go_wp2_with fail
      go_roundw
      case rel => exact ⟨n + 1, h2, cap2, by omega, by go_num, rfl, HRR.out.1, HRR.out.2.1, HRR.out.2.2.1, HRR.out.2.2.2.1, HRR.out.2.2.2.2, bel8⟩
      case measure => simp [intOf]; omega
    · obtain rfl : n = nn := by omega
      obtain ⟨L, hL⟩ : ∃ L, kl E n = L := ⟨_, rfl⟩
      have hlen : L.length = n := by rw [← hL]; exact kl_len E n
      have hokl : ∀ k, k < L.length → Ok (L.getD k q0) := fun k hk => by rw [← hL]; exact kl_ok E n k (by omega)
      rw [hL] at own
      obtain ⟨_, _, _, hcn, hcm2, _⟩ := own_blk own
      have HLn := Lib.hid hlen
      have HOKL := Lib.hid hokl
      rw [← hlen] at hn2 hcn
      have hn2' : n ≤ 12 := by omega
      have HK0 := Lib.hid own
      have HU0 := Lib.hid hU
      have HV0 := Lib.hid hV
      have HD0 := Lib.hid (And.intro HUV.out (And.intro hKU hKV))
      clear hL hlen hokl own hU hV hKU hKV HUV HR HZ hal
      rcases (by have := HNN.out; omega : (n < len ∧ ¬ n < 12) ∨ ¬ n < len) with ⟨hq, hq2⟩ | hq
      all_goals
        go_upto_region 8 with (fail)
        go_loopw [3, 4, 7] (fun s3 s4 s7 wy => ∃ (k : Nat) (U V : List Pm) (v u : Value), k ≤ n ∧ s7 = .int .i64 k ∧ v = s3 ∧ u = s4 ∧ Row wy w.heap.size v U ∧ Row wy w.heap.size u V ∧ wy.ownsRow w.heap.size 94 2 (.slice (some ⟨g, 0, none⟩) n c) n (cellsQ L) ∧ Dis v u ∧ Dis (.slice (some ⟨g, 0, none⟩) n c) v ∧ Dis (.slice (some ⟨g, 0, none⟩) n c) u ∧ U ++ (sp (L.drop k)).1 = (sp L).1 ∧ V ++ (sp (L.drop k)).2 = (sp L).2 ∧ U.length ≤ k ∧ V.length ≤ k ∧ Below w.heap.size w wy) (fun _ _ s7 _ => n - (intOf s7).toNat)
        case atStart => exact ⟨0, [], [], _, _, by omega, rfl, rfl, rfl, HU0.out, HV0.out, HK0.out, HD0.out.1, HD0.out.2.1, HD0.out.2.2, rfl, rfl, Nat.le_refl _, Nat.le_refl _, bel⟩
        case round =>
          clear HU0 HV0 HK0 HD0 bel
          obtain ⟨k, U, V, v, u, hk, rfl, rfl, rfl, hv, hu, hK, d1, d2, d3, e1, e2, l1, l2, bel⟩ := hrel
          have HV := Lib.hid hv
          have HU := Lib.hid hu
          have HK := Lib.hid hK
          have HD := Lib.hid (And.intro d1 (And.intro d2 d3))
          have HE := Lib.hid (And.intro e1 e2)
          clear hv hu hK d1 d2 d3 e1 e2
          by_cases hlt : k < n
          · have hlL : k < L.length := by rw [HLn.out]; exact hlt
            have K := cel_q (Cel.of_owns HK.out) k hlL
            have hkk := HOKL.out k hlL
            have s1 := fun a => sp_step_known hlL a
            have s2 := fun a b => sp_step_stop hlL a b
            have s3 := fun a b => sp_step_go hlL a b
            rcases hp : L.getD k q0 with ⟨t, s⟩
            rw [hp] at K hkk s1 s2 s3
            have HS := Lib.hid (And.intro s1 (And.intro s2 s3))
            have hput := put_len hkk
            have HP := Lib.hid hp
            clear s1 s2 s3 hp hlL
            obtain ⟨nt, rfl⟩ : ∃ nt : Nat, t = nt := ⟨t.toNat, by have := hkk.t0; omega⟩
            have hnt : nt < 65536 := by have := hkk.t1; omega
            have a0 : wr.cell? ⟨g, k * 2, none⟩ = some (.int .i64 nt) := K.cell 0 (u := .int .i64 nt) rfl
            clear K hkk
            have hkn := fun W => rknown_any (nt : Int) W
            cases hkt : kn (nt : Int) with
            | true =>
              rw [hkt] at hkn
              have HKT := Lib.hid hkt
              clear hkt hput
              go_wp2_with fail
              refine (hkn _).mono ?_
              rintro e y2 ⟨rfl, hb2⟩
              have HV2 := Lib.hid (own_all HV.out hb2)
              have HU2 := Lib.hid (own_all HU.out hb2)
              have HK2 := Lib.hid (own_all HK.out hb2)
              have bel2 := bel.trans (hb2.mono bel.size)
              clear HV HU HK bel hb2 hkn a0
              have K2 := cel_q (Cel.of_owns HK2.out) k (by rw [HLn.out]; exact hlt)
              rw [HP.out] at K2
              have d0 : y2.cell? ⟨g, k * 2, none⟩ = some (.int .i64 nt) := K2.cell 0 (u := .int .i64 nt) rfl
              have d1 : y2.cell? ⟨g, k * 2 + 1, none⟩ = some (.string s) := K2.cell 1 (u := .string s) rfl
              have N4 := Blk.new y2 94 #[.int .i64 nt, .string s]
              have al4 := (Below.refl y2.heap.size y2).alloc (Nat.le_refl _) (.cells #[.int .i64 nt, .string s] 94)
              have HO4 := Lib.hid (own_all HV2.out al4)
              have HU4 := Lib.hid (own_all HU2.out al4)
              have HK4 := Lib.hid (own_all HK2.out al4)
              have HN4 := Lib.hid (World.news_of_block N4)
              have HS4 := Lib.hid (show (y2.alloc (.cells #[.int .i64 nt, .string s] 94)).heap.size = y2.heap.size + 1 by simp)
              have HBB := Lib.hid (show Below w.heap.size w (y2.alloc (.cells #[.int .i64 nt, .string s] 94)) from bel2.alloc bel2.size _)
              have HB4 := Lib.hid (show w.heap.size ≤ (y2.alloc (.cells #[.int .i64 nt, .string s] 94)).heap.size from HBB.out.size)
              have hrl : ∀ y ∈ (#[.int .i64 nt, .string s] : Array Value).toList, y.oneCell' = true := prm_one ((nt : Int), s)
              clear HV2 HU2 HK2 bel2 N4 al4 K2
              go_wp2_with (at_builtin; refine wpList_append_lies _ rfl _ _ 31 rfl w.heap.size 94 i0 (.agg #[.int .i64 0, .string ByteArray.empty]) 2 24 Try.underlying31 hi hz0 hz1 hz2 rfl (by decide) v U.length (cellsQ U) rfl HO4.out ⟨y2.heap.size, 0, none⟩ 1 1 (#[.int .i64 nt, .string s] : Array Value).toList rfl rfl HN4.out hrl (by omega) (by unfold maxLen; omega) (by omega) HB4.out (y2.heap.size + 1) HS4.out ?_; intro g8 c8 w8 own8 grow8 hat8 hlt8)
              have bel8 := HBB.out.grown grow8 HB4.out (own_ge HO4.out)
              have hu8 := own_grow HU4.out grow8 HD.out.1
              have hk8 := own_grow HK4.out grow8 HD.out.2.1.symm
              have hd8 : Dis (.slice (some ⟨g8, 0, none⟩) (U.length + 1) c8) u := dis_grow HU4.out HD.out.1 hat8 HS4.out
              have hd9 : Dis (.slice (some ⟨g, 0, none⟩) n c) (.slice (some ⟨g8, 0, none⟩) (U.length + 1) c8) := (dis_grow HK4.out HD.out.2.1.symm hat8 HS4.out).symm
              have hv8 : Row w8 w.heap.size (.slice (some ⟨g8, 0, none⟩) (U.length + 1) c8) (U ++ [((nt : Int), s)]) := row_snoc rfl own8
              have e1 := HE.out.1
              have e2 := HE.out.2
              rw [HS.out.1 HKT.out] at e1 e2
              have HR := Lib.hid (And.intro hv8 (And.intro hu8 (And.intro hk8 (And.intro hd8 (And.intro hd9 (And.intro HD.out.2.2 (And.intro e1 e2)))))))
              clear HO4 HU4 HK4 HN4 HS4 HB4 HBB hrl grow8 hat8 hlt8 own8 hv8 hu8 hk8 hd8 hd9 e1 e2 HE HS HD d0 d1 HP
              go_roundw
              case rel => exact ⟨k + 1, U ++ [((nt : Int), s)], V, _, _, by omega, by go_num, rfl, rfl, HR.out.1, HR.out.2.1, HR.out.2.2.1, HR.out.2.2.2.1, HR.out.2.2.2.2.1, HR.out.2.2.2.2.2.1, by rw [List.append_assoc]; exact HR.out.2.2.2.2.2.2.1, HR.out.2.2.2.2.2.2.2, by simp; omega, by omega, bel8⟩
              case measure => simp [intOf]; omega
            | false =>
              rw [hkt] at hkn
              have hkn' : ¬ kn (nt : Int) = true := by rw [hkt]; decide
              have HKT := Lib.hid hkn'
              clear hkt hkn'
              have hrr : ∀ W, Calls Try.prog 51 #[.int .i64 ((nt : Int) / 16384)] W fun e w' => e = .returned (.int .i64 (ruleV (nt / 16384))) ∧ Below W.heap.size W w' := fun W => rule_any (nt / 16384) (by omega) W
              have hpt := fun W => rput_any (nt : Int) s W
              have hst : stp ((nt : Int), s) = decide (ruleV (nt / 16384) = 1 ∨ ruleV (nt / 16384) = 3) := by unfold stp; rw [Int.toNat_natCast]
              have htl : tl ((nt : Int), s) = if ruleV (nt / 16384) = 3 ∨ ruleV (nt / 16384) = 2 then [(8, putP nt s)] else [] := by unfold tl; rw [Int.toNat_natCast]
              have hrv := ruleV_or (nt / 16384)
              generalize ruleV (nt / 16384) = rv at *
              clear hput
              obtain ⟨Ps, hPs⟩ : ∃ Ps, putP (nt : Int) s = Ps := ⟨_, rfl⟩
              rw [hPs] at hpt htl
              clear hPs
              go_wp2_with fail
              refine (hkn _).mono ?_
              rintro e y1 ⟨rfl, hb1⟩
              have HV1 := Lib.hid (own_all HV.out hb1)
              have HU1 := Lib.hid (own_all HU.out hb1)
              have HK1 := Lib.hid (own_all HK.out hb1)
              have bel1 := bel.trans (hb1.mono bel.size)
              clear HV HU HK bel hb1 hkn a0
              have K1 := cel_q (Cel.of_owns HK1.out) k (by rw [HLn.out]; exact hlt)
              rw [HP.out] at K1
              have c0 : y1.cell? ⟨g, k * 2, none⟩ = some (.int .i64 nt) := K1.cell 0 (u := .int .i64 nt) rfl
              clear K1
              go_wp2_with fail
              refine (hrr _).mono ?_
              rintro e y2 ⟨rfl, hb2⟩
              have HV2 := Lib.hid (own_all HV1.out hb2)
              have HU2 := Lib.hid (own_all HU1.out hb2)
              have HK2 := Lib.hid (own_all HK1.out hb2)
              have bel2 := bel1.trans (hb2.mono bel1.size)
              clear HV1 HU1 HK1 bel1 hb2 hrr c0
              have K2 := cel_q (Cel.of_owns HK2.out) k (by rw [HLn.out]; exact hlt)
              rw [HP.out] at K2
              have d0 : y2.cell? ⟨g, k * 2, none⟩ = some (.int .i64 nt) := K2.cell 0 (u := .int .i64 nt) rfl
              have d1 : y2.cell? ⟨g, k * 2 + 1, none⟩ = some (.string s) := K2.cell 1 (u := .string s) rfl
              clear K2 HP
              have b01 : bits .and .i64 0 1 = 0 := by decide
              have b02 : bits .and .i64 0 2 = 0 := by decide
              have b11 : bits .and .i64 1 1 = 1 := by decide
              have b12 : bits .and .i64 1 2 = 0 := by decide
              have b21 : bits .and .i64 2 1 = 0 := by decide
              have b22 : bits .and .i64 2 2 = 2 := by decide
              have b31 : bits .and .i64 3 1 = 1 := by decide
              have b32 : bits .and .i64 3 2 = 2 := by decide
              rcases hrv with rfl | rfl | rfl | rfl
              · have HTE := Lib.hid (show U = (sp L).1 ∧ V = (sp L).2 by
                  have e1 := HE.out.1
                  have e2 := HE.out.2
                  rw [HS.out.2.1 HKT.out (by rw [hst]; decide), htl] at e1 e2
                  exact ⟨by simpa using e1, by simpa using e2⟩)
                clear hst htl HE HS HD hpt
                rw [HTE.out.1] at HV2
                rw [HTE.out.2] at HU2
                clear HTE
                have hpa := params_any g c L y2 hn2 hcn hcm2 (own_lt HK2.out g rfl) (fun k hk => cel_q (Cel.of_owns HK2.out) k hk) HOKL.out
                rw [HLn.out] at hpa
                have HP1 := Lib.hid HV2.out
                have HP2 := Lib.hid HU2.out
                go_wp2_with fail
                refine hpa.mono ?_
                rintro e y7 ⟨pa, pb, rfl, ra, rb, hb7⟩
                have ra' := Lib.hid ra
                have rb' := Lib.hid rb
                have q1 := Lib.hid (own_all HP1.out hb7)
                have q2 := Lib.hid (own_all HP2.out hb7)
                have bel9 := bel2.trans (hb7.mono bel2.size)
                have hsl := sp_len L
                have HSL := Lib.hid hsl
                clear hpa HP1 HP2 ra rb hb7 hsl
                go_wp2_with fail
                refine (awake24 _).mono ?_
                rintro e y8 ⟨rfl, rfl⟩
                go_wp2_with fail
                refine (same_any _ _ _ _ (sp L).1 _ (by have := HSL.out.1; rw [HLn.out] at this; omega) ra'.out q1.out).mono ?_
                rintro e y9 ⟨rfl, hb9⟩
                have rb4 := Lib.hid (own_all rb'.out hb9)
                have q4 := Lib.hid (own_all q2.out hb9)
                have bel10 := bel9.trans (hb9.mono bel9.size)
                clear ra' rb' q1 q2 bel9 hb9
                go_wp2_with fail
                refine (same_any _ _ _ _ (sp L).2 _ (by have := HSL.out.2; rw [HLn.out] at this; omega) rb4.out q4.out).mono ?_
                rintro e y10 ⟨rfl, hb10⟩
                have bel11 := bel10.trans (hb10.mono bel10.size)
                go_wp2_with fail
                go_ret
                exact ⟨rfl, bel11⟩
              · have HTE := Lib.hid (show U = (sp L).1 ∧ V ++ [((8 : Int), Ps)] = (sp L).2 by
                  have e1 := HE.out.1
                  have e2 := HE.out.2
                  rw [HS.out.2.1 HKT.out (by rw [hst]; decide), htl] at e1 e2
                  exact ⟨by simpa using e1, by simpa using e2⟩)
                clear hst htl
                go_wp2_with fail
                refine (hpt _).mono ?_
                rintro e y3 ⟨rfl, hb3⟩
                have HV3 := Lib.hid (own_all HV2.out hb3)
                have HU3 := Lib.hid (own_all HU2.out hb3)
                have HK3 := Lib.hid (own_all HK2.out hb3)
                have bel3 := bel2.trans (hb3.mono bel2.size)
                clear HV2 HU2 HK2 bel2 hb3 hpt d0 d1
                have N4 := Blk.new y3 94 #[.int .i64 8, .string Ps]
                have al4 := (Below.refl y3.heap.size y3).alloc (Nat.le_refl _) (.cells #[.int .i64 8, .string Ps] 94)
                have HO4 := Lib.hid (own_all HU3.out al4)
                have HV4 := Lib.hid (own_all HV3.out al4)
                have HK4 := Lib.hid (own_all HK3.out al4)
                have HN4 := Lib.hid (World.news_of_block N4)
                have HS4 := Lib.hid (show (y3.alloc (.cells #[.int .i64 8, .string Ps] 94)).heap.size = y3.heap.size + 1 by simp)
                have HBB := Lib.hid (show Below w.heap.size w (y3.alloc (.cells #[.int .i64 8, .string Ps] 94)) from bel3.alloc bel3.size _)
                have HB4 := Lib.hid (show w.heap.size ≤ (y3.alloc (.cells #[.int .i64 8, .string Ps] 94)).heap.size from HBB.out.size)
                have hrl : ∀ y ∈ (#[.int .i64 8, .string Ps] : Array Value).toList, y.oneCell' = true := prm_one ((8 : Int), Ps)
                clear HV3 HU3 HK3 bel3 N4 al4
                go_wp2_with (at_builtin; refine wpList_append_lies _ rfl _ _ 31 rfl w.heap.size 94 i0 (.agg #[.int .i64 0, .string ByteArray.empty]) 2 24 Try.underlying31 hi hz0 hz1 hz2 rfl (by decide) u V.length (cellsQ V) rfl HO4.out ⟨y3.heap.size, 0, none⟩ 1 1 (#[.int .i64 8, .string Ps] : Array Value).toList rfl rfl HN4.out hrl (by omega) (by unfold maxLen; omega) (by omega) HB4.out (y3.heap.size + 1) HS4.out ?_; intro g8 c8 w8 own8 grow8 hat8 hlt8)
                have bel8 := HBB.out.grown grow8 HB4.out (own_ge HO4.out)
                have hv8 := own_grow HV4.out grow8 HD.out.1.symm
                have hk8 := own_grow HK4.out grow8 HD.out.2.2.symm
                have hd8 : Dis v (.slice (some ⟨g8, 0, none⟩) (V.length + 1) c8) := (dis_grow HV4.out HD.out.1.symm hat8 HS4.out).symm
                have hd9 : Dis (.slice (some ⟨g, 0, none⟩) n c) (.slice (some ⟨g8, 0, none⟩) (V.length + 1) c8) := (dis_grow HK4.out HD.out.2.2.symm hat8 HS4.out).symm
                have hu8 : Row w8 w.heap.size (.slice (some ⟨g8, 0, none⟩) (V.length + 1) c8) (V ++ [((8 : Int), Ps)]) := row_snoc rfl own8
                have HR := Lib.hid (And.intro hv8 (And.intro hu8 (And.intro hk8 (And.intro hd8 (And.intro HD.out.2.1 (And.intro hd9 HTE.out))))))
                clear HO4 HV4 HK4 HN4 HS4 HB4 HBB hrl grow8 hat8 hlt8 own8 hv8 hu8 hk8 hd8 hd9 HTE HE HS HD
                have HX1 := Lib.hid HR.out.1
                have HX2 := Lib.hid HR.out.2.1
                rw [HR.out.2.2.2.2.2.2.1] at HX1
                rw [HR.out.2.2.2.2.2.2.2] at HX2
                have HX3 := Lib.hid HR.out.2.2.1
                clear HR
                have hpa := params_any g c L w8 hn2 hcn hcm2 (own_lt HX3.out g rfl) (fun k hk => cel_q (Cel.of_owns HX3.out) k hk) HOKL.out
                rw [HLn.out] at hpa
                have HP1 := Lib.hid HX1.out
                have HP2 := Lib.hid HX2.out
                go_wp2_with fail
                refine hpa.mono ?_
                rintro e y7 ⟨pa, pb, rfl, ra, rb, hb7⟩
                have ra' := Lib.hid ra
                have rb' := Lib.hid rb
                have q1 := Lib.hid (own_all HP1.out hb7)
                have q2 := Lib.hid (own_all HP2.out hb7)
                have bel9 := bel8.trans (hb7.mono bel8.size)
                have hsl := sp_len L
                have HSL := Lib.hid hsl
                clear hpa HP1 HP2 ra rb hb7 hsl
                go_wp2_with fail
                refine (awake24 _).mono ?_
                rintro e y8 ⟨rfl, rfl⟩
                go_wp2_with fail
                refine (same_any _ _ _ _ (sp L).1 _ (by have := HSL.out.1; rw [HLn.out] at this; omega) ra'.out q1.out).mono ?_
                rintro e y9 ⟨rfl, hb9⟩
                have rb4 := Lib.hid (own_all rb'.out hb9)
                have q4 := Lib.hid (own_all q2.out hb9)
                have bel10 := bel9.trans (hb9.mono bel9.size)
                clear ra' rb' q1 q2 bel9 hb9
                go_wp2_with fail
                refine (same_any _ _ _ _ (sp L).2 _ (by have := HSL.out.2; rw [HLn.out] at this; omega) rb4.out q4.out).mono ?_
                rintro e y10 ⟨rfl, hb10⟩
                have bel11 := bel10.trans (hb10.mono bel10.size)
                go_wp2_with fail
                go_ret
                exact ⟨rfl, bel11⟩
              · have HTE := Lib.hid (show U ++ (sp (L.drop (k + 1))).1 = (sp L).1 ∧ V ++ (sp (L.drop (k + 1))).2 = (sp L).2 by
                  have e1 := HE.out.1
                  have e2 := HE.out.2
                  rw [HS.out.2.2 HKT.out (by rw [hst]; decide), htl] at e1 e2
                  exact ⟨by simpa using e1, by simpa using e2⟩)
                clear hst htl HE HS
                go_wp2_with fail
                go_roundw
                case rel => exact ⟨k + 1, U, V, _, _, by omega, by go_num, rfl, rfl, HV2.out, HU2.out, HK2.out, HD.out.1, HD.out.2.1, HD.out.2.2, HTE.out.1, HTE.out.2, by omega, by omega, bel2⟩
                case measure => simp [intOf]; omega
              · have HTE := Lib.hid (show U ++ (sp (L.drop (k + 1))).1 = (sp L).1 ∧ V ++ ((8 : Int), Ps) :: (sp (L.drop (k + 1))).2 = (sp L).2 by
                  have e1 := HE.out.1
                  have e2 := HE.out.2
                  rw [HS.out.2.2 HKT.out (by rw [hst]; decide), htl] at e1 e2
                  exact ⟨by simpa using e1, by simpa using e2⟩)
                clear hst htl
                go_wp2_with fail
                refine (hpt _).mono ?_
                rintro e y3 ⟨rfl, hb3⟩
                have HV3 := Lib.hid (own_all HV2.out hb3)
                have HU3 := Lib.hid (own_all HU2.out hb3)
                have HK3 := Lib.hid (own_all HK2.out hb3)
                have bel3 := bel2.trans (hb3.mono bel2.size)
                clear HV2 HU2 HK2 bel2 hb3 hpt d0 d1
                have N4 := Blk.new y3 94 #[.int .i64 8, .string Ps]
                have al4 := (Below.refl y3.heap.size y3).alloc (Nat.le_refl _) (.cells #[.int .i64 8, .string Ps] 94)
                have HO4 := Lib.hid (own_all HU3.out al4)
                have HV4 := Lib.hid (own_all HV3.out al4)
                have HK4 := Lib.hid (own_all HK3.out al4)
                have HN4 := Lib.hid (World.news_of_block N4)
                have HS4 := Lib.hid (show (y3.alloc (.cells #[.int .i64 8, .string Ps] 94)).heap.size = y3.heap.size + 1 by simp)
                have HBB := Lib.hid (show Below w.heap.size w (y3.alloc (.cells #[.int .i64 8, .string Ps] 94)) from bel3.alloc bel3.size _)
                have HB4 := Lib.hid (show w.heap.size ≤ (y3.alloc (.cells #[.int .i64 8, .string Ps] 94)).heap.size from HBB.out.size)
                have hrl : ∀ y ∈ (#[.int .i64 8, .string Ps] : Array Value).toList, y.oneCell' = true := prm_one ((8 : Int), Ps)
                clear HV3 HU3 HK3 bel3 N4 al4
                go_wp2_with (at_builtin; refine wpList_append_lies _ rfl _ _ 31 rfl w.heap.size 94 i0 (.agg #[.int .i64 0, .string ByteArray.empty]) 2 24 Try.underlying31 hi hz0 hz1 hz2 rfl (by decide) u V.length (cellsQ V) rfl HO4.out ⟨y3.heap.size, 0, none⟩ 1 1 (#[.int .i64 8, .string Ps] : Array Value).toList rfl rfl HN4.out hrl (by omega) (by unfold maxLen; omega) (by omega) HB4.out (y3.heap.size + 1) HS4.out ?_; intro g8 c8 w8 own8 grow8 hat8 hlt8)
                have bel8 := HBB.out.grown grow8 HB4.out (own_ge HO4.out)
                have hv8 := own_grow HV4.out grow8 HD.out.1.symm
                have hk8 := own_grow HK4.out grow8 HD.out.2.2.symm
                have hd8 : Dis v (.slice (some ⟨g8, 0, none⟩) (V.length + 1) c8) := (dis_grow HV4.out HD.out.1.symm hat8 HS4.out).symm
                have hd9 : Dis (.slice (some ⟨g, 0, none⟩) n c) (.slice (some ⟨g8, 0, none⟩) (V.length + 1) c8) := (dis_grow HK4.out HD.out.2.2.symm hat8 HS4.out).symm
                have hu8 : Row w8 w.heap.size (.slice (some ⟨g8, 0, none⟩) (V.length + 1) c8) (V ++ [((8 : Int), Ps)]) := row_snoc rfl own8
                have HR := Lib.hid (And.intro hv8 (And.intro hu8 (And.intro hk8 (And.intro hd8 (And.intro HD.out.2.1 (And.intro hd9 HTE.out))))))
                clear HO4 HV4 HK4 HN4 HS4 HB4 HBB hrl grow8 hat8 hlt8 own8 hv8 hu8 hk8 hd8 hd9 HTE HE HS HD
                go_wp2_with fail
                go_roundw
                case rel => exact ⟨k + 1, U, V ++ [((8 : Int), Ps)], _, _, by omega, by go_num, rfl, rfl, HR.out.1, HR.out.2.1, HR.out.2.2.1, HR.out.2.2.2.1, HR.out.2.2.2.2.1, HR.out.2.2.2.2.2.1, HR.out.2.2.2.2.2.2.1, by rw [List.append_assoc]; exact HR.out.2.2.2.2.2.2.2, by omega, by simp; omega, bel8⟩
                case measure => simp [intOf]; omega
          · obtain rfl : k = n := by omega
            have e1 := HE.out.1
            have e2 := HE.out.2
            have hdr : L.drop k = [] := List.drop_eq_nil_of_le (by rw [HLn.out]; exact Nat.le_refl _)
            rw [hdr] at e1 e2
            have E1 : U = (sp L).1 := by simpa [sp] using e1
            have E2 : V = (sp L).2 := by simpa [sp] using e2
            rw [E1] at HV
            rw [E2] at HU
            clear e1 e2 E1 E2 hdr HE HD
            have hpa := params_any g c L wr hn2 hcn hcm2 (own_lt HK.out g rfl) (fun k hk => cel_q (Cel.of_owns HK.out) k hk) HOKL.out
            rw [HLn.out] at hpa
            have HP1 := Lib.hid HV.out
            have HP2 := Lib.hid HU.out
            go_wp2_with fail
            refine hpa.mono ?_
            rintro e y2 ⟨pa, pb, rfl, ra, rb, hb2⟩
            have ra' := Lib.hid ra
            have rb' := Lib.hid rb
            have q1 := Lib.hid (own_all HP1.out hb2)
            have q2 := Lib.hid (own_all HP2.out hb2)
            have bel9 := bel.trans (hb2.mono bel.size)
            have hsl := sp_len L
            have HSL := Lib.hid hsl
            clear hpa HP1 HP2 ra rb hb2 hsl
            go_wp2_with fail
            refine (awake24 _).mono ?_
            rintro e y3 ⟨rfl, rfl⟩
            go_wp2_with fail
            refine (same_any _ _ _ _ (sp L).1 _ (by have := HSL.out.1; rw [HLn.out] at this; omega) ra'.out q1.out).mono ?_
            rintro e y4 ⟨rfl, hb4⟩
            have rb4 := Lib.hid (own_all rb'.out hb4)
            have q4 := Lib.hid (own_all q2.out hb4)
            have bel10 := bel9.trans (hb4.mono bel9.size)
            clear ra' rb' q1 q2 bel9 hb4
            go_wp2_with fail
            refine (same_any _ _ _ _ (sp L).2 _ (by have := HSL.out.2; rw [HLn.out] at this; omega) rb4.out q4.out).mono ?_
            rintro e y5 ⟨rfl, hb5⟩
            have bel11 := bel10.trans (hb5.mono bel10.size)
            go_wp2_with fail
            go_ret
            exact ⟨rfl, bel11⟩
theorem strange_open {H : Type} {enc : TypeId × Value → H} {W : World} {base : Nat} {v0 : Value} {d0 : DataW H} {p0 : List MemPlace}
    (o0 : Value.okWide Try.prog W .any base 31 v0) (h0 : DataW.Trod enc Try.prog W 0 (fun _ => true) true 31 v0 d0 p0) :
    Calls Try.prog 9 #[v0] W fun e w' => e = .returned (.bool true) ∧ Below W.heap.size W w' := by
  rcases open_row 3 (sh := [.int .i64, .str]) Try.underlying31 (by kernel_rfl) (by kernel_rfl) (by decide) o0 h0 with rfl | ⟨a, len, cap, C, rfl, hlc, hcm, hab, hC⟩
  · exact strange_law none ⟨0, 0, none⟩ 0 0 (fun _ => q0) W (Nat.le_refl _) (by unfold maxLen; omega) (fun h => absurd h (Nat.lt_irrefl _)) ⟨fun h => absurd h (Nat.lt_irrefl _), fun i h => absurd h (Nat.not_lt_zero i), fun i h => absurd h (Nat.not_lt_zero i)⟩ (fun i h => absurd h (Nat.not_lt_zero i))
  · have hx : ∀ i, ∃ x : Int × ByteArray, i < len → (W.cell? (a.add (i * 2)) = some (.int .i64 x.1) ∧ W.cell? { block := (a.add (i * 2)).block, off := (a.add (i * 2)).off + 1 } = some (.string x.2)) ∧ x.2.size ≤ maxLen := by
      intro i
      by_cases hi : i < len
      · obtain ⟨hF, hc⟩ := hC i hi
        obtain ⟨x, t, e, hw, hF'⟩ := hF.int
        obtain ⟨y, t', e', hw', hF''⟩ := hF'.str
        refine ⟨(x, y), fun _ => ⟨⟨?_, ?_⟩, hw'⟩⟩
        · have := hc 0 (.int .i64 x) (by rw [e]; rfl)
          simpa using this
        · have := hc 1 (.string y) (by rw [e, e']; rfl)
          rw [show ({ block := (a.add (i * 2)).block, off := (a.add (i * 2)).off + 1 } : Addr) = (a.add (i * 2)).add 1 from rfl, Addr.add_add]
          simpa using this
      · exact ⟨(0, ByteArray.empty), fun h => absurd h hi⟩
    have hs := fun i => Classical.choose_spec (hx i)
    exact strange_law (some a) a len cap (fun i => Classical.choose (hx i)) W hlc hcm (fun _ => rfl) ⟨hab, fun i hi => (hs i hi).1.1, fun i hi => (hs i hi).1.2⟩ (fun i hi => (hs i hi).2)
end Go.Proofs.Ytdjdgccomefoaaa.str
