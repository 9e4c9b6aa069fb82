/- Layer 31: whatever is put, taken, doubled and bent; the statement walked. -/
import Derived.Test.YtdocphkpeonldaaNplF
import Derived.Test.YtdocphkpeonldaaKitT
namespace Go.Proofs.Ytdocphkpeonldaa.npl
open Go.Sort (grow)
open Go.ChangeShapes Go.WideShapes Go.ChangeAt Go.RowKit kit storm byt
set_option maxRecDepth 100000

theorem add_at (h o t : Nat) : (⟨h, o, none⟩ : Addr).add t = ⟨h, o + t, none⟩ := by unfold Addr.add; split <;> simp_all
theorem s7_of {w : World} {hq k : Nat} {L : List It} {zl zn zf zt : Int} {zs : ByteArray} {zb : Bool} (C : Cel w hq 0 (cellsI L).toArray) (hk : k < L.length) (hx : L.getD k it0 = ⟨zl, zn, zf, zt, zs, zb⟩) : w.cell? ⟨hq, k * 6, none⟩ = some (.int .i64 zl) ∧ w.cell? ⟨hq, k * 6 + 1, none⟩ = some (.int .i64 zn) ∧ w.cell? ⟨hq, k * 6 + 2, none⟩ = some (.int .u32 zf) ∧ w.cell? ⟨hq, k * 6 + 3, none⟩ = some (.int .u32 zt) ∧ w.cell? ⟨hq, k * 6 + 4, none⟩ = some (.string zs) ∧ w.cell? ⟨hq, k * 6 + 5, none⟩ = some (.bool zb) := by
  have D := cel_of_cells C k hk
  rw [hx] at D
  exact ⟨D.cell 0 rfl, D.cell 1 rfl, D.cell 2 rfl, D.cell 3 rfl, D.cell 4 rfl, D.cell 5 rfl⟩
theorem cel_alloc_old {w : World} {a : Addr} {v : Value} (h : w.cell? a = some v) (o : Obj) (hb : a.block < w.heap.size) : (w.alloc o).cell? a = some v := (World.cell?_of_block (Go.heap_alloc_old w o hb)).trans h
theorem ne_list (S : ByteArray) (h : 0 < S.size) : S.toList.isEmpty = false := by
  rw [ByteArray.toList_eq, List.isEmpty_eq_false_iff]
  intro e
  have h0 : S.data.toList.length = 0 := by rw [e]; rfl
  have h1 : S.data.toList.length = S.size := by simp
  omega
theorem emp_list (S : ByteArray) (h : S.size = 0) : S.toList.isEmpty = true := by
  rw [ByteArray.toList_eq, List.isEmpty_iff]
  exact List.length_eq_zero_iff.1 (by simpa using h)
theorem rem5 (x : Int) : ∃ t : Int, x.tmod 5 = t := ⟨_, rfl⟩
set_option maxHeartbeats 16000000 in
theorem plays_walk (oa : Option Addr) (a : Addr) (len cap : Nat) (E : Nat → Ac) (w : World) (hlc : len ≤ cap) (hcm : cap ≤ maxLen) (hoa : 0 < len → oa = some a) (hr : RowA w a len E) (hE : ∀ i, i < len → (E i).x.s.size ≤ maxLen) :
    Calls Try.prog 12 #[.slice oa len cap] w fun e w' => e = .returned (.bool true) ∧ Below w.heap.size w w' := by
  unfold maxLen at hcm
  have HV := Lib.hid (And.intro hoa (And.intro hr hE))
  clear hoa hr hE
  go_enter Try.func12, Try.ntmps12
  go_wp2_with fail
  refine (new_ns _).mono ?_
  rintro e w1 ⟨rfl, hw⟩
  have n1 := NS.new w
  have bel1 := (Below.refl w.heap.size w).alloc (Nat.le_refl _) (.cells #[.slice none 0 0, .int .i64 0] 194)
  rw [← hw] at n1 bel1
  obtain ⟨g, hg⟩ : ∃ g, w.heap.size = g := ⟨_, rfl⟩
  rw [hg] at n1 bel1
  rw [hg]
  clear hw
  have hgw1 := n1.B.lt
  have Q2 : Qs g (.slice none 0 0) (.slice (some ⟨w1.heap.size, 0, none⟩) 0 0) [] (w1.alloc (.cells #[] 70)) := ⟨n1.below ((Below.refl _ _).alloc (Nat.le_refl _) _) rfl, own_none (Blk.new w1 70 #[]) (by omega) (by unfold maxLen; omega) rfl, fun k hk => ⟨by simp [Value.ownBlock] at hk; omega, fun q => by cases q⟩⟩
  have bel2 := bel1.alloc (by omega) (.cells #[] 70)
  clear n1 bel1
  go_upto_region 2 with fail
  generalize w1.alloc (.cells #[] 70) = w2 at *
  obtain ⟨q0, hq0⟩ : ∃ q, Value.slice (some ⟨w1.heap.size, 0, none⟩) 0 0 = q := ⟨_, rfl⟩
  rw [hq0] at Q2
  rw [hq0]
  clear hq0 hgw1
  go_wp2_with fail
  refine (awake31 _).mono ?_
  rintro e w3 ⟨rfl, hb3⟩
  have Q3 := Q2.below hb3 rfl
  have bel3 := bel2.trans (hb3.mono (by have := bel2.size; omega))
  clear Q2 bel2 hb3
  go_wp2_with fail
  go_loopw [4, 5] (fun s4 s5 wr => ∃ (i : Nat) (l : Value) (L : List It), i ≤ len ∧ i ≤ 80 ∧ s5 = .int .i64 i ∧ L.length ≤ i ∧ Sm L ∧ Qs g l s4 L wr ∧ Below g w wr) (fun _ s5 _ => 80 - (intOf s5).toNat)
  case atStart => exact ⟨0, _, [], by omega, by omega, rfl, Nat.le_refl _, (fun x hx => by cases hx), Q3, bel3⟩
  case round =>
    clear Q3 bel3
    obtain ⟨i, l, L, hil, hi80, rfl, hLi, hSm, Q, bel⟩ := hrel
    have hgw : g ≤ wr.heap.size := by have := bel.size; omega
    have HSM := Lib.hid hSm
    clear hSm
    by_cases hlt : i < len
    · by_cases h80 : i < 80
      · have hoa := HV.out.1 (by omega)
        subst hoa
        have hbl := HV.out.2.1.lt (by omega)
        have R1 := HV.out.2.1.below bel (fun _ => by omega)
        have hcs := R1.cell i hlt
        have hxs := HV.out.2.2 i hlt
        clear R1
        have szz := szA (E i)
        generalize E i = act at *
        obtain ⟨what, ⟨xl, xn, xf, xt, xs, xb⟩, at_, bit⟩ := act
        dsimp only at hxs
        unfold maxLen at hxs
        unfold ar at hcs szz
        dsimp only at hcs szz
        go_upto_region 8 with (refine wpList_load_from rfl 113 _ rfl (a.add (i * 9)) rfl #[.int .i64 what, .int .i64 xl, .int .i64 xn, .int .u32 xf, .int .u32 xt, .string xs, .bool xb, .int .i64 at_, .int .i64 bit] _ hcs Try.underlying113 rfl szz ?_)
        have A1 : Blk (wr.alloc (.cells #[.int .i64 what, .int .i64 xl, .int .i64 xn, .int .u32 xf, .int .u32 xt, .string xs, .bool xb, .int .i64 at_, .int .i64 bit] 113)) wr.heap.size 113 #[.int .i64 what, .int .i64 xl, .int .i64 xn, .int .u32 xf, .int .u32 xt, .string xs, .bool xb, .int .i64 at_, .int .i64 bit] := Blk.new wr _ _
        have Q1 := Q.below ((Below.refl _ _).alloc (Nat.le_refl _) (.cells #[.int .i64 what, .int .i64 xl, .int .i64 xn, .int .u32 xf, .int .u32 xt, .string xs, .bool xb, .int .i64 at_, .int .i64 bit] 113)) rfl
        have bel1 := bel.alloc hgw (.cells #[.int .i64 what, .int .i64 xl, .int .i64 xn, .int .u32 xf, .int .u32 xt, .string xs, .bool xb, .int .i64 at_, .int .i64 bit] 113)
        have hgl := Q.ns.B.lt
        have hly := own_lt Q.ns.own
        have hqy := own_lt Q.own
        clear Q bel hcs szz
        generalize wr.alloc (.cells #[.int .i64 what, .int .i64 xl, .int .i64 xn, .int .u32 xf, .int .u32 xt, .string xs, .bool xb, .int .i64 at_, .int .i64 bit] 113) = w4 at *
        generalize wr.heap.size = y at *
        have hgy : y ≠ g := by omega
        have hyl := A1.lt
        obtain ⟨oq, cq, hlq, hlc2, hcm2, hoq, _⟩ := own_shape Q1.own
        obtain ⟨m, hm⟩ : ∃ m, L.length = m := ⟨_, rfl⟩
        rw [hm] at hlq hlc2 hoq
        subst hlq
        have a7 : w4.cell? ⟨y, 7, none⟩ = some (.int .i64 at_) := A1.cell 7
        have a0 : w4.cell? ⟨y, 0, none⟩ = some (.int .i64 what) := A1.cell 0
        obtain ⟨t, ht⟩ := rem5 what
        go_cut [7] (fun s7 wx => s7 = .bool (decide (0 ≤ at_ ∧ at_ < (m : Int))) ∧ w4 = wx)
        case first =>
          by_cases h0 : 0 ≤ at_
          · by_cases h1 : at_ < (m : Int)
            · go_wp2_with fail
              all_goals first | (exfalso; omega) | (go_meet; exact ⟨by rw [decide_eq_true (And.intro h0 h1)], rfl⟩)
            · go_wp2_with fail
              all_goals first | (exfalso; omega) | (go_meet; exact ⟨by rw [decide_eq_false (show ¬ (0 ≤ at_ ∧ at_ < (m : Int)) by omega)], rfl⟩)
          · go_wp2_with fail
            all_goals first | (exfalso; omega) | (go_meet; exact ⟨by rw [decide_eq_false (show ¬ (0 ≤ at_ ∧ at_ < (m : Int)) by omega)], rfl⟩)
        case rest =>
        obtain ⟨rfl, hwc⟩ := hcut
        subst hwc
        obtain ⟨bin, hbin⟩ : ∃ b, decide (0 ≤ at_ ∧ at_ < (m : Int)) = b := ⟨_, rfl⟩
        rw [hbin]
        go_upto_block 2 with fail
        go_cut [4] (fun s4 wx => ∃ (l' : Value) (L' : List It), L'.length ≤ i + 1 ∧ Sm L' ∧ Qs g l' s4 L' wx ∧ Below g w wx)
        case first =>
          have hyne : l.ownBlock ≠ some y := fun e => by have := hly y e; omega
          have hqyb : ∀ k, (Value.slice oq m cq).ownBlock = some k → k < y := hqy
          have HLI := Lib.hid hLi
          clear hqy hLi
          by_cases t2 : t = 2
          · subst t2
            by_cases hin : 0 ≤ at_ ∧ at_ < (m : Int)
            · as_aux_lemma =>
              obtain ⟨k, rfl⟩ : ∃ k : Nat, at_ = k := ⟨at_.toNat, by omega⟩
              have hkm : k < m := by omega
              have hkL : k < L.length := by omega
              obtain ⟨hq, rfl⟩ := hoq (by omega)
              have hT := take_ns Q1.ns k hkL
              obtain ⟨x, hx⟩ : ∃ x, L.getD k it0 = x := ⟨_, rfl⟩
              rw [hx] at hT
              have HT := Lib.hid hT
              obtain rfl : bin = true := by rw [← hbin]; exact decide_eq_true hin
              clear hT hin hbin
              go_wp2_with fail
              refine HT.out.mono ?_
              rintro e w5 ⟨rfl, ⟨l', n5, hl5⟩, fr5, bl5⟩
              have own5 := Q1.keep fr5
              have A5 : Blk w5 y 113 _ := (fr5.block y hyl hgy hyne).trans A1
              have K5 := cel_of_cells (own_cel own5 hm.symm) k hkL
              rw [hx] at K5
              obtain ⟨zl, zn, zf, zt, zs, zb⟩ := x
              rw [show ir ⟨zl, zn, zf, zt, zs, zb⟩ = #[.int .i64 zl, .int .i64 zn, .int .u32 zf, .int .u32 zt, .string zs, .bool zb] from rfl]
              go_upto_region 17 with fail
              have X6 : Blk (w5.alloc (.cells #[.int .i64 zl, .int .i64 zn, .int .u32 zf, .int .u32 zt, .string zs, .bool zb] 70)) w5.heap.size 70 #[.int .i64 zl, .int .i64 zn, .int .u32 zf, .int .u32 zt, .string zs, .bool zb] := Blk.new w5 _ _
              have b6 := (Below.refl w5.heap.size w5).alloc (Nat.le_refl _) (.cells #[.int .i64 zl, .int .i64 zn, .int .u32 zf, .int .u32 zt, .string zs, .bool zb] 70)
              have n6 := n5.below b6 rfl
              have own6 := own_all own5 b6
              have A6 := A5.alloc (.cells #[.int .i64 zl, .int .i64 zn, .int .u32 zf, .int .u32 zt, .string zs, .bool zb] 70)
              have K6 := K5.alloc (.cells #[.int .i64 zl, .int .i64 zn, .int .u32 zf, .int .u32 zt, .string zs, .bool zb] 70)
              have bel6 := (bel1.trans bl5).alloc (by have := n5.B.lt; omega) (.cells #[.int .i64 zl, .int .i64 zn, .int .u32 zf, .int .u32 zt, .string zs, .bool zb] 70)
              have hs6 : w4.heap.size ≤ w5.heap.size := fr5.size
              have hz6 : (w5.alloc (.cells #[.int .i64 zl, .int .i64 zn, .int .u32 zf, .int .u32 zt, .string zs, .bool zb] 70)).heap.size = w5.heap.size + 1 := by simp
              clear A1 A5 K5 own5 n5 b6 a7 a0
              generalize w5.alloc (.cells #[.int .i64 zl, .int .i64 zn, .int .u32 zf, .int .u32 zt, .string zs, .bool zb] 70) = w6 at *
              generalize w5.heap.size = z at *
              have C1 := fun (i : Nat) (u : Value) (h : (#[.int .i64 zl, .int .i64 zn, .int .u32 zf, .int .u32 zt, .string zs, .bool zb] : Array Value)[i]? = some u) => (Cel.of_blk X6).cell0 i h
              have C2 := fun (i : Nat) (u : Value) (h : (ir ⟨zl, zn, zf, zt, zs, zb⟩)[i]? = some u) => K6.cell i h
              have p0 : w6.cell? ⟨z, 0, none⟩ = some (.int .i64 zl) := C1 0 _ rfl
              have p0d : w6.drew.cell? ⟨z, 0, none⟩ = some (.int .i64 zl) := p0
              have p1 : w6.cell? ⟨z, 1, none⟩ = some (.int .i64 zn) := C1 1 _ rfl
              have p1d : w6.drew.cell? ⟨z, 1, none⟩ = some (.int .i64 zn) := p1
              have p2 : w6.cell? ⟨z, 2, none⟩ = some (.int .u32 zf) := C1 2 _ rfl
              have p2d : w6.drew.cell? ⟨z, 2, none⟩ = some (.int .u32 zf) := p2
              have p3 : w6.cell? ⟨z, 3, none⟩ = some (.int .u32 zt) := C1 3 _ rfl
              have p3d : w6.drew.cell? ⟨z, 3, none⟩ = some (.int .u32 zt) := p3
              have p4 : w6.cell? ⟨z, 4, none⟩ = some (.string zs) := C1 4 _ rfl
              have p4d : w6.drew.cell? ⟨z, 4, none⟩ = some (.string zs) := p4
              have p5 : w6.cell? ⟨z, 5, none⟩ = some (.bool zb) := C1 5 _ rfl
              have p5d : w6.drew.cell? ⟨z, 5, none⟩ = some (.bool zb) := p5
              have q0 : w6.cell? ⟨hq, k * 6, none⟩ = some (.int .i64 zl) := C2 0 _ rfl
              have q0d : w6.drew.cell? ⟨hq, k * 6, none⟩ = some (.int .i64 zl) := q0
              have q1 : w6.cell? ⟨hq, k * 6 + 1, none⟩ = some (.int .i64 zn) := C2 1 _ rfl
              have q1d : w6.drew.cell? ⟨hq, k * 6 + 1, none⟩ = some (.int .i64 zn) := q1
              have q2 : w6.cell? ⟨hq, k * 6 + 2, none⟩ = some (.int .u32 zf) := C2 2 _ rfl
              have q2d : w6.drew.cell? ⟨hq, k * 6 + 2, none⟩ = some (.int .u32 zf) := q2
              have q3 : w6.cell? ⟨hq, k * 6 + 3, none⟩ = some (.int .u32 zt) := C2 3 _ rfl
              have q3d : w6.drew.cell? ⟨hq, k * 6 + 3, none⟩ = some (.int .u32 zt) := q3
              have q4 : w6.cell? ⟨hq, k * 6 + 4, none⟩ = some (.string zs) := C2 4 _ rfl
              have q4d : w6.drew.cell? ⟨hq, k * 6 + 4, none⟩ = some (.string zs) := q4
              have q5 : w6.cell? ⟨hq, k * 6 + 5, none⟩ = some (.bool zb) := C2 5 _ rfl
              have q5d : w6.drew.cell? ⟨hq, k * 6 + 5, none⟩ = some (.bool zb) := q5

              have a7 : w6.cell? ⟨y, 7, none⟩ = some (.int .i64 k) := A6.cell 7
              have a7d : w6.drew.cell? ⟨y, 7, none⟩ = some (.int .i64 k) := A6.cell 7
              have hkmi : (k : Int) < m := by omega
              clear C1 C2 K6
              go_region
              go_upto_region 20 with fail
              clear p0 p1 p2 p3 p4 p5 p0d p1d p2d p3d p4d p5d q0 q1 q2 q3 q4 q5 q0d q1d q2d q3d q4d q5d
              obtain ⟨i0, hi, hz0, hz1, hz2⟩ := info_parts infoI
              have n7 := n6.below (Below.refl w6.heap.size w6).drew rfl
              have own7 : w6.drew.ownsRow g 70 6 (.slice (some ⟨hq, 0, none⟩) m cq) L.length (cellsI L) := own6
              have A7 := A6.drew
              have bel7 := bel6.drew
              have hz7 : w6.drew.heap.size = z + 1 := hz6
              clear n6 own6 A6 bel6 hz6 X6 a7 a7d
              generalize w6.drew = w7 at *
              have HOE := Lib.hid (show (w7.alloc (.cells #[] 70)).drew.ownsRow g 70 6 (.slice (some ⟨z + 1, 0, none⟩) 0 0) 0 [] from hz7 ▸ own_none (Blk.new w7 70 #[]).drew (by have := n7.B.lt; omega) (by unfold maxLen; omega) rfl)
              have bE := ((Below.refl w7.heap.size w7).alloc (Nat.le_refl _) (.cells #[] 70)).drew
              have ownE := own_all (w' := (w7.alloc (.cells #[] 70)).drew) own7 bE
              have hzE : (w7.alloc (.cells #[] 70)).drew.heap.size = z + 2 := by show (w7.alloc (.cells #[] 70)).heap.size = _; simp; omega
              have AE := (A7.alloc (.cells #[] 70)).drew
              have hqz : hq < z + 1 := by have := own_lt own7 hq rfl; omega
              have CE := own_cel ownE hm.symm
              obtain ⟨news1, hn1⟩ : ∃ n, cellsI (L.take k) = n := ⟨_, rfl⟩
              obtain ⟨news2, hn2⟩ : ∃ n, cellsI (L.drop (k + 1)) = n := ⟨_, rfl⟩
              have hl1 : news1.length = k * 6 := by rw [← hn1, cellsI_len, List.length_take, hm, Nat.min_eq_left (by omega)]
              have hl2 : news2.length = (m - (k + 1)) * 6 := by rw [← hn2, cellsI_len, List.length_drop, hm]
              have ho1 : ∀ u ∈ news1, u.oneCell' = true := by rw [← hn1]; exact cellsI_one _
              have ho2 : ∀ u ∈ news2, u.oneCell' = true := by rw [← hn2]; exact cellsI_one _
              have HN1 := Lib.hid (show ∀ j u, news1[j]? = some u → (w7.alloc (.cells #[] 70)).drew.cell? ((⟨hq, 0, none⟩ : Addr).add j) = some u from fun j u hu => by
                rw [← hn1, ← cellsI_take, List.getElem?_take] at hu
                split at hu
                · rw [add0]; exact CE.cell0 j (by simpa using hu)
                · cases hu)
              obtain ⟨A2, hA2, hcells2⟩ : ∃ A : Addr, (if cq = k + 1 then some (⟨hq, 0, none⟩ : Addr) else some ⟨hq, (k + 1) * 6, none⟩) = some A ∧ ∀ w' : World, Cel w' hq 0 (cellsI L).toArray → ∀ t u, news2[t]? = some u → w'.cell? (A.add t) = some u := by
                by_cases hc : cq = k + 1
                · refine ⟨⟨hq, 0, none⟩, by rw [if_pos hc], fun w' _ t u hu => ?_⟩
                  have h0 : news2.length = 0 := by rw [hl2]; omega
                  rw [List.length_eq_zero_iff.1 h0] at hu
                  simp at hu
                · refine ⟨⟨hq, (k + 1) * 6, none⟩, by rw [if_neg hc], fun w' C t u hu => ?_⟩
                  rw [add_at]
                  rw [← hn2, ← cellsI_drop, List.getElem?_drop] at hu
                  exact C.cell0 _ (by simpa using hu)
              have hcE : cellsI (L.eraseIdx k) = news1 ++ news2 := by rw [List.eraseIdx_eq_take_drop_succ, cellsI_app, hn1, hn2]
              have hlE : (L.eraseIdx k).length = m - 1 := by rw [List.length_eraseIdx, if_pos (by omega), hm]
              have HFIN := Lib.hid (show ∀ (w9 : World) (lq' : Value), w9.ownsRow g 70 6 lq' (m - 1) (news1 ++ news2) → (∀ kk, lq'.ownBlock = some kk → z + 1 ≤ kk) → Below (z + 1) w7 w9 → ∃ (l' : Value) (L' : List It), L'.length ≤ i + 1 ∧ Sm L' ∧ Qs g l' lq' L' w9 ∧ Below g w w9 from fun w9 lq' o9 hq9 b9 => ⟨l', L.eraseIdx k, by have := HLI.out; omega, (HSM.out).erase k, Q1.next (n7) hl5 (by show _ ≤ w7.heap.size; omega) (by rw [hlE, hcE]; exact o9) (fun kk hkk => by have := hq9 kk hkk; show w7.heap.size ≤ kk; omega) (hz7 ▸ b9), bel7.trans (b9.mono (by have := n7.B.lt; omega))⟩)
              have hm81 : m ≤ 81 := by have := HLI.out; omega
              have hkc : k ≤ cq := by omega
              have hkc1 : k + 1 ≤ cq := by omega
              have hi1 : (0 : Int) ≤ (k : Int) + 1 := by omega
              have hi2 : (k : Int) + 1 ≤ (m : Int) := by omega
              have hwk : IntKind.i64.wrap ((k : Int) + 1) = (k : Int) + 1 := by unfold maxLen at hcm2; exact IntWalk.i64_in _ (by omega)
              have hcq : cq ≤ 9223372036854775807 := by unfold maxLen at hcm2; omega
              have aE : (w7.alloc (.cells #[] 70)).cell? ⟨y, 7, none⟩ = some (.int .i64 k) := AE.cell 7
              have aEd : (w7.alloc (.cells #[] 70)).drew.cell? ⟨y, 7, none⟩ = some (.int .i64 k) := aE
              have b7 : w7.cell? ⟨y, 7, none⟩ = some (.int .i64 k) := A7.cell 7
              have b7d : w7.drew.cell? ⟨y, 7, none⟩ = some (.int .i64 k) := b7
              clear ownE hn1 hn2 hcE hlE n7 own7 bel7 A7 AE
              rcases Nat.eq_zero_or_pos k with hk0 | hk0
              · subst hk0
                simp only [Nat.zero_add, Nat.one_mul] at hA2 hl2
                have hn10 : news1 = [] := List.length_eq_zero_iff.1 hl1
                subst hn10
                have HN2 := Lib.hid (hcells2 _ CE)
                have aE0 : (w7.alloc (.cells #[] 70)).cell? ⟨y, 7, none⟩ = some (.int .i64 0) := aE
                have aE0d : (w7.alloc (.cells #[] 70)).drew.cell? ⟨y, 7, none⟩ = some (.int .i64 0) := aE
                have b70 : w7.cell? ⟨y, 7, none⟩ = some (.int .i64 0) := b7
                have b70d : w7.drew.cell? ⟨y, 7, none⟩ = some (.int .i64 0) := b7
                have hw1 : IntKind.i64.wrap 1 = 1 := by decide
                clear aE aEd b7 b7d hwk
                rcases (by omega : 1 = m ∨ 1 < m) with hkm1 | hkm1
                · subst hkm1
                  have hn20 : news2 = [] := List.length_eq_zero_iff.1 (by rw [hl2])
                  subst hn20
                  go_region
                  all_goals
                    try simp only [List.getElem_toArray, List.getElem_cons_succ, List.getElem_cons_zero]
                    go_wp2_with fail
                    go_meet
                    exact HFIN.out _ _ HOE.out (fun kk hkk => by simp [Value.ownBlock] at hkk; omega) (hz7 ▸ bE)
                · have hmi : (1 : Int) ≤ (m : Int) := by omega
                  go_region_held3 (fun w' => w'.cell? ⟨y, 7, none⟩ = some (.int .i64 0)) (first | go_keep | assumption) (first | (refine step_append_lies _ (by rfl) _ _ _ (by rfl) g 70 i0 (.agg (ir it0)) 6 48 Try.underlying56 hi hz0 hz1 hz2 (by rfl) (by decide) (.slice (some ⟨z + 1, 0, none⟩) 0 0) 0 [] (by first | rfl | (rw [← hz7]; rfl) | (simp [Act.eval, Act.put, hz7]; done) | fail) HOE.out A2 (m - 1) (cq - 1) news2 (by first | (rw [← hA2]; rfl) | (simp [Act.eval, Act.put, hA2]; done) | fail) hl2 HN2.out ho2 (by omega) (by unfold maxLen; omega) (by omega) (by omega) (z + 2) hzE ?_; intro h2 c2 w9 own9 grow9 hat9 hlt9; have a9 : w9.cell? ⟨y, 7, none⟩ = some (.int .i64 0) := (grow9.cell_far ⟨y, 7, none⟩ (by show y < _; omega) (by simp [Value.ownBlock]; omega)).trans aE0d; rw [Nat.zero_add] at own9 ⊢) | fail)
                  all_goals
                    try simp only [List.getElem_toArray, List.getElem_cons_succ, List.getElem_cons_zero]
                    go_wp2_with fail
                    go_meet
                    exact HFIN.out _ _ own9 (fun kk hkk => by simp [Value.ownBlock] at hkk hat9; omega) ((hz7 ▸ bE).grown grow9 (by omega) (fun q hq => by simp [Value.ownBlock] at hq; omega))
              · rcases (by omega : k + 1 = m ∨ k + 1 < m) with hkm1 | hkm1
                · subst hkm1
                  go_region_held3 (fun w' => w'.cell? ⟨y, 7, none⟩ = some (.int .i64 k)) (first | go_keep | assumption) (first | (refine step_append_lies _ (by rfl) _ _ _ (by rfl) g 70 i0 (.agg (ir it0)) 6 48 Try.underlying56 hi hz0 hz1 hz2 (by rfl) (by decide) (.slice (some ⟨z + 1, 0, none⟩) 0 0) 0 [] (by first | rfl | (rw [← hz7]; rfl) | (simp [Act.eval, Act.put, hz7]; done) | fail) HOE.out ⟨hq, 0, none⟩ k cq news1 (by first | rfl | (simp [Act.eval, Act.put]; done) | fail) hl1 HN1.out ho1 hk0 (by unfold maxLen; omega) (by omega) (by omega) (z + 2) hzE ?_; intro h1 c1 w8 own8 grow8 hat8 hlt8; rw [Nat.zero_add, List.nil_append] at own8; rw [Nat.zero_add]; have b8 : Below (z + 1) w7 w8 := (hz7 ▸ bE).grown grow8 (by omega) (fun q hq => by simp [Value.ownBlock] at hq; omega); have hs8 := b8.size; have hh1 : z + 1 ≤ h1 := (by simp [Value.ownBlock] at hat8; omega); have hkc8 : k ≤ c1 := (by obtain ⟨_, _, e, hl, _⟩ := own_shape own8; cases e; exact hl); have a8 : w8.cell? ⟨y, 7, none⟩ = some (.int .i64 k) := (grow8.cell_far ⟨y, 7, none⟩ (by show y < _; omega) (by simp [Value.ownBlock]; omega)).trans aEd; have C8 : Cel w8 hq 0 (cellsI L).toArray := CE.block (grow8.block hq (by omega) (by simp [Value.ownBlock]; omega)) (by omega); have hN8 := hcells2 w8 C8) | fail)
                  all_goals
                    try simp only [List.getElem_toArray, List.getElem_cons_succ, List.getElem_cons_zero]
                    go_wp2_with fail
                    go_meet
                    have hn20 : news2 = [] := List.length_eq_zero_iff.1 (by rw [hl2]; omega)
                    subst hn20
                    exact HFIN.out _ _ (by rw [List.append_nil]; exact own8) (fun kk hkk => by simp [Value.ownBlock] at hkk hat8; omega) b8
                · go_region_held3 (fun w' => w'.cell? ⟨y, 7, none⟩ = some (.int .i64 k)) (first | go_keep | assumption) (first | (refine step_append_lies _ (by rfl) _ _ _ (by rfl) g 70 i0 (.agg (ir it0)) 6 48 Try.underlying56 hi hz0 hz1 hz2 (by rfl) (by decide) (.slice (some ⟨z + 1, 0, none⟩) 0 0) 0 [] (by first | rfl | (rw [← hz7]; rfl) | (simp [Act.eval, Act.put, hz7]; done) | fail) HOE.out ⟨hq, 0, none⟩ k cq news1 (by first | rfl | (simp [Act.eval, Act.put]; done) | fail) hl1 HN1.out ho1 hk0 (by unfold maxLen; omega) (by omega) (by omega) (z + 2) hzE ?_; intro h1 c1 w8 own8 grow8 hat8 hlt8; rw [Nat.zero_add, List.nil_append] at own8; rw [Nat.zero_add]; have b8 : Below (z + 1) w7 w8 := (hz7 ▸ bE).grown grow8 (by omega) (fun q hq => by simp [Value.ownBlock] at hq; omega); have hs8 := b8.size; have hh1 : z + 1 ≤ h1 := (by simp [Value.ownBlock] at hat8; omega); have hkc8 : k ≤ c1 := (by obtain ⟨_, _, e, hl, _⟩ := own_shape own8; cases e; exact hl); have a8 : w8.cell? ⟨y, 7, none⟩ = some (.int .i64 k) := (grow8.cell_far ⟨y, 7, none⟩ (by show y < _; omega) (by simp [Value.ownBlock]; omega)).trans aEd; have C8 : Cel w8 hq 0 (cellsI L).toArray := CE.block (grow8.block hq (by omega) (by simp [Value.ownBlock]; omega)) (by omega); have hN8 := hcells2 w8 C8) | (refine step_append_lies _ (by rfl) _ _ _ (by rfl) g 70 i0 (.agg (ir it0)) 6 48 Try.underlying56 hi hz0 hz1 hz2 (by rfl) (by decide) (.slice (some ⟨h1, 0, none⟩) k c1) k news1 (by first | rfl | (simp [Act.eval, Act.put]; done) | fail) own8 A2 (m - (k + 1)) (cq - (k + 1)) news2 (by first | (rw [← hA2]; rfl) | (simp [Act.eval, Act.put, hA2]; done) | fail) hl2 hN8 ho2 (by omega) (by unfold maxLen; omega) (by omega) (by omega) w8.heap.size rfl ?_; intro h2 c2 w9 own9 grow9 hat9 hlt9; have a9 : w9.cell? ⟨y, 7, none⟩ = some (.int .i64 k) := (grow9.cell_far ⟨y, 7, none⟩ (by show y < _; omega) (by simp [Value.ownBlock]; omega)).trans a8))
                  all_goals
                    try simp only [List.getElem_toArray, List.getElem_cons_succ, List.getElem_cons_zero]
                    go_wp2_with fail
                    go_meet
                    have o9 : w9.ownsRow g 70 6 (.slice (some ⟨h2, 0, none⟩) (k + (m - (k + 1))) c2) (m - 1) (news1 ++ news2) := by rw [show m - 1 = k + (m - (k + 1)) by omega]; exact own9
                    exact HFIN.out _ _ o9 (fun kk hkk => by simp [Value.ownBlock] at hkk hat9; omega) (b8.grown grow9 (by omega) (fun q hq => by simp [Value.ownBlock] at hq; omega))
            · as_aux_lemma =>
              have HT := Lib.hid (take_no Q1.ns at_ (by rw [hm]; exact hin))
              obtain rfl : bin = false := by rw [← hbin]; exact decide_eq_false hin
              clear hin hbin
              go_wp2_with fail
              refine HT.out.mono ?_
              rintro e w5 ⟨rfl, b5⟩
              have Q5 := Q1.below b5 rfl
              have bel5 := bel1.trans (b5.mono (by have := Q1.ns.B.lt; omega))
              rw [show itz = #[.int .i64 0, .int .i64 0, .int .u32 0, .int .u32 0, .string ⟨#[]⟩, .bool false] from rfl]
              go_upto_region 17 with fail
              have Q6 := Q5.below ((Below.refl _ _).alloc (Nat.le_refl _) (.cells #[.int .i64 0, .int .i64 0, .int .u32 0, .int .u32 0, .string ⟨#[]⟩, .bool false] 70)) rfl
              have bel6 := bel5.alloc (by have := Q5.ns.B.lt; omega) (.cells #[.int .i64 0, .int .i64 0, .int .u32 0, .int .u32 0, .string ⟨#[]⟩, .bool false] 70)
              have Q7 := Q6.below ((Below.refl _ _).drew) rfl
              have bel7 := bel6.drew
              clear Q1 Q5 bel1 bel5 A1 a7 a0 Q6 bel6
              generalize w5.alloc (.cells #[.int .i64 0, .int .i64 0, .int .u32 0, .int .u32 0, .string ⟨#[]⟩, .bool false] 70) = w6 at *
              go_region
              all_goals
                go_wp2_with fail
                go_meet
                exact ⟨l, L, by have := HLI.out; omega, HSM.out, hm ▸ Q7, bel7⟩
          · by_cases t3 : t = 3
            · subst t3
              by_cases hin : 0 ≤ at_ ∧ at_ < (m : Int)
              · as_aux_lemma =>
                obtain ⟨k, rfl⟩ : ∃ k : Nat, at_ = k := ⟨at_.toNat, by omega⟩
                have hkm : k < m := by omega
                have hm81 : m ≤ 81 := by have := HLI.out; omega
                have hkL : k < L.length := by omega
                obtain ⟨hq, rfl⟩ := hoq (by omega)
                have HT := Lib.hid (double_ns Q1.ns (by omega) k hkL)
                obtain rfl : bin = true := by rw [← hbin]; exact decide_eq_true hin
                clear hin hbin
                go_wp2_with fail
                refine HT.out.mono ?_
                rintro e w7 ⟨rfl, ⟨l', n7, hl7⟩, fr7, bl7⟩
                have own7 := Q1.keep fr7
                have A7 : Blk w7 y 113 _ := (fr7.block y hyl hgy hyne).trans A1
                have bel7 := bel1.trans bl7
                have hs7 : w4.heap.size ≤ w7.heap.size := fr7.size
                obtain ⟨z, hz7⟩ : ∃ z, w7.heap.size = z := ⟨_, rfl⟩
                obtain ⟨x, hx⟩ : ∃ x, L.getD k it0 = x := ⟨_, rfl⟩
                rw [hx] at n7
                have hxs := HSM.out.getD hkL
                rw [hx] at hxs
                obtain ⟨zl, zn, zf, zt, zs, zb⟩ := x
                have hqz : hq < z := by have := own_lt own7 hq rfl; omega
                have hyz : y < z := by omega
                obtain ⟨i0, hi, hz0, hz1, hz2⟩ := info_parts infoI
                have HFIN := Lib.hid (show ∀ (w9 : World) (lq' : Value), w9.ownsRow g 70 6 lq' (m + 1) (cellsI L ++ (#[.int .i64 zl, .int .i64 zn, .int .u32 zf, .int .u32 zt, .string zs, .bool zb] : Array Value).toList) → (∀ kk, lq'.ownBlock = some kk → z ≤ kk) → Below z w7 w9 → ∃ (l' : Value) (L' : List It), L'.length ≤ i + 1 ∧ Sm L' ∧ Qs g l' lq' L' w9 ∧ Below g w w9 from fun w9 lq' o9 hq9 b9 => ⟨l', L ++ [⟨zl, zn, zf, zt, zs, zb⟩], by have := HLI.out; simp; omega, (HSM.out).app (Sm.one hxs), Q1.next n7 hl7 hs7 (by rw [List.length_append, hm, cellsI_snoc]; exact o9) (fun kk hkk => by have := hq9 kk hkk; omega) (hz7.symm ▸ b9), bel7.trans (b9.mono (by have := n7.B.lt; omega))⟩)
                go_upto_region 25 with fail
                have hgz : g ≤ z := by have := n7.B.lt; omega
                have hlL : (cellsI L).length = m * 6 := by rw [cellsI_len, hm]
                have hoL := cellsI_one L
                have hm0 : 0 < m := by omega
                have oneI : ∀ u ∈ (#[.int .i64 zl, .int .i64 zn, .int .u32 zf, .int .u32 zt, .string zs, .bool zb] : Array Value).toList, u.oneCell' = true := by intro u hu; simp only [List.mem_cons, List.not_mem_nil, or_false] at hu; rcases hu with rfl | rfl | rfl | rfl | rfl | rfl <;> rfl
                have hkmi : (k : Int) < m := by omega
                have a7 : w7.cell? ⟨y, 7, none⟩ = some (.int .i64 k) := A7.cell 7
                obtain ⟨q0, q1, q2, q3, q4, q5⟩ := s7_of (own_cel own7 hm.symm) hkL hx
                have own7' : w7.ownsRow g 70 6 (.slice (some ⟨hq, 0, none⟩) m cq) m (cellsI L) := hm ▸ own7
                have HS := Lib.hid (show ∀ v : World, Below z w7.drew v → (Cel v hq 0 (cellsI L).toArray ∧ v.cell? ⟨y, 7, none⟩ = some (.int .i64 k)) from fun v hb => ⟨Cel.of_owns (own_below (show w7.drew.ownsRow g 70 6 (.slice (some ⟨hq, 0, none⟩) m cq) m (cellsI L) from own7') hb (by have := own_lt own7'; simpa [hz7] using this)), (hb.cell (p := ⟨y, 7, none⟩) (show y < z by omega)).trans a7⟩)
                have src7 : w7.drew.ownsRow g 70 6 (.slice (some ⟨hq, 0, none⟩) m cq) m (cellsI L) := own7'
                have hIr : L.getD k it0 = ⟨zl, zn, zf, zt, zs, zb⟩ := hx
                have HIr := Lib.hid hIr
                clear n7 own7 own7' bel7 A7 A1 a0 Q1 bel1 fr7 bl7 HT a7 hIr q0 q1 q2 q3 q4 q5 hx
                refine wp_region_noPanic ?_
                refine wp_region_held_drew (S := fun v => Below z w7.drew v) (by kernel_rfl) (Below.refl _ _) (fun _ => ?_)
                refine wpAnyH_abs _ (fun b hb => ?_)
                have hsz : b.tmps.size = 213 := by rw [hb]; rfl
                have h4 : b.eval (.tmp 4) = .slice (some ⟨hq, 0, none⟩) m cq := by rw [hb]; rfl
                have h6 : b.eval (.tmp 6) = .pointer (some ⟨y, 0, none⟩) := by rw [hb]; rfl
                have HB := Lib.hid hb
                clear hb
                refine take_run (i := 1) rfl (by kernel_rfl) (by kernel_rfl) (by kernel_rfl) rfl rfl (fun _ _ _ h => h) (Below.refl _ _) (fun v _ => run_move rfl h4 v) ?_
                have e3 : (b.put (some 117) (.slice (some ⟨hq, 0, none⟩) m cq)).eval (.tmp 4) = .slice (some ⟨hq, 0, none⟩) m cq := by simp [Act.eval_put_ne, h4]
                refine take_run (i := 3) rfl (by kernel_rfl) (by kernel_rfl) (by kernel_rfl) rfl rfl (fun _ _ _ h => h) (Below.refl _ _) (fun v _ => run_move rfl e3 v) ?_
                obtain ⟨b1, hb1⟩ : ∃ b1, (b.put (some 117) (.slice (some ⟨hq, 0, none⟩) m cq)).put (some 119) (.slice (some ⟨hq, 0, none⟩) m cq) = b1 := ⟨_, rfl⟩
                have f6 : b1.eval (.tmp 6) = .pointer (some ⟨y, 0, none⟩) := by rw [← hb1]; simp [Act.eval_put_ne, h6]
                have f117 : b1.eval (.tmp 117) = .slice (some ⟨hq, 0, none⟩) m cq := by rw [← hb1]; simp [Act.eval_put_ne, Act.eval_put_same, hsz]
                have f119 : b1.eval (.tmp 119) = .slice (some ⟨hq, 0, none⟩) m cq := by rw [← hb1]; simp [Act.eval_put_same, Act.size_put, hsz]
                have fsz : b1.tmps.size = 213 := by rw [← hb1]; simp [Act.size_put, hsz]
                rw [hb1]
                refine take_run (i := 4) (u := .pointer (some ⟨y, 7, none⟩)) rfl (by kernel_rfl) (by kernel_rfl) (by kernel_rfl) rfl rfl (fun _ _ _ h => h) (Below.refl _ _) (fun v _ => run_field rfl f6 (by kernel_rfl)) ?_
                have g120 : (b1.put (some 120) (.pointer (some ⟨y, 7, none⟩))).eval (.tmp 120) = .pointer (some ⟨y, 7, none⟩) := Act.eval_put_same _ _ _ (by rw [fsz]; decide)
                refine take_run (i := 5) (u := .int .i64 k) rfl (by kernel_rfl) (by kernel_rfl) (by kernel_rfl) rfl rfl (fun _ _ _ h => h) (Below.refl _ _) (fun v hv => run_load1 rfl g120 (by have c := (HS.out v hv).2; go_simp)) ?_
                have g119 : ((b1.put (some 120) (.pointer (some ⟨y, 7, none⟩))).put (some 121) (.int .i64 k)).eval (.tmp 119) = .slice (some ⟨hq, 0, none⟩) m cq := by simp [Act.eval_put_ne, f119]
                have g121 : ((b1.put (some 120) (.pointer (some ⟨y, 7, none⟩))).put (some 121) (.int .i64 k)).eval (.tmp 121) = .int .i64 k := Act.eval_put_same _ _ _ (by rw [Act.size_put, fsz]; decide)
                refine take_run (i := 6) (u := .pointer (some ⟨hq, k * 6, none⟩)) rfl (by kernel_rfl) (by kernel_rfl) (by kernel_rfl) rfl rfl (fun _ _ _ h => h) (Below.refl _ _) (fun v hv => run_index rfl g119 g121 (by go_simp)) ?_
                have g122 : (((b1.put (some 120) (.pointer (some ⟨y, 7, none⟩))).put (some 121) (.int .i64 k)).put (some 122) (.pointer (some ⟨hq, k * 6, none⟩))).eval (.tmp 122) = .pointer (some ⟨hq, k * 6, none⟩) := Act.eval_put_same _ _ _ (by simp [Act.size_put, fsz])
                have CK : ∀ v : World, Below z w7.drew v → Cel v hq (k * 6) #[.int .i64 zl, .int .i64 zn, .int .u32 zf, .int .u32 zt, .string zs, .bool zb] := fun v hv => by
                  have c := cel_of_cells (HS.out v hv).1 k hkL
                  rw [HIr.out] at c
                  exact c
                refine take_run (i := 7) (u := .agg #[.int .i64 zl, .int .i64 zn, .int .u32 zf, .int .u32 zt, .string zs, .bool zb]) rfl (by kernel_rfl) (by kernel_rfl) (by kernel_rfl) rfl rfl (fun _ _ _ h => h) (Below.refl _ _) (fun v hv => run_load_at rfl g122 _ Try.underlying70 rfl (szI ⟨zl, zn, zf, zt, zs, zb⟩) (CK v hv)) ?_
                obtain ⟨b2, hb2⟩ : ∃ b2, (((b1.put (some 120) (.pointer (some ⟨y, 7, none⟩))).put (some 121) (.int .i64 k)).put (some 122) (.pointer (some ⟨hq, k * 6, none⟩))).put (some 123) (.agg #[.int .i64 zl, .int .i64 zn, .int .u32 zf, .int .u32 zt, .string zs, .bool zb]) = b2 := ⟨_, rfl⟩
                have j117 : b2.eval (.tmp 117) = .slice (some ⟨hq, 0, none⟩) m cq := by rw [← hb2]; simp [Act.eval_put_ne, f117]
                have j123 : b2.eval (.tmp 123) = .agg #[.int .i64 zl, .int .i64 zn, .int .u32 zf, .int .u32 zt, .string zs, .bool zb] := by rw [← hb2]; simp [Act.eval_put_same, Act.size_put, fsz]
                have jsz : b2.tmps.size = 213 := by rw [← hb2]; simp [Act.size_put, fsz]
                rw [hb2]
                have HB2 := Lib.hid (And.intro hb1 hb2)
                clear hb1 hb2 e3 f6 f117 f119 g119 g120 g121 g122 h4 h6
                refine dapp (T := 70) (SL := 56) (g := g) (fuel := 0) 0 2 8 9 10 _ _ _ _ _ 116 118 124 125 4 117 123 (by kernel_rfl) (by rw [jsz]; kernel_rfl) rfl rfl rfl rfl rfl ⟨rfl, rfl⟩ ⟨rfl, rfl⟩ ⟨rfl, rfl⟩ ⟨rfl, rfl⟩ ⟨rfl, rfl⟩ rfl rfl rfl
                  (fun b v => by kernel_rfl) (fun b v hb => run_build1 rfl hb (by kernel_rfl)) Try.underlying56 hi hz0 hz1 hz2 rfl (by decide) j117 j123 src7 hoL oneI rfl (by unfold maxLen; omega) (by omega) (by show g ≤ w7.heap.size; omega) (fun v hv => by rw [← hz7]; exact hv) (fun vE vM vB h c v own hh bel => ?_)
                refine NoPanic.normal ?_
                rw [← HB2.out.2, ← HB2.out.1, HB.out]
                simp only [Act.put, List.setIfInBounds_toArray, List.set_cons_zero, List.set_cons_succ]
                clear HB HB2 HS CK
                go_wp2_with fail
                go_meet
                exact HFIN.out _ _ own (fun kk hkk => by simp [Value.ownBlock] at hkk; subst hkk; rw [← hz7]; exact hh) (((Below.refl z w7).drew).trans (hz7 ▸ bel))
              · as_aux_lemma =>
                have HT := Lib.hid (double_no Q1.ns at_ (by rw [hm]; exact hin))
                obtain rfl : bin = false := by rw [← hbin]; exact decide_eq_false hin
                clear hin hbin
                go_wp2_with fail
                refine HT.out.mono ?_
                rintro e w7 ⟨rfl, hw⟩
                subst hw
                go_wp2_with fail
                go_meet
                exact ⟨l, L, by have := HLI.out; omega, HSM.out, hm ▸ Q1, bel1⟩
            · by_cases t4 : t = 4
              · subst t4
                have a8 : w4.cell? ⟨y, 8, none⟩ = some (.int .i64 bit) := A1.cell 8
                by_cases hin : 0 ≤ at_ ∧ at_ < (m : Int)
                · obtain ⟨k, rfl⟩ : ∃ k : Nat, at_ = k := ⟨at_.toNat, by omega⟩
                  have hkm : k < m := by omega
                  have hkmi : (k : Int) < m := by omega
                  have hkL : k < L.length := by omega
                  obtain ⟨hq, rfl⟩ := hoq (by omega)
                  obtain rfl : bin = true := by rw [← hbin]; exact decide_eq_true hin
                  clear hin hbin
                  have hBN := bend_not Q1.ns k bit hkL
                  have hBY := bend_ns Q1.ns k bit hkL
                  have hS10 := HSM.out.getD hkL
                  obtain ⟨x, hx⟩ : ∃ x, L.getD k it0 = x := ⟨_, rfl⟩
                  rw [hx] at hBN hBY hS10
                  obtain ⟨zl, zn, zf, zt, zs, zb⟩ := x
                  dsimp only at hBN hBY hS10
                  obtain ⟨q0, q1, q2, q3, q4, q5⟩ := s7_of (own_cel Q1.own hm.symm) hkL hx
                  clear q0 q1 q2 q3
                  cases hzb : zb
                  · subst hzb
                    by_cases hz : zs.size = 0
                    · as_aux_lemma =>
                      have HT := Lib.hid (hBN (.inr hz))
                      have hemp := emp_list zs hz
                      have hem2 : (!zs.toList.isEmpty) = false := by rw [hemp]; rfl
                      clear hBN hBY hx
                      go_upto_region 28 with fail
                      go_wp2_with fail
                      refine HT.out.mono ?_
                      rintro e w7 ⟨rfl, hw⟩
                      subst hw
                      go_wp2_with fail
                      go_meet
                      exact ⟨l, L, by have := HLI.out; omega, HSM.out, hm ▸ Q1, bel1⟩
                    · as_aux_lemma =>
                      have hz0 : 0 < zs.size := by omega
                      have HT := Lib.hid (hBY rfl hz0 hS10)
                      have hemp := ne_list zs hz0
                      have hem2 : (!zs.toList.isEmpty) = true := by rw [hemp]; rfl
                      have HXX := Lib.hid hx
                      clear hBN hBY hx hz
                      go_upto_region 28 with fail
                      clear hemp hem2
                      go_wp2_with fail
                      refine HT.out.mono ?_
                      rintro e w7 ⟨rfl, n7, fr7, bl7⟩
                      have own7 := Q1.keep fr7
                      rw [hm] at own7
                      have A7 : Blk w7 y 113 _ := (fr7.block y hyl hgy hyne).trans A1
                      have bel7 := bel1.trans bl7
                      have hs7 : w4.heap.size ≤ w7.heap.size := fr7.size
                      obtain ⟨z, hz7⟩ : ∃ z, w7.heap.size = z := ⟨_, rfl⟩
                      have hgz : g ≤ z := by have := n7.B.lt; omega
                      have hyz : y < z := by have := A7.lt; omega
                      have hqz : hq < z := by have := own_lt own7 hq rfl; omega
                      obtain ⟨i0, hi, hz0', hz1, hz2⟩ := info_parts infoI
                      have ho1 := cellsI_one L
                      have hl1 : (cellsI L).length = m * 6 := by rw [cellsI_len, hm]
                      have belE : Below z w7 (w7.alloc (.cells #[] 70)) := (Below.refl z w7).alloc (by omega) _
                      have CE := Cel.of_owns (own_below own7 belE (by have := own_lt own7; simpa [hz7] using this))
                      have HOE := Lib.hid (show (w7.alloc (.cells #[] 70)).ownsRow z 70 6 (.slice (some ⟨z, 0, none⟩) 0 0) 0 [] from hz7 ▸ own_none (Blk.new w7 70 #[]) (Nat.le_refl _) (by unfold maxLen; omega) rfl)
                      have HN1 := Lib.hid (show ∀ j u, (cellsI L)[j]? = some u → (w7.alloc (.cells #[] 70)).cell? ((⟨hq, 0, none⟩ : Addr).add j) = some u from fun j u hu => by
                        rw [add0]
                        exact CE.cell0 j (by simpa using hu))
                      have hsE : (w7.alloc (.cells #[] 70)).heap.size = z + 1 := by simp; omega
                      have hm81 : m ≤ 81 := by have := HLI.out; omega
                      have A7E := A7.alloc (.cells #[] 70)
                      have hm0 : 0 < m := by omega
                      have hzE : z ≤ (w7.alloc (.cells #[] 70)).heap.size := by omega
                      clear a7 a8 q4 q5 CE HT
                      go_upto_region 32 with (at_builtin; refine wpList_append_lies _ rfl _ _ 56 rfl z 70 i0 (.agg (ir it0)) 6 48 Try.underlying56 hi hz0' hz1 hz2 rfl (by decide) (.slice (some ⟨z, 0, none⟩) 0 0) 0 [] rfl HOE.out ⟨hq, 0, none⟩ m cq (cellsI L) rfl hl1 HN1.out ho1 hm0 (by unfold maxLen; omega) (by omega) hzE (z + 1) hsE ?_; intro h1 c1 w8 own8 grow8 hat8 hlt8)
                      try simp only [Nat.zero_add]
                      rw [Nat.zero_add, List.nil_append] at own8
                      have hsE2 : (w7.alloc (.cells #[] 70)).heap.size = z + 1 := hsE
                      have hgeh : z ≤ h1 := by simp [Value.ownBlock] at hat8; omega
                      have b8 : Below z w7 w8 := belE.grown grow8 hzE (fun q hq => by simp [Value.ownBlock] at hq; omega)
                      have A8 : Blk w8 y 113 _ := A7.below b8 hyz
                      have K8 := cel_of_cells (own_cel (L := L) (by rw [hm]; exact own8) rfl) k hkL
                      rw [HXX.out] at K8
                      clear HOE HN1 hsE hsE2 grow8 hat8 A7E A7 own7 belE
                      have hy8 : y < w8.heap.size := A8.lt
                      have hh8 : h1 < w8.heap.size := hlt8
                      have hne : y ≠ h1 := by omega
                      have g7 : w8.cell? ⟨y, 7, none⟩ = some (.int .i64 k) := A8.cell 7
                      have g8 : w8.cell? ⟨y, 8, none⟩ = some (.int .i64 bit) := A8.cell 8
                      have k4 : w8.drew.cell? ⟨h1, k * 6 + 4, none⟩ = some (.string zs) := K8.cell 4 rfl
                      have own8d : w8.drew.ownsRow z 70 6 (.slice (some ⟨h1, 0, none⟩) m c1) m (cellsI L) := own8
                      have hm1 : m ≤ c1 ∧ c1 ≤ maxLen := by obtain ⟨cur, _, _, a1, a2, _⟩ := own_blk own8; exact ⟨a1, a2⟩
                      have HM1 := Lib.hid hm1
                      refine wp_region_noPanic ?_
                      have HSW := Lib.hid (show (w8.drew.cell? ⟨y, 7, none⟩ = some (.int .i64 k) ∧ w8.drew.cell? ⟨y, 8, none⟩ = some (.int .i64 bit)) from ⟨g7, g8⟩)
                      refine wp_region_held_drew (S := fun v => (v.cell? ⟨y, 7, none⟩ = some (.int .i64 k) ∧ v.cell? ⟨y, 8, none⟩ = some (.int .i64 bit))) (by kernel_rfl) HSW.out (fun _ => ?_)
                      refine wpAnyH_abs _ (fun b hb => ?_)
                      have hsz : b.tmps.size = 213 := by rw [hb]; rfl
                      have h4 : b.eval (.tmp 4) = .slice (some ⟨h1, 0, none⟩) m c1 := by rw [hb]; rfl
                      have h6 : b.eval (.tmp 6) = .pointer (some ⟨y, 0, none⟩) := by rw [hb]; rfl
                      have HB := Lib.hid hb
                      clear hb g7 g8 K8 A8 hm1
                      refine take_run (i := 0) (u := (.slice (some ⟨h1, 0, none⟩) m c1)) rfl (by kernel_rfl) (by kernel_rfl) (by kernel_rfl) rfl rfl (fun _ _ _ h => h) HSW.out (fun v hv => run_move rfl (by simp [Act.eval_put_ne, Act.eval_put_same, Act.size_put, hsz, h4, h6]) v) ?_
                      refine take_run (i := 1) (u := (.pointer (some ⟨y, 7, none⟩))) rfl (by kernel_rfl) (by kernel_rfl) (by kernel_rfl) rfl rfl (fun _ _ _ h => h) HSW.out (fun v hv => run_field (s := (.pointer (some ⟨y, 0, none⟩))) rfl (by simp [Act.eval_put_ne, Act.eval_put_same, Act.size_put, hsz, h4, h6]) (by kernel_rfl)) ?_
                      refine take_run (i := 2) (u := .int .i64 k) rfl (by kernel_rfl) (by kernel_rfl) (by kernel_rfl) rfl rfl (fun _ _ _ h => h) HSW.out (fun v hv => run_load1 (s := (.pointer (some ⟨y, 7, none⟩))) rfl (by simp [Act.eval_put_ne, Act.eval_put_same, Act.size_put, hsz, h4, h6]) (by have c := hv.1; go_simp)) ?_
                      refine take_run (i := 3) (u := (.slice (some ⟨h1, 0, none⟩) m c1)) rfl (by kernel_rfl) (by kernel_rfl) (by kernel_rfl) rfl rfl (fun _ _ _ h => h) HSW.out (fun v hv => run_move rfl (by simp [Act.eval_put_ne, Act.eval_put_same, Act.size_put, hsz, h4, h6]) v) ?_
                      refine take_run (i := 4) (u := (.pointer (some ⟨y, 7, none⟩))) rfl (by kernel_rfl) (by kernel_rfl) (by kernel_rfl) rfl rfl (fun _ _ _ h => h) HSW.out (fun v hv => run_field (s := (.pointer (some ⟨y, 0, none⟩))) rfl (by simp [Act.eval_put_ne, Act.eval_put_same, Act.size_put, hsz, h4, h6]) (by kernel_rfl)) ?_
                      refine take_run (i := 5) (u := .int .i64 k) rfl (by kernel_rfl) (by kernel_rfl) (by kernel_rfl) rfl rfl (fun _ _ _ h => h) HSW.out (fun v hv => run_load1 (s := (.pointer (some ⟨y, 7, none⟩))) rfl (by simp [Act.eval_put_ne, Act.eval_put_same, Act.size_put, hsz, h4, h6]) (by have c := hv.1; go_simp)) ?_
                      refine take_run (i := 6) (u := (.slice (some ⟨h1, 0, none⟩) m c1)) rfl (by kernel_rfl) (by kernel_rfl) (by kernel_rfl) rfl rfl (fun _ _ _ h => h) HSW.out (fun v hv => run_move rfl (by simp [Act.eval_put_ne, Act.eval_put_same, Act.size_put, hsz, h4, h6]) v) ?_
                      refine take_run (i := 7) (u := (.pointer (some ⟨y, 7, none⟩))) rfl (by kernel_rfl) (by kernel_rfl) (by kernel_rfl) rfl rfl (fun _ _ _ h => h) HSW.out (fun v hv => run_field (s := (.pointer (some ⟨y, 0, none⟩))) rfl (by simp [Act.eval_put_ne, Act.eval_put_same, Act.size_put, hsz, h4, h6]) (by kernel_rfl)) ?_
                      refine take_run (i := 8) (u := .int .i64 k) rfl (by kernel_rfl) (by kernel_rfl) (by kernel_rfl) rfl rfl (fun _ _ _ h => h) HSW.out (fun v hv => run_load1 (s := (.pointer (some ⟨y, 7, none⟩))) rfl (by simp [Act.eval_put_ne, Act.eval_put_same, Act.size_put, hsz, h4, h6]) (by have c := hv.1; go_simp)) ?_
                      refine take_run (i := 9) (u := (.pointer (some ⟨h1, k * 6, none⟩))) rfl (by kernel_rfl) (by kernel_rfl) (by kernel_rfl) rfl rfl (fun _ _ _ h => h) HSW.out (fun v hv => run_index (s := .slice (some ⟨h1, 0, none⟩) m c1) (j := .int .i64 k) rfl (by simp [Act.eval_put_ne, Act.eval_put_same, Act.size_put, hsz, h4, h6]) (by simp [Act.eval_put_ne, Act.eval_put_same, Act.size_put, hsz, h4, h6]) (by go_simp)) ?_
                      refine take_run (i := 10) (u := (.pointer (some ⟨h1, k * 6 + 2, none⟩))) rfl (by kernel_rfl) (by kernel_rfl) (by kernel_rfl) rfl rfl (fun _ _ _ h => h) HSW.out (fun v hv => run_field (s := (.pointer (some ⟨h1, k * 6, none⟩))) rfl (by simp [Act.eval_put_ne, Act.eval_put_same, Act.size_put, hsz, h4, h6]) (by kernel_rfl)) ?_
                      refine take_run (i := 11) (u := (.pointer (some ⟨h1, k * 6 + 4, none⟩))) rfl (by kernel_rfl) (by kernel_rfl) (by kernel_rfl) rfl rfl (fun _ _ _ h => h) HSW.out (fun v hv => run_field (s := (.pointer (some ⟨h1, k * 6 + 2, none⟩))) rfl (by simp [Act.eval_put_ne, Act.eval_put_same, Act.size_put, hsz, h4, h6]) (by kernel_rfl)) ?_
                      refine take_run (i := 13) (u := (.pointer (some ⟨y, 8, none⟩))) rfl (by kernel_rfl) (by kernel_rfl) (by kernel_rfl) rfl rfl (fun _ _ _ h => h) HSW.out (fun v hv => run_field (s := (.pointer (some ⟨y, 0, none⟩))) rfl (by simp [Act.eval_put_ne, Act.eval_put_same, Act.size_put, hsz, h4, h6]) (by kernel_rfl)) ?_
                      refine take_run (i := 14) (u := .int .i64 bit) rfl (by kernel_rfl) (by kernel_rfl) (by kernel_rfl) rfl rfl (fun _ _ _ h => h) HSW.out (fun v hv => run_load1 (s := (.pointer (some ⟨y, 8, none⟩))) rfl (by simp [Act.eval_put_ne, Act.eval_put_same, Act.size_put, hsz, h4, h6]) (by have c := hv.2; go_simp)) ?_
                      refine step_val (i := 12) (u := .string zs) (by kernel_rfl) rfl rfl rfl HSW.out (run_load1 (s := (.pointer (some ⟨h1, k * 6 + 4, none⟩))) rfl (by simp [Act.eval_put_ne, Act.eval_put_same, Act.size_put, hsz, h4, h6]) (by go_simp)) ?_
                      refine step_calls (i := 15) (by kernel_rfl) rfl rfl rfl 58 Try.f58 _ _ rfl Try.func58 (by kernel_rfl) (by kernel_rfl) #[.string zs, .int .i64 bit] (by simp [Act.eval_put_ne, Act.eval_put_same, Act.size_put, hsz]) (bent_any zs bit hz0 hS10 _) ?_
                      rintro e w9 ⟨rfl, hb9⟩
                      have own9 := own_all own8d hb9
                      have HS9 := Lib.hid (show (w9.cell? ⟨y, 7, none⟩ = some (.int .i64 k) ∧ w9.cell? ⟨y, 8, none⟩ = some (.int .i64 bit)) from ⟨(hb9.cell (p := ⟨y, 7, none⟩) (show y < w8.drew.heap.size from hy8)).trans HSW.out.1, (hb9.cell (p := ⟨y, 8, none⟩) (show y < w8.drew.heap.size from hy8)).trans HSW.out.2⟩)
                      have b9 : Below z w7 w9 := b8.drew.trans (hb9.mono (by have := b8.size; show z ≤ w8.heap.size; omega))
                      refine ⟨_, rfl, HS9.out, ?_⟩
                      refine take_run (i := 16) (u := (.pointer (some ⟨h1, k * 6, none⟩))) rfl (by kernel_rfl) (by kernel_rfl) (by kernel_rfl) rfl rfl (fun _ _ _ h => h) HS9.out (fun v hv => run_index (s := .slice (some ⟨h1, 0, none⟩) m c1) (j := .int .i64 k) rfl (by simp [Act.eval_put_ne, Act.eval_put_same, Act.size_put, hsz, h4, h6]) (by simp [Act.eval_put_ne, Act.eval_put_same, Act.size_put, hsz, h4, h6]) (by go_simp)) ?_
                      refine take_run (i := 17) (u := (.pointer (some ⟨h1, k * 6 + 2, none⟩))) rfl (by kernel_rfl) (by kernel_rfl) (by kernel_rfl) rfl rfl (fun _ _ _ h => h) HS9.out (fun v hv => run_field (s := (.pointer (some ⟨h1, k * 6, none⟩))) rfl (by simp [Act.eval_put_ne, Act.eval_put_same, Act.size_put, hsz, h4, h6]) (by kernel_rfl)) ?_
                      refine take_run (i := 18) (u := (.pointer (some ⟨h1, k * 6 + 4, none⟩))) rfl (by kernel_rfl) (by kernel_rfl) (by kernel_rfl) rfl rfl (fun _ _ _ h => h) HS9.out (fun v hv => run_field (s := (.pointer (some ⟨h1, k * 6 + 2, none⟩))) rfl (by simp [Act.eval_put_ne, Act.eval_put_same, Act.size_put, hsz, h4, h6]) (by kernel_rfl)) ?_
                      have t1 := cells_turn L k 4 ⟨zl, zn, zf, zt, zs, false⟩ ⟨zl, zn, zf, zt, bentS zs bit, false⟩ (.string (bentS zs bit)) hkL HXX.out (by omega) (fun p hp => by rcases (by omega : p = 0 ∨ p = 1 ∨ p = 2 ∨ p = 3 ∨ p = 4 ∨ p = 5) with rfl | rfl | rfl | rfl | rfl | rfl <;> rfl)
                      have t2 := cells_turn (L.set k ⟨zl, zn, zf, zt, bentS zs bit, false⟩) k 5 ⟨zl, zn, zf, zt, bentS zs bit, false⟩ ⟨zl, zn, zf, zt, bentS zs bit, true⟩ (.bool true) (by rw [List.length_set]; exact hkL) (by rw [List.getD_eq_getElem?_getD, List.getElem?_set_self hkL]; rfl) (by omega) (fun p hp => by rcases (by omega : p = 0 ∨ p = 1 ∨ p = 2 ∨ p = 3 ∨ p = 4 ∨ p = 5) with rfl | rfl | rfl | rfl | rfl | rfl <;> rfl)
                      rw [List.set_set] at t2
                      have own10 := own_set own9 (k * 6 + 4) (.string (bentS zs bit)) (by omega) (by rw [cellsI_len, List.length_set, hm]) (fun j _ => t1 j)
                      have own11 := own_set own10 (k * 6 + 5) (.bool true) (by omega) (by rw [cellsI_len, List.length_set, hm]) (fun j _ => t2 j)
                      have C9 := cel_of_cells (own_cel (L := L) (by rw [hm]; exact own9) rfl) k hkL
                      have C10 := cel_of_cells (own_cel (L := L.set k ⟨zl, zn, zf, zt, bentS zs bit, false⟩) (by rw [List.length_set, hm]; exact own10) rfl) k (by rw [List.length_set]; exact hkL)
                      rw [HXX.out] at C9
                      rw [List.getD_eq_getElem?_getD, List.getElem?_set_self hkL] at C10
                      have d4 : w9.cell? ⟨h1, k * 6 + 4, none⟩ = some (.string zs) := C9.cell 4 rfl
                      have e4 := C9.frozen 4 (by show 4 < 6; omega)
                      have d5 : (w9.setCell ⟨h1, k * 6 + 4, none⟩ (.string (bentS zs bit))).cell? ⟨h1, k * 6 + 5, none⟩ = some (.bool false) := C10.cell 5 rfl
                      have e5 := C10.frozen 5 (by show 5 < 6; omega)
                      have HS10 := Lib.hid (show ((w9.setCell ⟨h1, k * 6 + 4, none⟩ (.string (bentS zs bit))).cell? ⟨y, 7, none⟩ = some (.int .i64 k) ∧ (w9.setCell ⟨h1, k * 6 + 4, none⟩ (.string (bentS zs bit))).cell? ⟨y, 8, none⟩ = some (.int .i64 bit)) from ⟨(World.cell?_setCell_far w9 ⟨h1, k * 6 + 4, none⟩ ⟨y, 7, none⟩ (.string (bentS zs bit)) (Ne.symm hne)).trans HS9.out.1, (World.cell?_setCell_far w9 ⟨h1, k * 6 + 4, none⟩ ⟨y, 8, none⟩ (.string (bentS zs bit)) (Ne.symm hne)).trans HS9.out.2⟩)
                      have HS11 := Lib.hid (show (((w9.setCell ⟨h1, k * 6 + 4, none⟩ (.string (bentS zs bit))).setCell ⟨h1, k * 6 + 5, none⟩ (.bool true)).cell? ⟨y, 7, none⟩ = some (.int .i64 k) ∧ ((w9.setCell ⟨h1, k * 6 + 4, none⟩ (.string (bentS zs bit))).setCell ⟨h1, k * 6 + 5, none⟩ (.bool true)).cell? ⟨y, 8, none⟩ = some (.int .i64 bit)) from ⟨(World.cell?_setCell_far (w9.setCell ⟨h1, k * 6 + 4, none⟩ (.string (bentS zs bit))) ⟨h1, k * 6 + 5, none⟩ ⟨y, 7, none⟩ (.bool true) (Ne.symm hne)).trans HS10.out.1, (World.cell?_setCell_far (w9.setCell ⟨h1, k * 6 + 4, none⟩ (.string (bentS zs bit))) ⟨h1, k * 6 + 5, none⟩ ⟨y, 8, none⟩ (.bool true) (Ne.symm hne)).trans HS10.out.2⟩)
                      have b11 : Below z w7 ((w9.setCell ⟨h1, k * 6 + 4, none⟩ (.string (bentS zs bit))).setCell ⟨h1, k * 6 + 5, none⟩ (.bool true)) := (b9.setCell (p := ⟨h1, k * 6 + 4, none⟩) hgeh _).setCell (p := ⟨h1, k * 6 + 5, none⟩) hgeh _
                      have HF := Lib.hid (And.intro own11 b11)
                      clear own9 own10 own11 b11 b9 C9 C10 t1 t2
                      refine step_store (i := 19) (p := .pointer (some ⟨h1, k * 6 + 4, none⟩)) (u := .string (bentS zs bit)) (by kernel_rfl) rfl rfl rfl rfl (by simp [Act.eval_put_ne, Act.eval_put_same, Act.size_put, hsz, h4, h6]) (by simp [Act.eval_put_ne, Act.eval_put_same, Act.size_put, hsz, h4, h6]) HS10.out (by go_simp) ?_
                      refine take_run (i := 20) (u := (.pointer (some ⟨h1, k * 6, none⟩))) rfl (by kernel_rfl) (by kernel_rfl) (by kernel_rfl) rfl rfl (fun _ _ _ h => h) HS10.out (fun v hv => run_index (s := .slice (some ⟨h1, 0, none⟩) m c1) (j := .int .i64 k) rfl (by simp [Act.eval_put_ne, Act.eval_put_same, Act.size_put, hsz, h4, h6]) (by simp [Act.eval_put_ne, Act.eval_put_same, Act.size_put, hsz, h4, h6]) (by go_simp)) ?_
                      refine take_run (i := 21) (u := (.pointer (some ⟨h1, k * 6 + 5, none⟩))) rfl (by kernel_rfl) (by kernel_rfl) (by kernel_rfl) rfl rfl (fun _ _ _ h => h) HS10.out (fun v hv => run_field (s := (.pointer (some ⟨h1, k * 6, none⟩))) rfl (by simp [Act.eval_put_ne, Act.eval_put_same, Act.size_put, hsz, h4, h6]) (by kernel_rfl)) ?_
                      refine step_store (i := 22) (p := .pointer (some ⟨h1, k * 6 + 5, none⟩)) (u := .bool true) (by kernel_rfl) rfl rfl rfl rfl (by simp [Act.eval_put_ne, Act.eval_put_same, Act.size_put, hsz, h4, h6]) rfl HS11.out (by go_simp) ?_
                      refine wpAnyH_done (by kernel_rfl) ?_ _
                      refine NoPanic.normal ?_
                      rw [HB.out]
                      simp only [Act.put, List.setIfInBounds_toArray, List.set_cons_zero, List.set_cons_succ]
                      clear HB HSW HS9 HS10 HS11 h4 h6 hsz d4 d5 e4 e5 k4
                      go_wp2_with fail
                      go_meet
                      refine ⟨l, L.set k ⟨zl, zn, zf, zt, bentS zs bit, true⟩, by rw [List.length_set]; have := HLI.out; omega, (HSM.out).set k (by rw [show (⟨zl, zn, zf, zt, bentS zs bit, true⟩ : It).s = bentS zs bit from rfl]; have := bentL_len zs bit; show (⟨(bentL zs bit).toArray⟩ : ByteArray).size ≤ 10; simp [ByteArray.size] ; omega), Q1.next n7 (fun q hq => .inl hq) hs7 ?_ (fun kk hkk => by simp [Value.ownBlock] at hkk; omega) (hz7.symm ▸ HF.out.2), bel7.trans (HF.out.2.mono (by omega))⟩
                      obtain ⟨cur, B, _, o1, o2, o3, o4⟩ := own_get HF.out.1
                      rw [List.length_set, hm]
                      exact own_of_get B (by omega) o1 o2 o3 (by rw [cellsI_len, List.length_set, hm]) o4
                  · as_aux_lemma =>
                    subst hzb
                    have HT := Lib.hid (hBN (.inl rfl))
                    clear hBN hBY hx
                    go_upto_region 28 with fail
                    go_wp2_with fail
                    refine HT.out.mono ?_
                    rintro e w7 ⟨rfl, hw⟩
                    subst hw
                    go_wp2_with fail
                    go_meet
                    exact ⟨l, L, by have := HLI.out; omega, HSM.out, hm ▸ Q1, bel1⟩
                · as_aux_lemma =>
                  have HT := Lib.hid (bend_no Q1.ns at_ bit (by rw [hm]; exact hin))
                  obtain rfl : bin = false := by rw [← hbin]; exact decide_eq_false hin
                  clear hin hbin
                  go_upto_region 28 with fail
                  go_wp2_with fail
                  refine HT.out.mono ?_
                  rintro e w7 ⟨rfl, hw⟩
                  subst hw
                  go_wp2_with fail
                  go_meet
                  exact ⟨l, L, by have := HLI.out; omega, HSM.out, hm ▸ Q1, bel1⟩
              · as_aux_lemma =>
                have CX : Cel w4 y 1 #[.int .i64 xl, .int .i64 xn, .int .u32 xf, .int .u32 xt, .string xs, .bool xb] := ((Cel.of_blk A1).sub 1 7).congr (by rfl)
                have y5 : w4.cell? ⟨y, 5, none⟩ = some (.string xs) := A1.cell 5
                clear hbin
                go_upto_region 11 with (refine wpList_load_at rfl 70 _ rfl y 1 rfl #[.int .i64 xl, .int .i64 xn, .int .u32 xf, .int .u32 xt, .string xs, .bool xb] _ CX Try.underlying70 rfl (szI ⟨xl, xn, xf, xt, xs, xb⟩) ?_)
                have y5' : (w4.alloc (.cells #[.int .i64 xl, .int .i64 xn, .int .u32 xf, .int .u32 xt, .string xs, .bool xb] 70)).cell? ⟨y, 5, none⟩ = some (.string xs) := (A1.alloc _).cell 5
                go_cut [11] (fun s11 wx => s11 = .pointer (some ⟨w4.heap.size, 0, none⟩) ∧ ∃ XS : ByteArray, XS.size ≤ 10 ∧ wx = w4.alloc (.cells #[.int .i64 xl, .int .i64 xn, .int .u32 xf, .int .u32 xt, .string XS, .bool xb] 70))
                case first =>
                  by_cases h10 : (10 : Int) < (xs.size : Int)
                  · have h11 : (xs.extract 0 10).size ≤ 10 := by simp; omega
                    have H11 := Lib.hid h11
                    clear h11
                    go_wp2_with fail
                    go_meet
                    exact ⟨rfl, _, H11.out, rfl⟩
                  · have h11 : xs.size ≤ 10 := by omega
                    go_wp2_with fail
                    go_meet
                    exact ⟨rfl, xs, h11, rfl⟩
                case rest =>
                obtain ⟨rfl, XS, hXl, rfl⟩ := hcut
                clear y5' CX y5
                have al5 := (Below.refl w4.heap.size w4).alloc (Nat.le_refl _) (.cells #[.int .i64 xl, .int .i64 xn, .int .u32 xf, .int .u32 xt, .string XS, .bool xb] 70)
                have X5 : Blk (w4.alloc (.cells #[.int .i64 xl, .int .i64 xn, .int .u32 xf, .int .u32 xt, .string XS, .bool xb] 70)) w4.heap.size 70 #[.int .i64 xl, .int .i64 xn, .int .u32 xf, .int .u32 xt, .string XS, .bool xb] := Blk.new w4 _ _
                have Q5 := Q1.below al5 rfl
                have bel5 := bel1.alloc (by omega) (.cells #[.int .i64 xl, .int .i64 xn, .int .u32 xf, .int .u32 xt, .string XS, .bool xb] 70)
                have hlx : l.ownBlock ≠ some w4.heap.size := fun e => by have := own_lt Q1.ns.own _ e; omega
                have hgx : w4.heap.size ≠ g := by omega
                have hqx : ∀ kk, (Value.slice oq m cq).ownBlock = some kk → kk < w4.heap.size := fun kk e => by have := hqyb kk e; omega
                obtain ⟨x, hxx⟩ : ∃ x, w4.heap.size = x := ⟨_, rfl⟩
                rw [hxx] at X5 hlx hgx hqx
                rw [hxx]
                clear A1 Q1 bel1 al5 a7 a0
                generalize w4.alloc (.cells #[.int .i64 xl, .int .i64 xn, .int .u32 xf, .int .u32 xt, .string XS, .bool xb] 70) = w5 at *
                have HP := Lib.hid (put_ns Q5.ns (by have := HLI.out; omega) ⟨xl, xn, xf, xt, XS, xb⟩)
                clear hxx
                go_wp2_with (refine wpList_load_at rfl 70 _ rfl x 0 rfl #[.int .i64 xl, .int .i64 xn, .int .u32 xf, .int .u32 xt, .string XS, .bool xb] _ (Cel.of_blk X5) Try.underlying70 rfl (szI ⟨xl, xn, xf, xt, XS, xb⟩) ?_)
                refine HP.out.mono ?_
                rintro e w7 ⟨rfl, ⟨l', n7, hl7⟩, fr7, bl7⟩
                have own7 := Q5.keep fr7
                have X7 : Blk w7 x 70 #[.int .i64 xl, .int .i64 xn, .int .u32 xf, .int .u32 xt, .string XS, .bool xb] := (fr7.block x X5.lt hgx hlx).trans X5
                have bel7 := bel5.trans bl7
                have hs7 : w5.heap.size ≤ w7.heap.size := fr7.size
                obtain ⟨z, hz7⟩ : ∃ z, w7.heap.size = z := ⟨_, rfl⟩
                obtain ⟨i0, hi, hz0, hz1, hz2⟩ := info_parts infoI
                have HFIN := Lib.hid (show ∀ (w9 : World) (lq' : Value), w9.ownsRow g 70 6 lq' (m + 1) (cellsI L ++ (#[.int .i64 xl, .int .i64 xn, .int .u32 xf, .int .u32 xt, .string XS, .bool xb] : Array Value).toList) → (∀ kk, lq'.ownBlock = some kk → z ≤ kk) → Below z w7 w9 → ∃ (l' : Value) (L' : List It), L'.length ≤ i + 1 ∧ Sm L' ∧ Qs g l' lq' L' w9 ∧ Below g w w9 from fun w9 lq' o9 hq9 b9 => ⟨l', L ++ [⟨xl, xn, xf, xt, XS, xb⟩], by have := HLI.out; simp; omega, (HSM.out).app (Sm.one hXl), Q5.next n7 hl7 hs7 (by rw [List.length_append, hm, cellsI_snoc]; exact o9) (fun kk hkk => by have := hq9 kk hkk; omega) (hz7.symm ▸ b9), bel7.trans (b9.mono (by have := n7.B.lt; omega))⟩)
                have hgz : g ≤ z := by have := n7.B.lt; omega
                have hxz : x < z := by have := X7.lt; omega
                have hoL := cellsI_one L
                have oneI : ∀ u ∈ (#[.int .i64 xl, .int .i64 xn, .int .u32 xf, .int .u32 xt, .string XS, .bool xb] : Array Value).toList, u.oneCell' = true := by intro u hu; simp only [List.mem_cons, List.not_mem_nil, or_false] at hu; rcases hu with rfl | rfl | rfl | rfl | rfl | rfl <;> rfl
                have hm81 : m ≤ 81 := by have := HLI.out; omega
                have src7 : w7.drew.ownsRow g 70 6 (.slice oq m cq) m (cellsI L) := hm ▸ own7
                have CK : ∀ v : World, Below z w7.drew v → Cel v x 0 #[.int .i64 xl, .int .i64 xn, .int .u32 xf, .int .u32 xt, .string XS, .bool xb] := fun v hv => (Cel.of_blk (show Blk w7.drew x 70 #[.int .i64 xl, .int .i64 xn, .int .u32 xf, .int .u32 xt, .string XS, .bool xb] from X7)).below hv hxz
                clear n7 own7 bel7 bel5 X7 X5 Q5 fr7 bl7 HP
                go_upto_region 14 with fail
                refine wp_region_noPanic ?_
                refine wp_region_held_drew (S := fun v => Below z w7.drew v) (by kernel_rfl) (Below.refl _ _) (fun _ => ?_)
                refine wpAnyH_abs _ (fun b hb => ?_)
                have hsz : b.tmps.size = 213 := by rw [hb]; rfl
                have h4 : b.eval (.tmp 4) = .slice oq m cq := by rw [hb]; rfl
                have h11 : b.eval (.tmp 11) = .pointer (some ⟨x, 0, none⟩) := by rw [hb]; rfl
                have HB := Lib.hid hb
                clear hb
                refine take_run (i := 1) rfl (by kernel_rfl) (by kernel_rfl) (by kernel_rfl) rfl rfl (fun _ _ _ h => h) (Below.refl _ _) (fun v _ => run_move rfl h4 v) ?_
                have e11 : (b.put (some 65) (.slice oq m cq)).eval (.tmp 11) = .pointer (some ⟨x, 0, none⟩) := by simp [Act.eval_put_ne, h11]
                refine take_run (i := 3) (u := .agg #[.int .i64 xl, .int .i64 xn, .int .u32 xf, .int .u32 xt, .string XS, .bool xb]) rfl (by kernel_rfl) (by kernel_rfl) (by kernel_rfl) rfl rfl (fun _ _ _ h => h) (Below.refl _ _) (fun v hv => run_load_at rfl e11 _ Try.underlying70 rfl (szI ⟨xl, xn, xf, xt, XS, xb⟩) (CK v hv)) ?_
                obtain ⟨b2, hb2⟩ : ∃ b2, (b.put (some 65) (.slice oq m cq)).put (some 67) (.agg #[.int .i64 xl, .int .i64 xn, .int .u32 xf, .int .u32 xt, .string XS, .bool xb]) = b2 := ⟨_, rfl⟩
                have j65 : b2.eval (.tmp 65) = .slice oq m cq := by rw [← hb2]; simp [Act.eval_put_ne, Act.eval_put_same, hsz]
                have j67 : b2.eval (.tmp 67) = .agg #[.int .i64 xl, .int .i64 xn, .int .u32 xf, .int .u32 xt, .string XS, .bool xb] := by rw [← hb2]; simp [Act.eval_put_same, Act.size_put, hsz]
                have jsz : b2.tmps.size = 213 := by rw [← hb2]; simp [Act.size_put, hsz]
                rw [hb2]
                have HB2 := Lib.hid hb2
                clear hb2 e11 h4 h11
                refine dapp (T := 70) (SL := 56) (g := g) (fuel := 0) 0 2 4 5 6 _ _ _ _ _ 64 66 68 69 4 65 67 (by kernel_rfl) (by rw [jsz]; kernel_rfl) rfl rfl rfl rfl rfl ⟨rfl, rfl⟩ ⟨rfl, rfl⟩ ⟨rfl, rfl⟩ ⟨rfl, rfl⟩ ⟨rfl, rfl⟩ rfl rfl rfl
                  (fun b v => by kernel_rfl) (fun b v hb => run_build1 rfl hb (by kernel_rfl)) Try.underlying56 hi hz0 hz1 hz2 rfl (by decide) j65 j67 src7 hoL oneI rfl (by unfold maxLen; omega) (by omega) (by show g ≤ w7.heap.size; omega) (fun v hv => by rw [← hz7]; exact hv) (fun vE vM vB h c v own hh bel => ?_)
                refine NoPanic.normal ?_
                rw [← HB2.out, HB.out]
                simp only [Act.put, List.setIfInBounds_toArray, List.set_cons_zero, List.set_cons_succ]
                clear HB HB2 CK
                go_wp2_with fail
                go_meet
                exact HFIN.out _ _ own (fun kk hkk => by simp [Value.ownBlock] at hkk; subst hkk; rw [← hz7]; exact hh) (((Below.refl z w7).drew).trans (hz7 ▸ bel))
        case rest =>
        clear A1 Q1 bel1 a7 a0 HSM hbin
        obtain ⟨l', L', hLi', hSm', Q', bel'⟩ := hcut
        have HSM := Lib.hid hSm'
        clear hSm'
        obtain ⟨oq2, cq2, hlq2, hlc3, hcm3, hoq2, _⟩ := own_shape Q'.own
        obtain ⟨m2, hm2⟩ : ∃ m, L'.length = m := ⟨_, rfl⟩
        rw [hm2] at hlq2 hlc3 hoq2
        subst hlq2
        have hAll := all_ns Q'.ns (by omega)
        rw [hm2] at hAll
        have HAll := Lib.hid hAll
        have HM := Lib.hid hm2
        clear hAll hm hoq hlc2 hcm2 ht
        go_wp2_with fail
        refine HAll.out.mono ?_
        rintro e w5 ⟨oa5, c5, rfl, hK5, hb5⟩
        have Q5 := Q'.below hb5 rfl
        have bel5 := bel'.trans (hb5.mono (by have := bel'.size; omega))
        have hLen := len_ns Q5.ns
        rw [HM.out] at hLen
        have HLen := Lib.hid hLen
        have HK := Lib.hid hK5
        have HQ2 := Lib.hid hoq2
        clear Q' bel' hb5 hK5 hLen HAll hoq2
        have hm2i : (m2 : Int) ≤ 81 := by have := HM.out; omega
        go_wp2_with fail
        refine HLen.out.mono ?_
        rintro e w6 ⟨rfl, hw⟩
        subst hw
        go_wp2_with fail
        go_loopw [13] (fun s13 wx => ∃ j : Nat, j ≤ m2 ∧ s13 = .int .i64 j ∧ Qs g l' (.slice oq2 m2 cq2) L' wx ∧ (0 < m2 → ∃ k, oa5 = some ⟨k, 0, none⟩ ∧ Cel wx k 0 (cellsI L').toArray) ∧ Below g w wx) (fun s13 _ => m2 - (intOf s13).toNat)
        case atStart => exact ⟨0, by omega, rfl, Q5, HK.out, bel5⟩
        case round =>
          clear Q5 bel5 HK HLen
          obtain ⟨j, hjm, rfl, Q6, hK6, bel6⟩ := hrel
          by_cases hj : j < m2
          · obtain ⟨kk, rfl, K6⟩ := hK6 (by omega)
            obtain ⟨hq6, rfl⟩ := HQ2.out (by omega)
            have K1 := cel_of_cells K6 j (by rw [HM.out]; exact hj)
            have K2 := cel_of_cells (own_cel Q6.own HM.out.symm) j (by rw [HM.out]; exact hj)
            have Q7 := Q6.below ((Below.refl _ _).drew) rfl
            have K7 : Cel wr.drew kk 0 (cellsI L').toArray := K6
            have bel7 := bel6.drew
            have hji : (j : Int) < m2 := by omega
            generalize L'.getD j it0 = x at *
            obtain ⟨zl, zn, zf, zt, zs, zb⟩ := x
            have C1 := fun (i : Nat) (u : Value) (h : (ir ⟨zl, zn, zf, zt, zs, zb⟩)[i]? = some u) => K1.cell i h
            have C2 := fun (i : Nat) (u : Value) (h : (ir ⟨zl, zn, zf, zt, zs, zb⟩)[i]? = some u) => K2.cell i h
            have p0 : wr.cell? ⟨kk, j * 6, none⟩ = some (.int .i64 zl) := C1 0 _ rfl
            have p0d : wr.drew.cell? ⟨kk, j * 6, none⟩ = some (.int .i64 zl) := p0
            have p1 : wr.cell? ⟨kk, j * 6 + 1, none⟩ = some (.int .i64 zn) := C1 1 _ rfl
            have p1d : wr.drew.cell? ⟨kk, j * 6 + 1, none⟩ = some (.int .i64 zn) := p1
            have p2 : wr.cell? ⟨kk, j * 6 + 2, none⟩ = some (.int .u32 zf) := C1 2 _ rfl
            have p2d : wr.drew.cell? ⟨kk, j * 6 + 2, none⟩ = some (.int .u32 zf) := p2
            have p3 : wr.cell? ⟨kk, j * 6 + 3, none⟩ = some (.int .u32 zt) := C1 3 _ rfl
            have p3d : wr.drew.cell? ⟨kk, j * 6 + 3, none⟩ = some (.int .u32 zt) := p3
            have p4 : wr.cell? ⟨kk, j * 6 + 4, none⟩ = some (.string zs) := C1 4 _ rfl
            have p4d : wr.drew.cell? ⟨kk, j * 6 + 4, none⟩ = some (.string zs) := p4
            have p5 : wr.cell? ⟨kk, j * 6 + 5, none⟩ = some (.bool zb) := C1 5 _ rfl
            have p5d : wr.drew.cell? ⟨kk, j * 6 + 5, none⟩ = some (.bool zb) := p5
            have q0 : wr.cell? ⟨hq6, j * 6, none⟩ = some (.int .i64 zl) := C2 0 _ rfl
            have q0d : wr.drew.cell? ⟨hq6, j * 6, none⟩ = some (.int .i64 zl) := q0
            have q1 : wr.cell? ⟨hq6, j * 6 + 1, none⟩ = some (.int .i64 zn) := C2 1 _ rfl
            have q1d : wr.drew.cell? ⟨hq6, j * 6 + 1, none⟩ = some (.int .i64 zn) := q1
            have q2 : wr.cell? ⟨hq6, j * 6 + 2, none⟩ = some (.int .u32 zf) := C2 2 _ rfl
            have q2d : wr.drew.cell? ⟨hq6, j * 6 + 2, none⟩ = some (.int .u32 zf) := q2
            have q3 : wr.cell? ⟨hq6, j * 6 + 3, none⟩ = some (.int .u32 zt) := C2 3 _ rfl
            have q3d : wr.drew.cell? ⟨hq6, j * 6 + 3, none⟩ = some (.int .u32 zt) := q3
            have q4 : wr.cell? ⟨hq6, j * 6 + 4, none⟩ = some (.string zs) := C2 4 _ rfl
            have q4d : wr.drew.cell? ⟨hq6, j * 6 + 4, none⟩ = some (.string zs) := q4
            have q5 : wr.cell? ⟨hq6, j * 6 + 5, none⟩ = some (.bool zb) := C2 5 _ rfl
            have q5d : wr.drew.cell? ⟨hq6, j * 6 + 5, none⟩ = some (.bool zb) := q5
            clear K6 Q6 bel6 K1 K2 C1 C2
            go_upto_region 39 with fail
            go_region
            go_wp2_with fail
            go_roundw
            case rel => exact ⟨j + 1, by omega, by go_num, Q7, fun _ => ⟨kk, rfl, K7⟩, bel7⟩
            case measure => simp [intOf]; omega
          · obtain rfl : j = m2 := by omega
            have hL81 := HM.out
            go_wp2_with fail
            go_roundw
            case rel => exact ⟨i + 1, l', L', by omega, by omega, by go_num, by omega, HSM.out, Q6, bel6⟩
            case measure => simp [intOf]; omega
      · go_wp2_with fail
        refine (full_ns Q.ns).mono ?_
        rintro e w5 ⟨rfl, hw⟩
        subst hw
        go_wp2_with fail
        go_ret
        exact ⟨rfl, by rw [hg]; exact bel⟩
    · go_wp2_with fail
      refine (full_ns Q.ns).mono ?_
      rintro e w5 ⟨rfl, hw⟩
      subst hw
      go_wp2_with fail
      go_ret
      exact ⟨rfl, by rw [hg]; exact bel⟩
end Go.Proofs.Ytdocphkpeonldaa.npl
