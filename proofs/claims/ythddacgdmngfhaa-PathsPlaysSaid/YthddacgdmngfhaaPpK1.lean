/- Layer 15: whatever is done to paths: arm 1 (gen-ppk.py wrote this). -/
import Derived.Test.YthddacgdmngfhaaPpKB
namespace Go.Proofs.Ythddacgdmngfhaa.pat
open Go.Sort (grow)
open Go.ChangeShapes Go.WideShapes Go.ChangeAt Go.RowKit kit
set_option maxRecDepth 1000000
set_option maxHeartbeats 16000000 in
theorem arm1 (v0 v1 v2 v6 v10 v11 v12 v13 v14 v15 v16 v17 v18 v19 v20 v21 v22 v23 v24 v25 v26 v27 v28 v29 v30 v31 v32 v33 v34 v35 v36 v37 v38 v39 v40 v41 v42 v43 v44 v45 v46 v47 v48 v49 v50 v51 v52 v53 v54 v55 v56 v57 v58 v59 v60 v61 v62 v63 v64 v65 v66 v67 v68 v69 v70 v71 v72 v73 v74 v75 v76 v77 v78 v79 v80 v81 v82 v83 v84 v85 v86 v87 v88 v89 v90 v91 v92 v93 v94 v95 v96 v97 v98 v99 v100 v101 v102 v103 v104 v105 v106 v107 v108 v109 v110 v111 v112 v113 v114 v115 v116 v117 v118 v119 v120 v121 v122 v123 v124 v125 v126 v127 v128 v129 v130 v131 v132 v133 v134 v135 v136 v137 v138 v139 v140 v141 v142 v143 v144 v145 v146 v147 v148 v149 v150 v151 v152 v153 v154 v155 v156 v157 v158 v159 v160 v161 v162 v163 v164 v165 v166 v167 v168 v169 v170 v171 v172 v173 v174 v175 v176 v177 v178 v179 v180 v181 v182 v183 v184 v185 v186 v187 v188 v189 v190 v191 v192 v193 v194 v195 v196 v197 v198 v199 v200 v201 v202 v203 v204 v205 v206 v207 v208 v209 v210 v211 v212 v213 v214 v215 v216 v217 v218 v219 v220 v221 v222 v223 v224 v225 v226 v227 v228 v229 v230 v231 v232 : Value) {G0 g ab : Nat} {L : List Px} {f : Nat} {v0' : Value} {oq : Option Addr} {cq : Nat} {aw al ap n : Int} {l p : Nat} {w w6 : World} (hl4 : l ≤ 3) (hp4 : p ≤ 3) (hnb' : -9223372036854775808 ≤ n ∧ n ≤ 9223372036854775807)
    (hab : ∀ j, blkOf v0' = some j ∨ blkOf (.slice oq L.length cq) = some j → j < ab) (hgab : g < ab) (hpb : bits .and .i64 ap 3 = (p : Int)) (hA : Blk w6 ab 117 #[.int .i64 aw, .int .i64 al, .int .i64 ap, .int .i64 n]) (hPS : Ps G0 g L f v0' (.slice oq L.length cq) w w6)
    (Q : Exit → Act → World → Prop) (hfin : ∀ (u2 u4 u5 u11 u12 u13 u14 u15 u16 u134 u135 u136 u137 u138 u139 u140 u141 u142 u143 u144 u145 u146 u147 u148 u149 u150 u151 u152 u153 u154 u155 u156 u157 u158 u159 u160 u161 u162 u163 u164 u165 u166 u167 u168 u169 u170 u171 u172 u173 u174 u175 u176 u177 u178 u179 u180 u181 u182 u183 u184 u185 u186 u187 u188 u189 u190 u191 u192 u193 u194 u195 u196 : Value) (w' : World), Cn G0 g ab #[.int .i64 aw, .int .i64 al, .int .i64 ap, .int .i64 n] w (u4) (u5) w' → Q .normal ⟨#[v0, v1, u2, .pointer (some ⟨g, 0, none⟩), u4, u5, v6, .pointer (some ⟨ab, 0, none⟩), .int .u32 ((l : Nat) : Int), .int .u32 ((p : Nat) : Int), v10, u11, u12, u13, u14, u15, u16, v17, v18, v19, v20, v21, v22, v23, v24, v25, v26, v27, v28, v29, v30, v31, v32, v33, v34, v35, v36, v37, v38, v39, v40, v41, v42, v43, v44, v45, v46, v47, v48, v49, v50, v51, v52, v53, v54, v55, v56, v57, v58, v59, v60, v61, v62, v63, v64, v65, v66, v67, v68, v69, v70, v71, v72, v73, v74, v75, v76, v77, v78, v79, v80, v81, v82, v83, v84, v85, v86, v87, v88, v89, v90, v91, v92, v93, v94, v95, v96, v97, v98, v99, v100, v101, v102, v103, v104, v105, v106, v107, v108, v109, v110, v111, v112, v113, v114, v115, v116, v117, v118, v119, v120, v121, v122, v123, v124, v125, v126, v127, v128, v129, v130, v131, v132, v133, u134, u135, u136, u137, u138, u139, u140, u141, u142, u143, u144, u145, u146, u147, u148, u149, u150, u151, u152, u153, u154, u155, u156, u157, u158, u159, u160, u161, u162, u163, u164, u165, u166, u167, u168, u169, u170, u171, u172, u173, u174, u175, u176, u177, u178, u179, u180, u181, u182, u183, u184, u185, u186, u187, u188, u189, u190, u191, u192, u193, u194, u195, u196, v197, v198, v199, v200, v201, v202, v203, v204, v205, v206, v207, v208, v209, v210, v211, v212, v213, v214, v215, v216, v217, v218, v219, v220, v221, v222, v223, v224, v225, v226, v227, v228, v229, v230, v231, v232], []⟩ w') (c : Code) (hc : c = code1) :
    Code.wp Try.prog c Q ⟨#[v0, v1, v2, .pointer (some ⟨g, 0, none⟩), .slice oq L.length cq, .int .i64 (f : Nat), v6, .pointer (some ⟨ab, 0, none⟩), .int .u32 ((l : Nat) : Int), .int .u32 ((p : Nat) : Int), v10, v11, v12, v13, v14, v15, v16, v17, v18, v19, v20, v21, v22, v23, v24, v25, v26, v27, v28, v29, v30, v31, v32, v33, v34, v35, v36, v37, v38, v39, v40, v41, v42, v43, v44, v45, v46, v47, v48, v49, v50, v51, v52, v53, v54, v55, v56, v57, v58, v59, v60, v61, v62, v63, v64, v65, v66, v67, v68, v69, v70, v71, v72, v73, v74, v75, v76, v77, v78, v79, v80, v81, v82, v83, v84, v85, v86, v87, v88, v89, v90, v91, v92, v93, v94, v95, v96, v97, v98, v99, v100, v101, v102, v103, v104, v105, v106, v107, v108, v109, v110, v111, v112, v113, v114, v115, v116, v117, v118, v119, v120, v121, v122, v123, v124, v125, v126, v127, v128, v129, v130, v131, v132, v133, v134, v135, v136, v137, v138, v139, v140, v141, v142, v143, v144, v145, v146, v147, v148, v149, v150, v151, v152, v153, v154, v155, v156, v157, v158, v159, v160, v161, v162, v163, v164, v165, v166, v167, v168, v169, v170, v171, v172, v173, v174, v175, v176, v177, v178, v179, v180, v181, v182, v183, v184, v185, v186, v187, v188, v189, v190, v191, v192, v193, v194, v195, v196, v197, v198, v199, v200, v201, v202, v203, v204, v205, v206, v207, v208, v209, v210, v211, v212, v213, v214, v215, v216, v217, v218, v219, v220, v221, v222, v223, v224, v225, v226, v227, v228, v229, v230, v231, v232], []⟩ w6 := by
  subst hc
  conv => arg 2; whnf
  have HFIN := Lib.hid hfin
  have HPB := Lib.hid hpb
  have HA := Lib.hid hA
  have HPS := Lib.hid hPS
  have hgv := hPS.P.hn
  have hfL := hPS.hf
  have hL8 := hPS.h8
  clear hfin hpb hA hPS

  have hp0' : (0 : Int) ≤ (p : Int) := by omega
  obtain ⟨tp, htp⟩ : ∃ tp : Int, (if p = 0 then 0 else (p : Int) + 8) = tp := ⟨_, rfl⟩
  have wp1 : IntKind.u32.wrap ((p : Int) + 8) = (p : Int) + 8 := by show ((p : Int) + 8) % 4294967296 = _; omega
  have wp2 : ((p : Int) + 8) % 4294967296 = (p : Int) + 8 := by omega
  go_upto_if 135 with fail
  go_cut [11] from 135 to 137 (fun s wx => s = .int .u32 tp ∧ wx = w6)
  case first =>
    by_cases hpz : p = 0
    · subst hpz
      have htp' : (0 : Int) = tp := by rw [← htp]; rfl
      subst htp'
      go_wp2_with fail
      go_meet
      exact ⟨rfl, rfl⟩
    · have hpp : (0 : Int) < (p : Int) := by omega
      have htp' : (p : Int) + 8 = tp := by rw [← htp, if_neg hpz]
      subst htp'
      clear htp
      go_wp2_with fail
      go_meet
      exact ⟨rfl, rfl⟩
  case rest =>
  obtain ⟨rfl, hwc⟩ := hcut
  obtain rfl : w6 = wc := hwc.symm
  clear wp1 wp2 htp
  have a3 : w6.cell? ⟨ab, 3, none⟩ = some (.int .i64 n) := HA.out.cell 3
  have hld := ldrop_g HPS.out.q hL8 (l : Int) tp n f
  obtain ⟨P, hP⟩ : ∃ P, leftO L f (l : Int) tp n = P := ⟨_, rfl⟩
  have hPlt := leftO_lt hfL (l : Int) tp n
  have hPln := leftO_len hfL (l : Int) tp n
  have hPne := leftO_ne L f (l : Int) tp n
  rw [hP] at hld hPlt hPln hPne
  have hpk := pickL_len hPlt
  go_wp2_with fail
  refine hld.mono ?_
  rintro e w7 ⟨⟨v7, rfl, q7⟩, b7⟩
  have P7 := HPS.out.P.below b7 (Nat.le_refl _)
  have A7 := HA.out.below b7 HA.out.lt
  have habl : ab < w6.heap.size := HA.out.lt
  have hG6 : G0 ≤ w6.heap.size := by have := HPS.out.P.B.lt; have := HPS.out.P.hg; omega
  have hG7 : G0 ≤ w7.heap.size := Nat.le_trans hG6 b7.size
  have hdr := drop_g P7 hG7 hfL hL8 (l : Int) tp n
  rw [hP] at hdr
  clear hP hld
  have a37 : w7.cell? ⟨ab, 3, none⟩ = some (.int .i64 n) := A7.cell 3
  obtain ⟨o7, c7, hv7, hc7, _⟩ := q7.shape
  subst hv7
  have hq7 := fun i (hi : blkOf (.slice o7 P.length c7) = some i) => q7.lt hi
  have h7 : w6.heap.size ≤ w7.heap.size := b7.size
  go_wp2_with fail
  refine hdr.mono ?_
  rintro e w8 ⟨v8, rfl, q8, ⟨v2, P8, hv2⟩, b8, F8⟩
  obtain ⟨o8, c8, hv8, hc8, _⟩ := q8.shape
  subst hv8
  have q78 := q7.block F8.size fun i hi => F8.block i (hq7 i hi).2 (fun e => by have := (hq7 i hi).1; omega) (fun e => by have := (hq7 i hi).1; have := hab i (.inl e); omega)
  have A8 : Blk w8 ab 117 #[.int .i64 aw, .int .i64 al, .int .i64 ap, .int .i64 n] := (F8.block ab A7.lt (by omega) (fun e => by have := hab ab (.inl e); omega)).trans A7
  have qv8 := (HPS.out.q.below b7 (Nat.le_refl _)).block F8.size fun i hi => F8.block i (by have := hab i (.inr hi); omega) (fun e => HPS.out.ng (e ▸ hi)) (fun e => HPS.out.nv i e hi)
  have bel8 : Below G0 w w8 := (HPS.out.bel.trans (b7.mono hG6)).trans b8
  have h8 : w7.heap.size ≤ w8.heap.size := F8.size
  clear A7 P7 q7 b7 b8 F8 hdr a3 a37
  go_upto_region 31 with fail
  have al9 := (Below.refl w8.heap.size w8).alloc (Nat.le_refl _) (.cells #[] 113)
  have e9 := Qo.empty (w8.alloc (.cells #[] 113)) w8.heap.size 15 (some ⟨w8.heap.size, 0, none⟩)
  have hv2l := fun i (hi : blkOf v2 = some i) => (P8.q.lt hi).2
  have hgl8 := P8.B.lt
  have hal8 := A8.lt
  have hq7l := fun i (hi : blkOf (.slice o7 P.length c7) = some i) => (q78.lt hi).2
  have hq8l := fun i (hi : blkOf (.slice o8 P.length c8) = some i) => (q8.lt hi).2
  have hqvl := fun i (hi : blkOf (.slice oq L.length cq) = some i) => (qv8.lt hi).2
  have HZ := Lib.hid (And.intro (P8.below al9 (Nat.le_refl _)) (And.intro (q78.below al9 (Nat.le_refl _)) (And.intro (q8.below al9 (Nat.le_refl _)) (And.intro (qv8.below al9 (Nat.le_refl _)) (And.intro (A8.below al9 A8.lt) (And.intro (bel8.trans (al9.mono (by omega))) e9))))))
  have HV2 := Lib.hid hv2
  have hs9w : w8.heap.size ≤ (w8.alloc (.cells #[] 113)).heap.size := al9.size
  have hG9w : G0 ≤ w8.heap.size := by omega
  clear P8 q78 q8 qv8 A8 bel8 al9 e9 hv2
  obtain ⟨w9, hw9⟩ : ∃ w9, w8.alloc (.cells #[] 113) = w9 := ⟨_, rfl⟩
  rw [hw9] at HZ hs9w
  try rw [hw9]
  clear hw9
  obtain ⟨B9, hB9⟩ : ∃ B9, w8.heap.size = B9 := ⟨_, rfl⟩
  rw [hB9] at HZ hs9w hG9w h8 hv2l hgl8 hal8 hq7l hq8l hqvl
  try rw [hB9]
  clear hB9
  go_wp2_with fail
  go_loopw [14, 15, 16] (fun s14 s15 s16 wr => ∃ (j : Nat) (orr : Option Addr) (cr : Nat), s16 = .int .i64 (j : Nat) ∧ j ≤ P.length ∧ s14 = .slice orr (pickL L (P.take j)).length cr ∧ s15 = .int .i64 (atO f (P.take j) 0 0 : Nat) ∧ Qo wr B9 15 (.slice orr (pickL L (P.take j)).length cr) (pickL L (P.take j)).length (cellsX (pickL L (P.take j))) ∧ Below B9 w9 wr) (fun _ _ s16 _ => P.length - (intOf s16).toNat)
  case atStart => exact ⟨0, some ⟨B9, 0, none⟩, 0, rfl, Nat.zero_le _, rfl, rfl, HZ.out.2.2.2.2.2.2, Below.refl _ _⟩
  case round =>
    rename World => wx
    obtain ⟨j, orr, cr, rfl, hj, rfl, rfl, qr, belr⟩ := hrel
    have Pr := HZ.out.1.old belr hgl8 hv2l
    have q7r := HZ.out.2.1.block belr.size fun i hi => belr.block i (hq7l i hi)
    have q8r := HZ.out.2.2.1.block belr.size fun i hi => belr.block i (hq8l i hi)
    have qvr := HZ.out.2.2.2.1.block belr.size fun i hi => belr.block i (hqvl i hi)
    have Ar := HZ.out.2.2.2.2.1.below belr hal8
    have belw : Below G0 w wx := HZ.out.2.2.2.2.2.1.trans (belr.mono (by omega))
    by_cases hlt' : j < P.length
    · have hjj : (j : Int) < (P.length : Int) := by omega
      have hj0 : (0 : Int) ≤ (j : Int) := by omega
      obtain ⟨q, hq⟩ : ∃ q, P[j]? = some q := ⟨_, List.getElem?_eq_getElem hlt'⟩
      have hql : q < L.length := hPlt q (List.mem_of_getElem? hq)
      obtain ⟨x, hx⟩ : ∃ x, L[q]? = some x := ⟨_, List.getElem?_eq_getElem hql⟩
      have htk : P.take (j + 1) = P.take j ++ [q] := by rw [List.take_add_one, hq]; rfl
      have htl : (P.take j).length = j := by rw [List.length_take]; omega
      have hpk1 : pickL L (P.take (j + 1)) = pickL L (P.take j) ++ [x] := by rw [htk]; exact pickL_snoc hx
      have hat : atO f (P.take (j + 1)) 0 0 = if q = f then j else atO f (P.take j) 0 0 := by rw [htk, atO_snoc, htl, Nat.zero_add]
      have hlp : (pickL L (P.take j)).length = j := by rw [pickL_len (fun y hy => hPlt y (List.mem_of_mem_take hy)), htl]
      obtain ⟨h7', off7, rfl, c7q⟩ := int_at q7r hq
      obtain ⟨h8', off8, rfl, c8q⟩ := int_at q8r hq
      obtain ⟨hh, off, rfl, hhl, hbh, hblk, X⟩ := row_at qvr rfl hx
      have hq0 : (0 : Int) ≤ (q : Int) := by omega
      have hq1 : (q : Int) < (L.length : Int) := by omega
      have szX : (Try.prog.info? 113).map (·.size) = some (#[.int .u32 x.a, .int .u32 x.b, .int .i64 x.s, .int .i64 0, .int .i64 0, .int .i64 0, .int .i64 30, .bool false, .int .i64 1800, .int .i64 60000, .int .i64 0, .int .i64 0, .int .i64 0, .int .u32 0, .int .i64 0] : Array Value).size := by show _ = some 15; kernel_rfl
      have hgr : B9 ≤ wx.heap.size := Nat.le_trans hs9w belr.size
      have al := (Below.refl wx.heap.size wx).alloc (Nat.le_refl _) (.cells #[.int .u32 x.a, .int .u32 x.b, .int .i64 x.s, .int .i64 0, .int .i64 0, .int .i64 0, .int .i64 30, .bool false, .int .i64 1800, .int .i64 60000, .int .i64 0, .int .i64 0, .int .i64 0, .int .u32 0, .int .i64 0] 113)
      have srcI := src_item (P := Try.prog) (SL := 115) (sz := 15) Try.underlying115 (Blk.new wx 113 #[.int .u32 x.a, .int .u32 x.b, .int .i64 x.s, .int .i64 0, .int .i64 0, .int .i64 0, .int .i64 30, .bool false, .int .i64 1800, .int .i64 60000, .int .i64 0, .int .i64 0, .int .i64 0, .int .u32 0, .int .i64 0]) (px_one x) rfl
      obtain ⟨i0, hi0', hz0, hz1, hz2⟩ := info_parts infoP
      obtain ⟨v10, w10, hr10, q10, gr10, ha10⟩ := qo_append (P := Try.prog) (t := 115) (ty := 115) Try.underlying115 hi0' hz0 hz1 hz2 rfl (qr.below al (Nat.le_refl _)) srcI (by unfold maxLen; omega) (by omega) (by have := al.size; omega)
      have b10 : Below B9 wx w10 := (al.mono hgr).grown gr10 (by have := al.size; omega) (fun k hk => ((qr.below al (Nat.le_refl _)).lt hk).1)
      have q10' : Qo w10 B9 15 v10 (pickL L (P.take (j + 1))).length (cellsX (pickL L (P.take (j + 1)))) := by
        rw [hpk1, cellsX_append, List.length_append]
        simpa [cellsX, px, pth] using q10
      obtain ⟨o10, c10, hv10, _, _⟩ := q10'.shape
      subst hv10
      have hl10 : (pickL L (P.take (j + 1))).length = j + 1 := by rw [hpk1, List.length_append, hlp]; rfl
      have c7r : w10.cell? ⟨h7', off7 + j, none⟩ = some (.int .i64 (q : Nat)) := (b10.cell (p := ⟨h7', off7 + j, none⟩) (hq7l h7' (blkOf_pos (by omega)))).trans c7q
      have c8r : w10.cell? ⟨h8', off8 + j, none⟩ = some (.int .i64 (q : Nat)) := (b10.cell (p := ⟨h8', off8 + j, none⟩) (hq8l h8' (blkOf_pos (by omega)))).trans c8q
      have HE := Lib.hid (And.intro q10' (And.intro (belr.trans b10) (And.intro hat hl10)))
      rw [hl10] at hr10
      rw [hlp] at hr10 ⊢
      obtain ⟨at0, hat0⟩ : ∃ at0, atO f (P.take j) 0 0 = at0 := ⟨_, rfl⟩
      rw [hat0]
      have HAT := Lib.hid hat0
      clear qr Pr Ar q7r q8r qvr belw belr al srcI q10 gr10 ha10 b10 q10' hpk1 hat htk htl hq hx hat0 hi0' hz0 hz1 hz2 hl10 hlp
      go_upto_region 35 with (first | (refine wpList_load_at rfl 113 _ rfl hh (off + q * 15) rfl #[.int .u32 x.a, .int .u32 x.b, .int .i64 x.s, .int .i64 0, .int .i64 0, .int .i64 0, .int .i64 30, .bool false, .int .i64 1800, .int .i64 60000, .int .i64 0, .int .i64 0, .int .i64 0, .int .u32 0, .int .i64 0] _ X Try.underlying113 rfl szX ?_) | (at_builtin; refine wpList_append_q rfl _ _ _ rfl rfl rfl hr10 ?_))
      clear hr10 X c7q c8q
      by_cases hqf : q = f
      · have hqf' : ((q : Nat) : Int) = ((f : Nat) : Int) := by omega
        have HQ := Lib.hid hqf
        clear hqf
        go_upto_region 37 with fail
        have hge7 : ∀ v, (binOp .geq 3 (.int .i64 (j : Nat)) (.int .i64 (P.length : Nat))).run Try.prog v = .ok (.bool false) v := fun v => by rw [geqI, decide_eq_false (by omega)]
        have HS : w10.drew.cell? ⟨h7', off7 + j, none⟩ = some (.int .i64 (q : Nat)) ∧ w10.drew.cell? ⟨h8', off8 + j, none⟩ = some (.int .i64 (q : Nat)) := ⟨c7r, c8r⟩
        clear c7r c8r
        refine wp_region_noPanic ?_
        refine wp_region_held_drew (S := fun v => v.cell? ⟨h7', off7 + j, none⟩ = some (.int .i64 (q : Nat)) ∧ v.cell? ⟨h8', off8 + j, none⟩ = some (.int .i64 (q : Nat))) (by kernel_rfl) HS (fun _ => ?_)
        refine wpAnyH_abs _ (fun ac hac => ?_)
        have hsz : ac.tmps.size = 233 := by rw [hac]; rfl
        have e12 : ac.eval (.tmp 12) = .slice (some ⟨h7', off7, none⟩) P.length c7 := by rw [hac]; rfl
        have e13 : ac.eval (.tmp 13) = .slice (some ⟨h8', off8, none⟩) P.length c8 := by rw [hac]; rfl
        have e16 : ac.eval (.tmp 16) = .int .i64 (j : Nat) := by rw [hac]; rfl
        have HB := Lib.hid hac
        clear hac
        have EV := And.intro @Act.eval_put_ne (And.intro @Act.eval_put_same (And.intro @Act.size_put (And.intro hsz (And.intro e12 (And.intro e13 e16)))))
        refine take_run (i := 0) (u := .int .i64 (j : Nat)) rfl (by kernel_rfl) (by kernel_rfl) (by kernel_rfl) rfl rfl (fun _ _ _ h => h) HS (fun v hv => run_move rfl (by simp [EV]) v) ?_
        refine take_run (i := 1) (u := .slice (some ⟨h8', off8, none⟩) P.length c8) rfl (by kernel_rfl) (by kernel_rfl) (by kernel_rfl) rfl rfl (fun _ _ _ h => h) HS (fun v hv => run_move rfl (by simp [EV]) v) ?_
        refine take_run (i := 2) (u := .int .i64 (P.length : Nat)) rfl (by kernel_rfl) (by kernel_rfl) (by kernel_rfl) rfl rfl (fun _ _ _ h => h) HS (fun v hv => run_lens rfl (by simp [EV]) (fun cs => lenI (some ⟨h8', off8, none⟩) P.length c8 v cs)) ?_
        refine take_run (i := 3) (u := .bool false) rfl (by kernel_rfl) (by kernel_rfl) (by kernel_rfl) rfl rfl (fun _ _ _ h => h) HS (fun v hv => run_ord (s := .int .i64 (j : Nat)) (j := .int .i64 (P.length : Nat)) rfl (.inl rfl) (by simp [EV]) (by simp [EV]) (hge7 v)) ?_
        refine take_run (i := 4) (u := .bool false) rfl (by kernel_rfl) (by kernel_rfl) (by kernel_rfl) rfl rfl (fun _ _ _ h => h) HS (fun v hv => run_move rfl (by simp [EV]) v) ?_
        refine take_run_g (i := 5) (u := .slice (some ⟨h8', off8, none⟩) P.length c8) rfl (by kernel_rfl) (by kernel_rfl) (by kernel_rfl) (wanted_of rfl rfl rfl (bb := false) (by simp [EV])) rfl (fun _ _ _ h => h) HS (fun v hv => run_move rfl (by simp [EV]) v) ?_
        refine take_run_g (i := 6) (u := .int .i64 (j : Nat)) rfl (by kernel_rfl) (by kernel_rfl) (by kernel_rfl) (wanted_of rfl rfl rfl (bb := false) (by simp [EV])) rfl (fun _ _ _ h => h) HS (fun v hv => run_move rfl (by simp [EV]) v) ?_
        refine take_run_g (i := 7) (u := .pointer (some ⟨h8', off8 + j, none⟩)) rfl (by kernel_rfl) (by kernel_rfl) (by kernel_rfl) (wanted_of rfl rfl rfl (bb := false) (by simp [EV])) rfl (fun _ _ _ h => h) HS (fun v hv => run_index (s := .slice (some ⟨h8', off8, none⟩) P.length c8) (j := .int .i64 (j : Nat)) rfl (by simp [EV]) (by simp [EV]) (by go_simp)) ?_
        refine take_run_g (i := 8) (u := .int .i64 (q : Nat)) rfl (by kernel_rfl) (by kernel_rfl) (by kernel_rfl) (wanted_of rfl rfl rfl (bb := false) (by simp [EV])) rfl (fun _ _ _ h => h) HS (fun v hv => run_load1 (s := .pointer (some ⟨h8', off8 + j, none⟩)) rfl (by simp [EV]) (by have c : v.cell? ⟨h8', off8 + j, none⟩ = some (.int .i64 (q : Nat)) := hv.2; go_simp)) ?_
        refine take_run_g (i := 9) (u := .slice (some ⟨h7', off7, none⟩) P.length c7) rfl (by kernel_rfl) (by kernel_rfl) (by kernel_rfl) (wanted_of rfl rfl rfl (bb := false) (by simp [EV])) rfl (fun _ _ _ h => h) HS (fun v hv => run_move rfl (by simp [EV]) v) ?_
        refine take_run_g (i := 10) (u := .int .i64 (j : Nat)) rfl (by kernel_rfl) (by kernel_rfl) (by kernel_rfl) (wanted_of rfl rfl rfl (bb := false) (by simp [EV])) rfl (fun _ _ _ h => h) HS (fun v hv => run_move rfl (by simp [EV]) v) ?_
        refine take_run_g (i := 11) (u := .pointer (some ⟨h7', off7 + j, none⟩)) rfl (by kernel_rfl) (by kernel_rfl) (by kernel_rfl) (wanted_of rfl rfl rfl (bb := false) (by simp [EV])) rfl (fun _ _ _ h => h) HS (fun v hv => run_index (s := .slice (some ⟨h7', off7, none⟩) P.length c7) (j := .int .i64 (j : Nat)) rfl (by simp [EV]) (by simp [EV]) (by go_simp)) ?_
        refine take_run_g (i := 12) (u := .int .i64 (q : Nat)) rfl (by kernel_rfl) (by kernel_rfl) (by kernel_rfl) (wanted_of rfl rfl rfl (bb := false) (by simp [EV])) rfl (fun _ _ _ h => h) HS (fun v hv => run_load1 (s := .pointer (some ⟨h7', off7 + j, none⟩)) rfl (by simp [EV]) (by have c : v.cell? ⟨h7', off7 + j, none⟩ = some (.int .i64 (q : Nat)) := hv.1; go_simp)) ?_
        refine take_run_g (i := 13) (u := .bool false) rfl (by kernel_rfl) (by kernel_rfl) (by kernel_rfl) (wanted_of rfl rfl rfl (bb := false) (by simp [EV])) rfl (fun _ _ _ h => h) HS (fun v hv => run_cmp_int (p := (q : Nat)) (q := (q : Nat)) rfl (.inl rfl) (by simp [EV]) (by simp [EV]) (neqI9 _ v)) ?_
        refine take_run (i := 14) (u := .bool false) rfl (by kernel_rfl) (by kernel_rfl) (by kernel_rfl) rfl rfl (fun _ _ _ h => h) HS (fun v hv => run_pick (b := false) rfl (by simp [EV]) (by simp [EV])) ?_
        refine wpAnyH_done (by kernel_rfl) ?_ _
        refine NoPanic.normal ?_
        rw [HB.out]
        simp only [Act.put, List.setIfInBounds_toArray, List.set_cons_zero, List.set_cons_succ]
        clear HB EV e12 e13 e16 hsz HS hge7
        have HQ7 := Lib.hid (And.intro (HE.out.1.below (Below.refl _ _).drew (Nat.le_refl _)) HE.out.2.1.drew)
        go_wp2_with fail
        go_roundw
        case rel => exact ⟨j + 1, o10, c10, by go_num, by omega, by rw [HE.out.2.2.2], by rw [HE.out.2.2.1, if_pos HQ.out], HQ7.out.1, HQ7.out.2⟩
        case measure => simp [intOf]; omega
      · have hqf' : ¬ ((q : Nat) : Int) = ((f : Nat) : Int) := by omega
        have HQ := Lib.hid hqf
        clear hqf
        go_upto_region 37 with fail
        have hge7 : ∀ v, (binOp .geq 3 (.int .i64 (j : Nat)) (.int .i64 (P.length : Nat))).run Try.prog v = .ok (.bool false) v := fun v => by rw [geqI, decide_eq_false (by omega)]
        have HS : w10.drew.cell? ⟨h7', off7 + j, none⟩ = some (.int .i64 (q : Nat)) ∧ w10.drew.cell? ⟨h8', off8 + j, none⟩ = some (.int .i64 (q : Nat)) := ⟨c7r, c8r⟩
        clear c7r c8r
        refine wp_region_noPanic ?_
        refine wp_region_held_drew (S := fun v => v.cell? ⟨h7', off7 + j, none⟩ = some (.int .i64 (q : Nat)) ∧ v.cell? ⟨h8', off8 + j, none⟩ = some (.int .i64 (q : Nat))) (by kernel_rfl) HS (fun _ => ?_)
        refine wpAnyH_abs _ (fun ac hac => ?_)
        have hsz : ac.tmps.size = 233 := by rw [hac]; rfl
        have e12 : ac.eval (.tmp 12) = .slice (some ⟨h7', off7, none⟩) P.length c7 := by rw [hac]; rfl
        have e13 : ac.eval (.tmp 13) = .slice (some ⟨h8', off8, none⟩) P.length c8 := by rw [hac]; rfl
        have e16 : ac.eval (.tmp 16) = .int .i64 (j : Nat) := by rw [hac]; rfl
        have HB := Lib.hid hac
        clear hac
        have EV := And.intro @Act.eval_put_ne (And.intro @Act.eval_put_same (And.intro @Act.size_put (And.intro hsz (And.intro e12 (And.intro e13 e16)))))
        refine take_run (i := 0) (u := .int .i64 (j : Nat)) rfl (by kernel_rfl) (by kernel_rfl) (by kernel_rfl) rfl rfl (fun _ _ _ h => h) HS (fun v hv => run_move rfl (by simp [EV]) v) ?_
        refine take_run (i := 1) (u := .slice (some ⟨h8', off8, none⟩) P.length c8) rfl (by kernel_rfl) (by kernel_rfl) (by kernel_rfl) rfl rfl (fun _ _ _ h => h) HS (fun v hv => run_move rfl (by simp [EV]) v) ?_
        refine take_run (i := 2) (u := .int .i64 (P.length : Nat)) rfl (by kernel_rfl) (by kernel_rfl) (by kernel_rfl) rfl rfl (fun _ _ _ h => h) HS (fun v hv => run_lens rfl (by simp [EV]) (fun cs => lenI (some ⟨h8', off8, none⟩) P.length c8 v cs)) ?_
        refine take_run (i := 3) (u := .bool false) rfl (by kernel_rfl) (by kernel_rfl) (by kernel_rfl) rfl rfl (fun _ _ _ h => h) HS (fun v hv => run_ord (s := .int .i64 (j : Nat)) (j := .int .i64 (P.length : Nat)) rfl (.inl rfl) (by simp [EV]) (by simp [EV]) (hge7 v)) ?_
        refine take_run (i := 4) (u := .bool false) rfl (by kernel_rfl) (by kernel_rfl) (by kernel_rfl) rfl rfl (fun _ _ _ h => h) HS (fun v hv => run_move rfl (by simp [EV]) v) ?_
        refine take_run_g (i := 5) (u := .slice (some ⟨h8', off8, none⟩) P.length c8) rfl (by kernel_rfl) (by kernel_rfl) (by kernel_rfl) (wanted_of rfl rfl rfl (bb := false) (by simp [EV])) rfl (fun _ _ _ h => h) HS (fun v hv => run_move rfl (by simp [EV]) v) ?_
        refine take_run_g (i := 6) (u := .int .i64 (j : Nat)) rfl (by kernel_rfl) (by kernel_rfl) (by kernel_rfl) (wanted_of rfl rfl rfl (bb := false) (by simp [EV])) rfl (fun _ _ _ h => h) HS (fun v hv => run_move rfl (by simp [EV]) v) ?_
        refine take_run_g (i := 7) (u := .pointer (some ⟨h8', off8 + j, none⟩)) rfl (by kernel_rfl) (by kernel_rfl) (by kernel_rfl) (wanted_of rfl rfl rfl (bb := false) (by simp [EV])) rfl (fun _ _ _ h => h) HS (fun v hv => run_index (s := .slice (some ⟨h8', off8, none⟩) P.length c8) (j := .int .i64 (j : Nat)) rfl (by simp [EV]) (by simp [EV]) (by go_simp)) ?_
        refine take_run_g (i := 8) (u := .int .i64 (q : Nat)) rfl (by kernel_rfl) (by kernel_rfl) (by kernel_rfl) (wanted_of rfl rfl rfl (bb := false) (by simp [EV])) rfl (fun _ _ _ h => h) HS (fun v hv => run_load1 (s := .pointer (some ⟨h8', off8 + j, none⟩)) rfl (by simp [EV]) (by have c : v.cell? ⟨h8', off8 + j, none⟩ = some (.int .i64 (q : Nat)) := hv.2; go_simp)) ?_
        refine take_run_g (i := 9) (u := .slice (some ⟨h7', off7, none⟩) P.length c7) rfl (by kernel_rfl) (by kernel_rfl) (by kernel_rfl) (wanted_of rfl rfl rfl (bb := false) (by simp [EV])) rfl (fun _ _ _ h => h) HS (fun v hv => run_move rfl (by simp [EV]) v) ?_
        refine take_run_g (i := 10) (u := .int .i64 (j : Nat)) rfl (by kernel_rfl) (by kernel_rfl) (by kernel_rfl) (wanted_of rfl rfl rfl (bb := false) (by simp [EV])) rfl (fun _ _ _ h => h) HS (fun v hv => run_move rfl (by simp [EV]) v) ?_
        refine take_run_g (i := 11) (u := .pointer (some ⟨h7', off7 + j, none⟩)) rfl (by kernel_rfl) (by kernel_rfl) (by kernel_rfl) (wanted_of rfl rfl rfl (bb := false) (by simp [EV])) rfl (fun _ _ _ h => h) HS (fun v hv => run_index (s := .slice (some ⟨h7', off7, none⟩) P.length c7) (j := .int .i64 (j : Nat)) rfl (by simp [EV]) (by simp [EV]) (by go_simp)) ?_
        refine take_run_g (i := 12) (u := .int .i64 (q : Nat)) rfl (by kernel_rfl) (by kernel_rfl) (by kernel_rfl) (wanted_of rfl rfl rfl (bb := false) (by simp [EV])) rfl (fun _ _ _ h => h) HS (fun v hv => run_load1 (s := .pointer (some ⟨h7', off7 + j, none⟩)) rfl (by simp [EV]) (by have c : v.cell? ⟨h7', off7 + j, none⟩ = some (.int .i64 (q : Nat)) := hv.1; go_simp)) ?_
        refine take_run_g (i := 13) (u := .bool false) rfl (by kernel_rfl) (by kernel_rfl) (by kernel_rfl) (wanted_of rfl rfl rfl (bb := false) (by simp [EV])) rfl (fun _ _ _ h => h) HS (fun v hv => run_cmp_int (p := (q : Nat)) (q := (q : Nat)) rfl (.inl rfl) (by simp [EV]) (by simp [EV]) (neqI9 _ v)) ?_
        refine take_run (i := 14) (u := .bool false) rfl (by kernel_rfl) (by kernel_rfl) (by kernel_rfl) rfl rfl (fun _ _ _ h => h) HS (fun v hv => run_pick (b := false) rfl (by simp [EV]) (by simp [EV])) ?_
        refine wpAnyH_done (by kernel_rfl) ?_ _
        refine NoPanic.normal ?_
        rw [HB.out]
        simp only [Act.put, List.setIfInBounds_toArray, List.set_cons_zero, List.set_cons_succ]
        clear HB EV e12 e13 e16 hsz HS hge7
        have HQ7 := Lib.hid (And.intro (HE.out.1.below (Below.refl _ _).drew (Nat.le_refl _)) HE.out.2.1.drew)
        go_wp2_with fail
        go_roundw
        case rel => exact ⟨j + 1, o10, c10, by go_num, by omega, by rw [HE.out.2.2.2], by rw [HE.out.2.2.1, if_neg HQ.out, HAT.out], HQ7.out.1, HQ7.out.2⟩
        case measure => simp [intOf]; omega
    · obtain rfl : j = P.length := by omega
      rw [List.take_length] at qr ⊢
      have hat := atO_lt f P 0 0 (.inr rfl)
      have hP0 : 0 < P.length := List.length_pos_iff.2 hPne
      have PE : Ps G0 g (pickL L P) (atO f P 0 0) v2 (.slice orr (pickL L P).length cr) w wx := ⟨Pr, qr.weaken hG9w, fun e => by have := (qr.lt e).1; omega, fun i hi e => by
        have h1 := (qr.lt e).1
        have h2 := hv2l i hi
        omega, by rw [hpk]; omega, by rw [hpk]; omega, fun x hx => HPS.out.hx x (pickL_mem hx), belw⟩
      have HE := Lib.hid (And.intro PE Ar)
      rw [hpk]
      clear PE Ar qr Pr q7r q8r qvr belw belr hat
      go_wp2_with fail
      exact HFIN.out _ _ _ _ _ _ _ _ _ _ _ _ _ _ _ _ _ _ _ _ _ _ _ _ _ _ _ _ _ _ _ _ _ _ _ _ _ _ _ _ _ _ _ _ _ _ _ _ _ _ _ _ _ _ _ _ _ _ _ _ _ _ _ _ _ _ _ _ _ _ _ _ _ ⟨pickL L P, atO f P 0 0, v2, orr, cr, by rw [hpk], rfl, HE.out.1, HE.out.2⟩
end Go.Proofs.Ythddacgdmngfhaa.pat
