/- Layer 15: whatever is done to paths: arm 0 (gen-ppk.py wrote this). -/
import Derived.Test.YthddacgdmngfhaaPpKB
namespace Go.Proofs.Ythddacgdmngfhaa.pat
open Go.Sort (grow)
open Go.ChangeShapes Go.WideShapes Go.ChangeAt Go.RowKit kit
set_option maxRecDepth 1000000
set_option maxHeartbeats 16000000 in
theorem arm0 (v0 v1 v2 v6 v10 v11 v12 v13 v14 v15 v16 v17 v18 v19 v20 v21 v22 v23 v24 v25 v26 v27 v28 v29 v30 v31 v32 v33 v34 v35 v36 v37 v38 v39 v40 v41 v42 v43 v44 v45 v46 v47 v48 v49 v50 v51 v52 v53 v54 v55 v56 v57 v58 v59 v60 v61 v62 v63 v64 v65 v66 v67 v68 v69 v70 v71 v72 v73 v74 v75 v76 v77 v78 v79 v80 v81 v82 v83 v84 v85 v86 v87 v88 v89 v90 v91 v92 v93 v94 v95 v96 v97 v98 v99 v100 v101 v102 v103 v104 v105 v106 v107 v108 v109 v110 v111 v112 v113 v114 v115 v116 v117 v118 v119 v120 v121 v122 v123 v124 v125 v126 v127 v128 v129 v130 v131 v132 v133 v134 v135 v136 v137 v138 v139 v140 v141 v142 v143 v144 v145 v146 v147 v148 v149 v150 v151 v152 v153 v154 v155 v156 v157 v158 v159 v160 v161 v162 v163 v164 v165 v166 v167 v168 v169 v170 v171 v172 v173 v174 v175 v176 v177 v178 v179 v180 v181 v182 v183 v184 v185 v186 v187 v188 v189 v190 v191 v192 v193 v194 v195 v196 v197 v198 v199 v200 v201 v202 v203 v204 v205 v206 v207 v208 v209 v210 v211 v212 v213 v214 v215 v216 v217 v218 v219 v220 v221 v222 v223 v224 v225 v226 v227 v228 v229 v230 v231 v232 : Value) {G0 g ab : Nat} {L : List Px} {f : Nat} {v0' : Value} {oq : Option Addr} {cq : Nat} {aw al ap n : Int} {l p : Nat} {w w6 : World} (hl4 : l ≤ 3) (hp4 : p ≤ 3) (hnb' : -9223372036854775808 ≤ n ∧ n ≤ 9223372036854775807)
    (hab : ∀ j, blkOf v0' = some j ∨ blkOf (.slice oq L.length cq) = some j → j < ab) (hgab : g < ab) (hpb : bits .and .i64 ap 3 = (p : Int)) (hA : Blk w6 ab 117 #[.int .i64 aw, .int .i64 al, .int .i64 ap, .int .i64 n]) (hPS : Ps G0 g L f v0' (.slice oq L.length cq) w w6)
    (Q : Exit → Act → World → Prop) (hfin : ∀ (u2 u4 u10 u99 u100 u101 u102 u103 u104 u105 u106 u107 u108 u109 u110 u111 u112 u113 u114 u115 u116 u117 u118 u119 u120 u121 u122 u123 u124 u125 u126 u127 u128 u129 u130 u131 : Value) (w' : World), Cn G0 g ab #[.int .i64 aw, .int .i64 al, .int .i64 ap, .int .i64 n] w (u4) (.int .i64 (f : Nat)) w' → Q .normal ⟨#[v0, v1, u2, .pointer (some ⟨g, 0, none⟩), u4, .int .i64 (f : Nat), v6, .pointer (some ⟨ab, 0, none⟩), .int .u32 ((l : Nat) : Int), .int .u32 ((p : Nat) : Int), u10, v11, v12, v13, v14, v15, v16, v17, v18, v19, v20, v21, v22, v23, v24, v25, v26, v27, v28, v29, v30, v31, v32, v33, v34, v35, v36, v37, v38, v39, v40, v41, v42, v43, v44, v45, v46, v47, v48, v49, v50, v51, v52, v53, v54, v55, v56, v57, v58, v59, v60, v61, v62, v63, v64, v65, v66, v67, v68, v69, v70, v71, v72, v73, v74, v75, v76, v77, v78, v79, v80, v81, v82, v83, v84, v85, v86, v87, v88, v89, v90, v91, v92, v93, v94, v95, v96, v97, v98, u99, u100, u101, u102, u103, u104, u105, u106, u107, u108, u109, u110, u111, u112, u113, u114, u115, u116, u117, u118, u119, u120, u121, u122, u123, u124, u125, u126, u127, u128, u129, u130, u131, v132, v133, v134, v135, v136, v137, v138, v139, v140, v141, v142, v143, v144, v145, v146, v147, v148, v149, v150, v151, v152, v153, v154, v155, v156, v157, v158, v159, v160, v161, v162, v163, v164, v165, v166, v167, v168, v169, v170, v171, v172, v173, v174, v175, v176, v177, v178, v179, v180, v181, v182, v183, v184, v185, v186, v187, v188, v189, v190, v191, v192, v193, v194, v195, v196, v197, v198, v199, v200, v201, v202, v203, v204, v205, v206, v207, v208, v209, v210, v211, v212, v213, v214, v215, v216, v217, v218, v219, v220, v221, v222, v223, v224, v225, v226, v227, v228, v229, v230, v231, v232], []⟩ w') (c : Code) (hc : c = code0) :
    Code.wp Try.prog c Q ⟨#[v0, v1, v2, .pointer (some ⟨g, 0, none⟩), .slice oq L.length cq, .int .i64 (f : Nat), v6, .pointer (some ⟨ab, 0, none⟩), .int .u32 ((l : Nat) : Int), .int .u32 ((p : Nat) : Int), v10, v11, v12, v13, v14, v15, v16, v17, v18, v19, v20, v21, v22, v23, v24, v25, v26, v27, v28, v29, v30, v31, v32, v33, v34, v35, v36, v37, v38, v39, v40, v41, v42, v43, v44, v45, v46, v47, v48, v49, v50, v51, v52, v53, v54, v55, v56, v57, v58, v59, v60, v61, v62, v63, v64, v65, v66, v67, v68, v69, v70, v71, v72, v73, v74, v75, v76, v77, v78, v79, v80, v81, v82, v83, v84, v85, v86, v87, v88, v89, v90, v91, v92, v93, v94, v95, v96, v97, v98, v99, v100, v101, v102, v103, v104, v105, v106, v107, v108, v109, v110, v111, v112, v113, v114, v115, v116, v117, v118, v119, v120, v121, v122, v123, v124, v125, v126, v127, v128, v129, v130, v131, v132, v133, v134, v135, v136, v137, v138, v139, v140, v141, v142, v143, v144, v145, v146, v147, v148, v149, v150, v151, v152, v153, v154, v155, v156, v157, v158, v159, v160, v161, v162, v163, v164, v165, v166, v167, v168, v169, v170, v171, v172, v173, v174, v175, v176, v177, v178, v179, v180, v181, v182, v183, v184, v185, v186, v187, v188, v189, v190, v191, v192, v193, v194, v195, v196, v197, v198, v199, v200, v201, v202, v203, v204, v205, v206, v207, v208, v209, v210, v211, v212, v213, v214, v215, v216, v217, v218, v219, v220, v221, v222, v223, v224, v225, v226, v227, v228, v229, v230, v231, v232], []⟩ w6 := by
  subst hc
  conv => arg 2; whnf
  have HFIN := Lib.hid hfin
  have HPB := Lib.hid hpb
  have HA := Lib.hid hA
  have HPS := Lib.hid hPS
  have hgv := hPS.P.hn
  have hfL := hPS.hf
  have hL8 := hPS.h8
  clear hfin hpb hA hPS

  have wl1 : IntKind.u32.wrap ((l : Int) + 1) = (l : Int) + 1 := by show ((l : Int) + 1) % 4294967296 = _; omega
  have wp1 : IntKind.u32.wrap ((p : Int) + 8) = (p : Int) + 8 := by show ((p : Int) + 8) % 4294967296 = _; omega
  have wl2 : ((l : Int) + 1) % 4294967296 = (l : Int) + 1 := by omega
  have wp2 : ((p : Int) + 8) % 4294967296 = (p : Int) + 8 := by omega
  obtain ⟨ii, hii⟩ : ∃ ii, idx (fun x => decide (x.a = ((l : Int) + 1)) && decide (x.b = ((p : Int) + 8))) L = ii := ⟨_, rfl⟩
  have hii2 : idx (fun x => (decide (((l : Int) + 1) = 0) || decide (x.a = ((l : Int) + 1))) && decide (x.b = ((p : Int) + 8))) L = ii := by
    rw [← hii, decide_eq_false (show ¬ ((l : Int) + 1) = 0 by omega)]
    simp
  have hge := idx_ge (fun x => decide (x.a = ((l : Int) + 1)) && decide (x.b = ((p : Int) + 8))) L
  have hlf := lfind_g HPS.out.q (by omega) ((l : Int) + 1) ((p : Int) + 8)
  rw [hii2] at hlf
  rw [hii] at hge
  have HII := Lib.hid hii
  clear hii hii2
  go_wp2_with fail
  refine hlf.mono ?_
  rintro e w7 ⟨rfl, hw7⟩
  obtain rfl : w6 = w7 := hw7.symm
  clear hlf
  by_cases h0 : 0 ≤ ii
  · have h1 : ¬ ii < 0 := by omega
    have hadd := add_old HPS.out.P hL8 ((l : Int) + 1) ((p : Int) + 8) (by rw [HII.out]; exact h0)
    rw [HII.out] at hadd
    go_wp2_with fail
    refine hadd.mono ?_
    rintro e w8 ⟨rfl, b8⟩
    have HE := Lib.hid (And.intro (HPS.out.below b8 (Nat.le_refl _)) (HA.out.below b8 HA.out.lt))
    clear b8 hadd
    go_wp2_with fail
    exact HFIN.out _ _ _ _ _ _ _ _ _ _ _ _ _ _ _ _ _ _ _ _ _ _ _ _ _ _ _ _ _ _ _ _ _ _ _ _ _ ⟨L, f, v0', oq, cq, rfl, rfl, HE.out.1, HE.out.2⟩
  · obtain rfl : ii = -1 := by omega
    by_cases h8 : L.length < 8
    · have h82 : (L.length : Int) < 8 := by omega
      obtain ⟨i0, hi0, hz0, hz1, hz2⟩ := info_parts infoP
      have al7 := (Below.refl w6.heap.size w6).alloc (Nat.le_refl _) (.cells #[] 113)
      have hs7 := al7.size
      obtain ⟨v7, w7, hr7, q7, gr7, ha7⟩ := qo_append (P := Try.prog) (t := 115) (ty := 115) Try.underlying115 hi0 hz0 hz1 hz2 rfl (Qo.empty (w6.alloc (.cells #[] 113)) w6.heap.size 15 (some ⟨w6.heap.size, 0, none⟩)) ((HPS.out.q.below al7 (Nat.le_refl _)).src Try.underlying115 (cellsX_one L)) (by unfold maxLen; omega) (by omega) hs7
      have b7 : Below w6.heap.size w6 w7 := al7.grown gr7 hs7 (fun k hk => by rw [blkOf_zero] at hk; cases hk)
      rw [List.nil_append, Nat.zero_add] at q7
      obtain ⟨o7, c7, hv7, hc7, _⟩ := q7.shape
      subst hv7
      try rw [Nat.zero_add] at hr7
      have hN := fun W => new_any ((l : Int) + 1) ((p : Int) + 8) W
      simp only [pth] at hN
      clear al7 gr7 ha7 hs7
      go_wp2_with (at_builtin; refine wpList_append_q rfl _ _ _ rfl rfl rfl hr7 ?_)
      refine (hN w7).mono ?_
      rintro e w8 ⟨rfl, b8⟩
      have q8 := q7.below b8 (Nat.le_refl _)
      have bel8 := b7.trans (b8.mono b7.size)
      clear hr7 hN b7 b8 q7
      have al9 := (Below.refl w8.heap.size w8).alloc (Nat.le_refl _) (.cells #[.int .u32 ((l : Int) + 1), .int .u32 ((p : Int) + 8), .int .i64 0, .int .i64 0, .int .i64 0, .int .i64 0, .int .i64 30, .bool false, .int .i64 1800, .int .i64 60000, .int .i64 0, .int .i64 0, .int .i64 0, .int .u32 0, .int .i64 0] 113)
      have srcI := src_item (P := Try.prog) (SL := 115) (sz := 15) Try.underlying115 (Blk.new w8 113 #[.int .u32 ((l : Int) + 1), .int .u32 ((p : Int) + 8), .int .i64 0, .int .i64 0, .int .i64 0, .int .i64 0, .int .i64 30, .bool false, .int .i64 1800, .int .i64 60000, .int .i64 0, .int .i64 0, .int .i64 0, .int .u32 0, .int .i64 0]) (px_one ⟨((l : Int) + 1), ((p : Int) + 8), 0⟩) rfl
      obtain ⟨v9, w9, hr9, q9, gr9, ha9⟩ := qo_append (P := Try.prog) (t := 115) (ty := 115) Try.underlying115 hi0 hz0 hz1 hz2 rfl (q8.below al9 (Nat.le_refl _)) srcI (by unfold maxLen; omega) (by omega) (by have := al9.size; have := bel8.size; omega)
      have b9 : Below w6.heap.size w6 w9 := (bel8.trans (al9.mono bel8.size)).grown gr9 (by have := al9.size; have := bel8.size; omega) (fun k hk => ((q8.below al9 (Nat.le_refl _)).lt hk).1)
      obtain ⟨o9, c9, hv9, _, _⟩ := q9.shape
      subst hv9
      have q9' : Qo w9 w6.heap.size 15 (.slice o9 (L ++ [(⟨((l : Int) + 1), ((p : Int) + 8), 0⟩ : Px)]).length c9) (L ++ [(⟨((l : Int) + 1), ((p : Int) + 8), 0⟩ : Px)]).length (cellsX (L ++ [(⟨((l : Int) + 1), ((p : Int) + 8), 0⟩ : Px)])) := by
        rw [cellsX_append, List.length_append]
        simpa [cellsX, px, pth] using q9
      have P9 := HPS.out.P.below b9 (Nat.le_refl _)
      have hG9 : G0 ≤ w9.heap.size := by have := P9.B.lt; have := P9.hg; omega
      have hadd := add_new P9 hG9 h8 ((l : Int) + 1) ((p : Int) + 8) HII.out
      have A9 := HA.out.below b9 HA.out.lt
      have hwlt : ab < w6.heap.size := HA.out.lt
      have hle : (L ++ [(⟨((l : Int) + 1), ((p : Int) + 8), 0⟩ : Px)]).length = L.length + 1 := by simp
      have HZ := Lib.hid (And.intro q9' (And.intro P9 (And.intro A9 (And.intro b9 hle))))
      clear q8 bel8 al9 srcI q9 q9' gr9 ha9 hi0 hz0 hz1 hz2 P9 A9 b9 hle
      go_wp2_with (at_builtin; refine wpList_append_q rfl _ _ _ rfl rfl rfl hr9 ?_)
      refine hadd.mono ?_
      rintro e w10 ⟨rfl, ⟨v', P10, hnv⟩, b10, F10⟩
      have q10 : Qo w10 w6.heap.size 15 (.slice o9 (L ++ [(⟨((l : Int) + 1), ((p : Int) + 8), 0⟩ : Px)]).length c9) (L ++ [(⟨((l : Int) + 1), ((p : Int) + 8), 0⟩ : Px)]).length (cellsX (L ++ [(⟨((l : Int) + 1), ((p : Int) + 8), 0⟩ : Px)])) := HZ.out.1.block F10.size fun i hi => F10.block i (HZ.out.1.lt hi).2 (fun e => by have := (HZ.out.1.lt hi).1; omega) (fun e => by have := (HZ.out.1.lt hi).1; have := hab i (.inl e); omega)
      have hG6 : G0 ≤ w6.heap.size := by have := HPS.out.P.B.lt; have := HPS.out.P.hg; omega
      have A10 : Blk w10 ab 117 #[.int .i64 aw, .int .i64 al, .int .i64 ap, .int .i64 n] := (F10.block ab HZ.out.2.2.1.lt (by omega) (fun e => by have := hab ab (.inl e); omega)).trans HZ.out.2.2.1
      have PE : Ps G0 g (L ++ [(⟨((l : Int) + 1), ((p : Int) + 8), 0⟩ : Px)]) f v' (.slice o9 (L ++ [(⟨((l : Int) + 1), ((p : Int) + 8), 0⟩ : Px)]).length c9) w w10 := ⟨P10, q10.weaken hG6, fun e => by have := (q10.lt e).1; omega, fun i hi e => by
        have h1 := (q10.lt e).1
        rcases hnv i hi with h' | h'
        · have := hab i (.inl h'); omega
        · have := (HZ.out.1.lt e).2; omega, by rw [HZ.out.2.2.2.2]; omega, by rw [HZ.out.2.2.2.2]; omega, fun x hx => by
        rcases List.mem_append.1 hx with hx | hx
        · exact HPS.out.hx x hx
        · simp at hx; subst hx; show 1 ≤ ((l : Int) + 1) ∧ ((l : Int) + 1) ≤ 4 ∧ 8 ≤ ((p : Int) + 8) ∧ ((p : Int) + 8) ≤ 11; omega, (HPS.out.bel.trans (HZ.out.2.2.2.1.mono hG6)).trans b10⟩
      have HE := Lib.hid (And.intro PE (And.intro A10 HZ.out.2.2.2.2))
      clear q10 A10 PE P10 b10 F10 hadd hr9
      go_wp2_with fail
      exact HFIN.out _ _ _ _ _ _ _ _ _ _ _ _ _ _ _ _ _ _ _ _ _ _ _ _ _ _ _ _ _ _ _ _ _ _ _ _ _ ⟨L ++ [(⟨((l : Int) + 1), ((p : Int) + 8), 0⟩ : Px)], f, v', o9, c9, by rw [HE.out.2.2], rfl, HE.out.1, HE.out.2.1⟩
    · have h82 : ¬ (L.length : Int) < 8 := by omega
      have hadd := add_full HPS.out.P (by omega) ((l : Int) + 1) ((p : Int) + 8) HII.out
      go_wp2_with fail
      refine hadd.mono ?_
      rintro e w8 ⟨rfl, b8⟩
      have HE := Lib.hid (And.intro (HPS.out.below b8 (Nat.le_refl _)) (HA.out.below b8 HA.out.lt))
      clear b8 hadd
      go_wp2_with fail
      exact HFIN.out _ _ _ _ _ _ _ _ _ _ _ _ _ _ _ _ _ _ _ _ _ _ _ _ _ _ _ _ _ _ _ _ _ _ _ _ _ ⟨L, f, v0', oq, cq, rfl, rfl, HE.out.1, HE.out.2⟩
end Go.Proofs.Ythddacgdmngfhaa.pat
