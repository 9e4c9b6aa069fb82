/- Layer 20: the switch's arms, each over the frame written out (gen-sqh.py wrote this). -/
import Derived.Test.YthddacgdmngfhaaSqT
namespace Go.Proofs.Ythddacgdmngfhaa.fra
open Go.Sort (grow)
open Go.ChangeShapes Go.WideShapes Go.ChangeAt Go.RowKit kit byt fil
set_option maxRecDepth 1000000
set_option maxHeartbeats 16000000 in
theorem armO_order (v0 v1 v2 v3 v4 v5 v8 v10 v11 v12 v13 v14 v15 v16 v19 v20 v21 v22 v23 v24 v25 v26 v27 v28 v29 v30 v31 v32 v33 v34 v35 v36 v37 v38 v39 v40 v41 v42 v43 v44 v45 v46 v47 v48 v49 v50 v51 v52 v53 v54 v55 v56 v57 v58 v59 v60 v61 v62 v63 v64 v65 v66 v67 v68 v69 v70 v71 v72 v73 v74 v75 v76 v77 v78 v79 v80 v81 v82 v83 v84 v85 v86 v87 v88 v89 v90 v91 v92 v93 v94 v95 v96 v97 v98 v99 v100 v101 v102 v103 v104 v105 v106 v107 v108 v109 v110 v111 v112 v113 v114 v115 v116 v117 v118 v119 v120 v121 v122 v123 v124 v125 v126 v127 v128 v129 v130 v131 v132 v133 v134 v135 v136 v137 v138 v139 v140 v141 v142 v143 v144 v145 v146 v147 v148 v149 v150 v151 v152 v153 v154 v155 v156 v157 v158 v159 v160 v161 v162 v163 v164 v165 v166 v167 v168 v169 v170 v171 v172 v173 v174 v175 v176 v177 v178 v179 v180 v181 v182 v183 v184 v185 v186 v187 v188 v189 v190 v191 v192 v193 v194 v195 v196 v197 v198 v199 v200 v201 v202 v203 v204 v205 v206 v207 v208 v209 v210 v211 v212 v213 v214 v215 v216 v217 v218 v219 v220 v221 v222 v223 v224 v225 v226 v227 v228 v229 v230 : Value) {G g i mb : Nat} {pv cv : Value} {P : List Nat} {w0 w : World} (hP : P.length ≤ 16) (hpl : ∀ q ∈ P, q < 65536) {C : List Ck} {on : Option Addr} {cn k : Nat} {ss pr : Int} {D : ByteArray} (hk : k < P.length) (hD : D.size ≤ 3000) (hi5 : i < 50) (hC : C.length ≤ 16 * i) (hbt : bts C + D.size ≤ 6000) (F5 : So G g mb pv cv (.slice on P.length cn) v8 (P.set k ((P.getD k 0 + 1) % 65536)) (C ++ pts (if false then 4 else 0) (k : Int) (P.getD k 0 : Int) pr D) P C #[.int .i64 (k : Int), .int .i64 ss, .bool false, .int .u32 pr, .string D] w) (bel5 : Below G w0 w)
    (Q : Exit → Act → World → Prop) (hfin : ∀ (u4 u7 u8 u9 u76 u77 u78 u79 u80 u81 u82 u83 u84 u85 u86 u87 u88 u89 u90 u91 u92 u93 u94 u95 u96 u97 u98 u99 u100 u101 u102 u103 u104 u105 u106 u107 u108 u109 : Value) (w' : World), Rn G g i w0 (u7) (u8) (u9) w' → Q .normal ⟨#[v0, v1, v2, v3, u4, v5, .pointer (some ⟨g, 0, none⟩), u7, u8, u9, v10, v11, v12, v13, v14, v15, v16, .pointer (some ⟨mb, 0, none⟩), .int .i64 0, v19, v20, v21, v22, v23, v24, v25, v26, v27, v28, v29, v30, v31, v32, v33, v34, v35, v36, v37, v38, v39, v40, v41, v42, v43, v44, v45, v46, v47, v48, v49, v50, v51, v52, v53, v54, v55, v56, v57, v58, v59, v60, v61, v62, v63, v64, v65, v66, v67, v68, v69, v70, v71, v72, v73, v74, v75, u76, u77, u78, u79, u80, u81, u82, u83, u84, u85, u86, u87, u88, u89, u90, u91, u92, u93, u94, u95, u96, u97, u98, u99, u100, u101, u102, u103, u104, u105, u106, u107, u108, u109, v110, v111, v112, v113, v114, v115, v116, v117, v118, v119, v120, v121, v122, v123, v124, v125, v126, v127, v128, v129, v130, v131, v132, v133, v134, v135, v136, v137, v138, v139, v140, v141, v142, v143, v144, v145, v146, v147, v148, v149, v150, v151, v152, v153, v154, v155, v156, v157, v158, v159, v160, v161, v162, v163, v164, v165, v166, v167, v168, v169, v170, v171, v172, v173, v174, v175, v176, v177, v178, v179, v180, v181, v182, v183, v184, v185, v186, v187, v188, v189, v190, v191, v192, v193, v194, v195, v196, v197, v198, v199, v200, v201, v202, v203, v204, v205, v206, v207, v208, v209, v210, v211, v212, v213, v214, v215, v216, v217, v218, v219, v220, v221, v222, v223, v224, v225, v226, v227, v228, v229, v230], []⟩ w') (c : Code) (hc : c = codeO) :
    Code.wp Try.prog c Q ⟨#[v0, v1, v2, v3, v4, v5, .pointer (some ⟨g, 0, none⟩), .slice on P.length cn, v8, .int .i64 (bts C : Nat), v10, v11, v12, v13, v14, v15, v16, .pointer (some ⟨mb, 0, none⟩), .int .i64 0, v19, v20, v21, v22, v23, v24, v25, v26, v27, v28, v29, v30, v31, v32, v33, v34, v35, v36, v37, v38, v39, v40, v41, v42, v43, v44, v45, v46, v47, v48, v49, v50, v51, v52, v53, v54, v55, v56, v57, v58, v59, v60, v61, v62, v63, v64, v65, v66, v67, v68, v69, v70, v71, v72, v73, v74, v75, v76, v77, v78, v79, v80, v81, v82, v83, v84, v85, v86, v87, v88, v89, v90, v91, v92, v93, v94, v95, v96, v97, v98, v99, v100, v101, v102, v103, v104, v105, v106, v107, v108, v109, v110, v111, v112, v113, v114, v115, v116, v117, v118, v119, v120, v121, v122, v123, v124, v125, v126, v127, v128, v129, v130, v131, v132, v133, v134, v135, v136, v137, v138, v139, v140, v141, v142, v143, v144, v145, v146, v147, v148, v149, v150, v151, v152, v153, v154, v155, v156, v157, v158, v159, v160, v161, v162, v163, v164, v165, v166, v167, v168, v169, v170, v171, v172, v173, v174, v175, v176, v177, v178, v179, v180, v181, v182, v183, v184, v185, v186, v187, v188, v189, v190, v191, v192, v193, v194, v195, v196, v197, v198, v199, v200, v201, v202, v203, v204, v205, v206, v207, v208, v209, v210, v211, v212, v213, v214, v215, v216, v217, v218, v219, v220, v221, v222, v223, v224, v225, v226, v227, v228, v229, v230], []⟩ w := by
  subst hc
  conv => arg 2; whnf
  have HF := Lib.hid hfin
  clear hfin
  have m1c : w.cell? ⟨mb, 1, none⟩ = some (.int .i64 ss) := F5.m.cell 1
  have m1f : w.frozen? ⟨mb, 1, none⟩ = false := F5.m.frozen 1
  have F6 : So G g mb pv cv (.slice on P.length cn) v8 (P.set k ((P.getD k 0 + 1) % 65536)) (C ++ pts (if false then 4 else 0) (k : Int) (P.getD k 0 : Int) pr D) P C #[.int .i64 (k : Int), .int .i64 0, .bool false, .int .u32 pr, .string D] (w.setCell ⟨mb, 1, none⟩ (.int .i64 0)) := F5.setM 1 (.int .i64 0)
  have bel6 := bel5.setCell (p := ⟨mb, 1, none⟩) F5.hG (.int .i64 0)
  go_upto_region 15 with fail
  clear F5 bel5 m1c m1f
  generalize w.setCell ⟨mb, 1, none⟩ (.int .i64 0) = w6 at *
  have m2c : w6.cell? ⟨mb, 2, none⟩ = some (.bool false) := F6.m.cell 2
  obtain ⟨nb, no, hon, hGn, ⟨nc, nf⟩, _⟩ := F6.setN hk 0
  subst hon
  have m0c : w6.cell? ⟨mb, 0, none⟩ = some (.int .i64 (k : Int)) := F6.m.cell 0
  have m1c : w6.cell? ⟨mb, 1, none⟩ = some (.int .i64 0) := F6.m.cell 1
  have m1f : w6.frozen? ⟨mb, 1, none⟩ = false := F6.m.frozen 1
  have hkP : (k : Int) < (P.length : Int) := by omega
  have hk0 : (0 : Int) ≤ (k : Int) := by omega
  have F7 : So G g mb pv cv (.slice (some ⟨nb, no, none⟩) P.length cn) v8 (P.set k ((P.getD k 0 + 1) % 65536)) (C ++ pts (if false then 4 else 0) (k : Int) (P.getD k 0 : Int) pr D) P C #[.int .i64 (k : Int), .int .i64 (P[k] : Int), .bool false, .int .u32 pr, .string D] (w6.setCell ⟨mb, 1, none⟩ (.int .i64 (P[k] : Int))) := F6.setM 1 (.int .i64 (P[k] : Int))
  have bel7 := bel6.setCell (p := ⟨mb, 1, none⟩) F6.hG (.int .i64 (P[k] : Int))
  have hPk := hpl P[k] (List.getElem_mem hk)
  go_upto_region 17 with fail
  clear F6 bel6 m0c m1c m1f m2c nc nf
  generalize w6.setCell ⟨mb, 1, none⟩ (.int .i64 (P[k] : Int)) = w7 at *
  have hGw7 : G ≤ w7.heap.size := by have := F7.hG; have := F7.m.lt; omega
  obtain ⟨i0, hi, hz0, hz1, hz2⟩ := info_parts infoI
  have al8 := (Below.refl w7.heap.size w7).alloc (Nat.le_refl _) (.cells #[] 3)
  have hs8 := al8.size
  have qE := Qo.empty (w7.alloc (.cells #[] 3)) w7.heap.size 1 (some ⟨w7.heap.size, 0, none⟩)
  obtain ⟨v9, w9, hr9, q9, gr9, ha9⟩ := qo_append (P := Try.prog) (t := 25) (ty := 25) Try.underlying25 hi hz0 hz1 hz2 rfl qE ((F7.n.below al8 (Nat.le_refl _)).src Try.underlying25 (cellsN_one P)) (by unfold maxLen; omega) (by omega) hs8
  have b9 : Below w7.heap.size w7 w9 := al8.grown gr9 hs8 (fun k hk => by rw [blkOf_zero] at hk; cases hk)
  rw [List.nil_append, Nat.zero_add] at q9
  have F9 := F7.newN b9 q9
  have bel9 := bel7.trans (b9.mono hGw7)
  obtain ⟨oa9, cap9, rfl, hc9, _⟩ := q9.shape
  clear qE gr9 ha9 al8 q9 F7 bel7
  go_upto_region 18 with (at_builtin; refine wpList_append_q rfl _ _ _ rfl rfl rfl hr9 ?_)
  clear hr9
  obtain ⟨nb9, no9, ho9, hG9, ⟨c9, f9⟩, F10⟩ := F9.setN hk ((P[k] + 1) % 65536)
  subst ho9
  have bel10 := bel9.setCell (p := ⟨nb9, no9 + k, none⟩) hG9 (.int .i64 (((P[k] + 1) % 65536 : Nat) : Int))
  have m0c : w9.cell? ⟨mb, 0, none⟩ = some (.int .i64 (k : Int)) := F9.m.cell 0
  have m1c : w9.cell? ⟨mb, 1, none⟩ = some (.int .i64 (P[k] : Int)) := F9.m.cell 1
  have hgd : P.getD k 0 = P[k] := by simp [hk]
  have hmx := i64_mask ((P[k] : Int) + 1) 16 (by omega)
  rw [show ((2 ^ 16 - 1 : Nat) : Int) = 65535 from rfl] at hmx
  have hbits : bits .and .i64 ((P[k] : Int) + 1) 65535 = (((P[k] + 1) % 65536 : Nat) : Int) := by rw [hmx]; omega
  have hwr : IntKind.i64.wrap ((P[k] : Int) + 1) = (P[k] : Int) + 1 := IntWalk.i64_in _ (by omega)
  clear F9 bel9 hmx
  rw [hgd] at F10
  generalize hpk : P[k] = p at *
  go_upto_region 19 with fail
  rw [show ((p : Int) + 1) % 65536 = (((p + 1) % 65536 : Nat) : Int) by omega]
  generalize w9.setCell ⟨nb9, no9 + k, none⟩ (.int .i64 (((p + 1) % 65536 : Nat) : Int)) = w10 at *
  have hGw : G ≤ w10.heap.size := by have := F10.hG; have := F10.m.lt; omega
  refine r19 _ w10 G mb (k : Int) (p : Int) pr false D C v8 (by omega) (by omega) F10.l F10.m (by rfl) (by rfl) (by rfl) _ ?_ _ (by kernel_rfl)
  intro u97 u99 u101 u102 w11 q11 b11
  simp only [Act.put, List.setIfInBounds_toArray, List.set_cons_zero, List.set_cons_succ]
  have F11 := F10.newL b11 q11
  have bel11 := bel10.trans (b11.mono hGw)
  have m4c : w11.cell? ⟨mb, 4, none⟩ = some (.string D) := F11.m.cell 4
  have hwb : IntKind.i64.wrap ((bts C : Nat) + (D.size : Int)) = ((bts C + D.size : Nat) : Int) := by rw [IntWalk.i64_in _ (by omega)]; omega
  have HX := Lib.hid (And.intro F11 bel11)
  clear F11 bel11 q11 b11
  go_wp2_with fail
  refine HF.out _ _ _ _ _ _ _ _ _ _ _ _ _ _ _ _ _ _ _ _ _ _ _ _ _ _ _ _ _ _ _ _ _ _ _ _ _ _ _ ⟨P.set k ((p + 1) % 65536), C ++ pts (if false then 4 else 0) (k : Int) (p : Int) pr D, pv, cv, by rw [bts_append, bts_pts, Int.natCast_add], ?_, ?_, ?_, ?_, HX.out.1.gs, HX.out.2⟩
  · rw [List.length_set]; exact hP
  · intro q hq
    rcases List.mem_or_eq_of_mem_set hq with h | h
    · exact hpl q h
    · omega
  · rw [List.length_append, pts_len]; omega
  · rw [bts_append, bts_pts]; omega
end Go.Proofs.Ythddacgdmngfhaa.fra
