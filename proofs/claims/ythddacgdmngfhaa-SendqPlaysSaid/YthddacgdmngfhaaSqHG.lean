/- Layer 20: the switch's arms, each over the frame written out (gen-sqh.py wrote this). -/
import Derived.Test.YthddacgdmngfhaaSqH
namespace Go.Proofs.Ythddacgdmngfhaa.fra
open Go.Sort (grow)
open Go.ChangeShapes Go.WideShapes Go.ChangeAt Go.RowKit kit
set_option maxRecDepth 1000000
set_option maxHeartbeats 16000000 in
theorem armG (v0 v1 v2 v3 v4 v5 v8 v10 v12 v13 v14 v15 v16 v17 v18 v19 v20 v21 v22 v23 v24 v25 v26 v27 v28 v29 v30 v31 v32 v33 v34 v35 v36 v37 v38 v39 v40 v41 v42 v43 v44 v45 v46 v47 v48 v49 v50 v51 v52 v53 v54 v55 v56 v57 v58 v59 v60 v61 v62 v63 v64 v65 v66 v67 v68 v69 v70 v71 v72 v73 v74 v75 v76 v77 v78 v79 v80 v81 v82 v83 v84 v85 v86 v87 v88 v89 v90 v91 v92 v93 v94 v95 v96 v97 v98 v99 v100 v101 v102 v103 v104 v105 v106 v107 v108 v109 v110 v111 v112 v113 v114 v115 v116 v117 v118 v119 v120 v121 v122 v123 v124 v125 v126 v127 v128 v129 v130 v131 v132 v133 v134 v135 v136 v137 v138 v139 v140 v141 v142 v143 v144 v145 v146 v147 v148 v149 v150 v151 v152 v153 v154 v155 v156 v157 v158 v159 v160 v161 v162 v163 v164 v165 v166 v167 v168 v169 v170 v171 v172 v173 v174 v175 v176 v177 v178 v179 v180 v181 v182 v183 v184 v185 v186 v187 v188 v189 v190 v191 v192 v193 v194 v195 v196 v197 v198 v199 v200 v201 v202 v203 v204 v205 v206 v207 v208 v209 v210 v211 v212 v213 v214 v215 v216 v217 v218 v219 v220 v221 v222 v223 v224 v225 v226 v227 v228 v229 v230 : Value) {G g i : Nat} {pv cv : Value} {P : List Nat} {w0 w : World} (hP : P.length ≤ 16) (hpl : ∀ q ∈ P, q < 65536) {C : List Ck} {on : Option Addr} {cn ab : Nat} {aw st ss pr lg un : Int} {lo : Bool} {d : ByteArray} (A5 : Blk w ab 32 #[.int .i64 aw, .int .i64 st, .int .i64 ss, .bool lo, .int .u32 pr, .string d, .int .i64 lg, .int .i64 un]) (hC : C.length ≤ 16 * i) (hbt : bts C ≤ 6000) (F5 : Gs G g pv cv (.slice on P.length cn) v8 P C w) (bel5 : Below G w0 w)
    (Q : Exit → Act → World → Prop) (hfin : ∀ (u7 u16 u198 u199 u200 u201 u202 u203 u204 u205 u206 u207 u208 u209 u210 u211 u212 : Value) (w' : World), Rn G g i w0 (u7) (v8) (.int .i64 (bts C : Nat)) w' → Q .normal ⟨#[v0, v1, v2, v3, v4, v5, .pointer (some ⟨g, 0, none⟩), u7, v8, .int .i64 (bts C : Nat), v10, .pointer (some ⟨ab, 0, none⟩), v12, v13, v14, v15, u16, v17, v18, v19, v20, v21, v22, v23, v24, v25, v26, v27, v28, v29, v30, v31, v32, v33, v34, v35, v36, v37, v38, v39, v40, v41, v42, v43, v44, v45, v46, v47, v48, v49, v50, v51, v52, v53, v54, v55, v56, v57, v58, v59, v60, v61, v62, v63, v64, v65, v66, v67, v68, v69, v70, v71, v72, v73, v74, v75, v76, v77, v78, v79, v80, v81, v82, v83, v84, v85, v86, v87, v88, v89, v90, v91, v92, v93, v94, v95, v96, v97, v98, v99, v100, v101, v102, v103, v104, v105, v106, v107, v108, v109, v110, v111, v112, v113, v114, v115, v116, v117, v118, v119, v120, v121, v122, v123, v124, v125, v126, v127, v128, v129, v130, v131, v132, v133, v134, v135, v136, v137, v138, v139, v140, v141, v142, v143, v144, v145, v146, v147, v148, v149, v150, v151, v152, v153, v154, v155, v156, v157, v158, v159, v160, v161, v162, v163, v164, v165, v166, v167, v168, v169, v170, v171, v172, v173, v174, v175, v176, v177, v178, v179, v180, v181, v182, v183, v184, v185, v186, v187, v188, v189, v190, v191, v192, v193, v194, v195, v196, v197, u198, u199, u200, u201, u202, u203, u204, u205, u206, u207, u208, u209, u210, u211, u212, v213, v214, v215, v216, v217, v218, v219, v220, v221, v222, v223, v224, v225, v226, v227, v228, v229, v230], []⟩ w') (c : Code) (hc : c = codeG) :
    Code.wp Try.prog c Q ⟨#[v0, v1, v2, v3, v4, v5, .pointer (some ⟨g, 0, none⟩), .slice on P.length cn, v8, .int .i64 (bts C : Nat), v10, .pointer (some ⟨ab, 0, none⟩), v12, v13, v14, v15, v16, v17, v18, v19, v20, v21, v22, v23, v24, v25, v26, v27, v28, v29, v30, v31, v32, v33, v34, v35, v36, v37, v38, v39, v40, v41, v42, v43, v44, v45, v46, v47, v48, v49, v50, v51, v52, v53, v54, v55, v56, v57, v58, v59, v60, v61, v62, v63, v64, v65, v66, v67, v68, v69, v70, v71, v72, v73, v74, v75, v76, v77, v78, v79, v80, v81, v82, v83, v84, v85, v86, v87, v88, v89, v90, v91, v92, v93, v94, v95, v96, v97, v98, v99, v100, v101, v102, v103, v104, v105, v106, v107, v108, v109, v110, v111, v112, v113, v114, v115, v116, v117, v118, v119, v120, v121, v122, v123, v124, v125, v126, v127, v128, v129, v130, v131, v132, v133, v134, v135, v136, v137, v138, v139, v140, v141, v142, v143, v144, v145, v146, v147, v148, v149, v150, v151, v152, v153, v154, v155, v156, v157, v158, v159, v160, v161, v162, v163, v164, v165, v166, v167, v168, v169, v170, v171, v172, v173, v174, v175, v176, v177, v178, v179, v180, v181, v182, v183, v184, v185, v186, v187, v188, v189, v190, v191, v192, v193, v194, v195, v196, v197, v198, v199, v200, v201, v202, v203, v204, v205, v206, v207, v208, v209, v210, v211, v212, v213, v214, v215, v216, v217, v218, v219, v220, v221, v222, v223, v224, v225, v226, v227, v228, v229, v230], []⟩ w := by
  subst hc
  conv => arg 2; whnf
  have HF := Lib.hid hfin
  clear hfin
  have hmx := i64_mask lg 2 (by omega)
  rw [show ((2 ^ 2 - 1 : Nat) : Int) = 3 from rfl] at hmx
  obtain ⟨b, hb, hb1⟩ : ∃ b : Nat, bits .and .i64 lg 3 = b ∧ b ≤ 3 := ⟨(lg % (2 ^ 2 : Nat)).toNat, by rw [hmx]; omega, by omega⟩
  clear hmx
  obtain ⟨m, hm⟩ : ∃ m : Nat, min b (16 - P.length) = m := ⟨_, rfl⟩
  have hG5 : G ≤ w.heap.size := by have := F5.s.hg; have := F5.s.B.lt; omega
  have a6 : w.cell? ⟨ab, 6, none⟩ = some (.int .i64 lg) := A5.cell 6
  have hgr := sq_grow F5.s b m hP hm (by omega)
  go_upto_region 40 with fail
  try rw [hb]
  go_wp2_with fail
  refine hgr.mono ?_
  rintro e w6 ⟨rfl, ⟨pv', S6, hpv⟩, hfr, hs6, hb6⟩
  clear hgr a6 A5
  have hpn : ∀ k, blkOf pv = some k → blkOf (.slice on P.length cn) ≠ some k ∧ blkOf v8 ≠ some k := fun k hk => F5.d3 k (.inl hk)
  have N6 : Qo w6 G 1 (.slice on P.length cn) P.length (cellsN P) := F5.n.block hs6 fun k hk => hfr k (F5.n.lt hk).2 (fun e => F5.d1 (e ▸ hk)) (fun e => (hpn k e).1 hk)
  have L6 : Qo w6 G 15 v8 C.length (cellsC C) := F5.l.block hs6 fun k hk => hfr k (F5.l.lt hk).2 (fun e => F5.d2 (e ▸ hk)) (fun e => (hpn k e).2 hk)
  have hG6 : G ≤ w6.heap.size := Nat.le_trans hG5 hs6
  have al7 := (Below.refl w6.heap.size w6).alloc (Nat.le_refl _) (.cells #[] 3)
  have hs67 := al7.size
  have qE := Qo.empty (w6.alloc (.cells #[] 3)) w6.heap.size 1 (some ⟨w6.heap.size, 0, none⟩)
  obtain ⟨i0, hi, hz0, hz1, hz2⟩ := info_parts infoI
  obtain ⟨q8v, w8, hr8, q8, gr8, ha8⟩ := qo_append (P := Try.prog) (t := 25) (ty := 25) Try.underlying25 hi hz0 hz1 hz2 rfl qE ((N6.below al7 (Nat.le_refl _)).src Try.underlying25 (cellsN_one P)) (by unfold maxLen; omega) (by omega) hs67
  have b8 : Below w6.heap.size w6 w8 := al7.grown gr8 hs67 (fun k hk => by rw [blkOf_zero] at hk; cases hk)
  have hs8 := b8.size
  obtain ⟨q9v, w9, hr9, q9, gr9, ha9⟩ := qo_zeros (P := Try.prog) (t := 25) (tn := 3) (ty := 25) (kq := .i64) (kn := .i64) Try.underlying25 Try.underlying3 hi hz0 hz1 hz2 rfl rfl (by omega) q8 m (by omega) (by omega) hs8
  have b9 : Below w6.heap.size w6 w9 := b8.grown gr9 hs8 (fun k hk => (q8.lt hk).1)
  rw [List.nil_append, cellsN_zero, Nat.zero_add] at q9
  have hl9 : (P ++ List.replicate m 0).length = P.length + m := by simp
  have S9 := S6.below b9 (Nat.le_refl _)
  have N9 := q9.weaken hG6
  have L9 := L6.below b9 (Nat.le_refl _)
  have bel9 := (bel5.trans hb6).trans (b9.mono hG6)
  have fin : Rn G g i w0 q9v v8 (.int .i64 (bts C : Nat)) w9 := ⟨P ++ List.replicate m 0, C, pv', cv, rfl, by omega, fun q hq => by
      rcases List.mem_append.1 hq with h | h
      · exact hpl q h
      · have := (List.mem_replicate.1 h).2; omega, by omega, hbt, ⟨S9, by rw [hl9]; exact N9, L9, fun e => by have := (q9.lt e).1; have := S6.B.lt; omega, F5.d2, fun k hk => ⟨fun e => by
        have h1 := (q9.lt e).1
        rcases hk with h | h
        · have := (S6.p.lt h).2; omega
        · have := (S6.c.lt h).2; omega, fun e => by
        rcases hk with h | h
        · rcases hpv k h with h' | h'
          · exact (F5.d3 k (.inl h')).2 e
          · have := (F5.l.lt e).2; omega
        · exact (F5.d3 k (.inr h)).2 e⟩, fun k hk e => by have := (q9.lt hk).1; have := (F5.l.lt e).2; omega⟩, bel9⟩
  obtain ⟨oa8, cap8, rfl, _, _⟩ := q8.shape
  rw [Nat.zero_add] at hr8 hr9
  have HFF := Lib.hid fin
  clear fin bel9 L9 N9 S9 b9 q9 gr9 ha9 q8 gr8 ha8 b8 L6 N6 S6 qE al7 F5 bel5 hb6 hfr hpv hpn hpl hi hz0 hz1 hz2
  generalize P.length = n at *
  have hw1 : IntKind.i64.wrap (16 - (n : Int)) = 16 - (n : Int) := IntWalk.i64_in _ (by omega)
  go_upto_region 41 with fail
  by_cases hmin : (b : Int) ≤ 16 - (n : Int)
  · obtain rfl : m = b := by omega
    go_wp2_with (at_builtin; first | (refine wpList_append_q rfl _ _ _ rfl rfl rfl hr8 ?_) | (refine wpList_append_n rfl _ _ _ _ rfl rfl rfl hr9 ?_))
    exact HF.out _ _ _ _ _ _ _ _ _ _ _ _ _ _ _ _ _ _ HFF.out
  · have hmi : (16 : Int) - (n : Int) = (m : Int) := by omega
    go_wp2_with (at_builtin; first | (refine wpList_append_q rfl _ _ _ rfl rfl rfl hr8 ?_) | (refine wpList_append_n rfl _ _ _ _ rfl rfl rfl hr9 ?_))
    exact HF.out _ _ _ _ _ _ _ _ _ _ _ _ _ _ _ _ _ _ HFF.out
end Go.Proofs.Ythddacgdmngfhaa.fra
