/- Layer 20: the switch's arms, each over the frame written out (gen-sqh.py wrote this). -/
import Derived.Test.YthddacgdmngfhaaSqH
namespace Go.Proofs.Ythddacgdmngfhaa.fra
open Go.Sort (grow)
open Go.ChangeShapes Go.WideShapes Go.ChangeAt Go.RowKit kit
set_option maxRecDepth 1000000
set_option maxHeartbeats 16000000 in
theorem armT_cons (v0 v1 v2 v3 v4 v5 v7 v10 v11 v12 v13 v14 v15 v16 v17 v18 v19 v20 v21 v22 v23 v24 v25 v26 v27 v28 v29 v30 v31 v32 v33 v34 v35 v36 v37 v38 v39 v40 v41 v42 v43 v44 v45 v46 v47 v48 v49 v50 v51 v52 v53 v54 v55 v56 v57 v58 v59 v60 v61 v62 v63 v64 v65 v66 v67 v68 v69 v70 v71 v72 v73 v74 v75 v76 v77 v78 v79 v80 v81 v82 v83 v84 v85 v86 v87 v88 v89 v90 v91 v92 v93 v94 v95 v96 v97 v98 v99 v100 v101 v102 v103 v104 v105 v106 v107 v108 v109 v110 v111 v112 v113 v114 v115 v116 v117 v118 v119 v120 v121 v122 v123 v124 v125 v126 v127 v128 v129 v130 v131 v132 v133 v134 v135 v136 v137 v138 v139 v140 v141 v142 v143 v144 v145 v146 v147 v148 v149 v150 v151 v152 v153 v154 v155 v156 v157 v158 v159 v160 v161 v162 v163 v164 v165 v166 v167 v168 v169 v170 v171 v172 v173 v174 v175 v176 v177 v178 v179 v180 v181 v182 v183 v184 v185 v186 v187 v188 v189 v190 v191 v192 v193 v194 v195 v196 v197 v198 v199 v200 v201 v202 v203 v204 v205 v206 v207 v208 v209 v210 v211 v212 v213 v214 v215 v216 v217 v218 v219 v220 v221 v222 v223 v224 v225 v226 v227 v228 v229 v230 : Value) {G g i : Nat} {pv cv : Value} {P : List Nat} {w0 w : World} (hP : P.length ≤ 16) (hpl : ∀ q ∈ P, q < 65536) {x : Ck} {r : List Ck} {ol : Option Addr} {cl : Nat} (hC : r.length + 1 ≤ 16 * (i + 1)) (hb : bts (x :: r) ≤ 6000) (F5 : Gs G g pv cv v7 (.slice ol (r.length + 1) cl) P (x :: r) w) (bel5 : Below G w0 w)
    (Q : Exit → Act → World → Prop) (hfin : ∀ (u4 u8 u9 u12 u13 u14 u15 u150 u151 u152 u153 u154 u155 u156 u157 u158 u159 u160 u161 u162 u163 u164 u165 u166 u167 u168 u169 u170 u171 u172 u173 u174 u175 u176 u177 u178 u179 u180 u181 u182 u183 u184 u185 u186 u187 u188 u189 u190 u191 u192 u193 u194 u195 : Value) (w' : World), Rn G g i w0 (v7) (u8) (u9) w' → Q .normal ⟨#[v0, v1, v2, v3, u4, v5, .pointer (some ⟨g, 0, none⟩), v7, u8, u9, v10, v11, u12, u13, u14, u15, v16, v17, v18, v19, v20, v21, v22, v23, v24, v25, v26, v27, v28, v29, v30, v31, v32, v33, v34, v35, v36, v37, v38, v39, v40, v41, v42, v43, v44, v45, v46, v47, v48, v49, v50, v51, v52, v53, v54, v55, v56, v57, v58, v59, v60, v61, v62, v63, v64, v65, v66, v67, v68, v69, v70, v71, v72, v73, v74, v75, v76, v77, v78, v79, v80, v81, v82, v83, v84, v85, v86, v87, v88, v89, v90, v91, v92, v93, v94, v95, v96, v97, v98, v99, v100, v101, v102, v103, v104, v105, v106, v107, v108, v109, v110, v111, v112, v113, v114, v115, v116, v117, v118, v119, v120, v121, v122, v123, v124, v125, v126, v127, v128, v129, v130, v131, v132, v133, v134, v135, v136, v137, v138, v139, v140, v141, v142, v143, v144, v145, v146, v147, v148, v149, u150, u151, u152, u153, u154, u155, u156, u157, u158, u159, u160, u161, u162, u163, u164, u165, u166, u167, u168, u169, u170, u171, u172, u173, u174, u175, u176, u177, u178, u179, u180, u181, u182, u183, u184, u185, u186, u187, u188, u189, u190, u191, u192, u193, u194, u195, v196, v197, v198, v199, v200, v201, v202, v203, v204, v205, v206, v207, v208, v209, v210, v211, v212, v213, v214, v215, v216, v217, v218, v219, v220, v221, v222, v223, v224, v225, v226, v227, v228, v229, v230], []⟩ w') (c : Code) (hc : c = codeT) :
    Code.wp Try.prog c Q ⟨#[v0, v1, v2, v3, v4, v5, .pointer (some ⟨g, 0, none⟩), v7, .slice ol (r.length + 1) cl, .int .i64 (bts (x :: r) : Nat), v10, v11, v12, v13, v14, v15, v16, v17, v18, v19, v20, v21, v22, v23, v24, v25, v26, v27, v28, v29, v30, v31, v32, v33, v34, v35, v36, v37, v38, v39, v40, v41, v42, v43, v44, v45, v46, v47, v48, v49, v50, v51, v52, v53, v54, v55, v56, v57, v58, v59, v60, v61, v62, v63, v64, v65, v66, v67, v68, v69, v70, v71, v72, v73, v74, v75, v76, v77, v78, v79, v80, v81, v82, v83, v84, v85, v86, v87, v88, v89, v90, v91, v92, v93, v94, v95, v96, v97, v98, v99, v100, v101, v102, v103, v104, v105, v106, v107, v108, v109, v110, v111, v112, v113, v114, v115, v116, v117, v118, v119, v120, v121, v122, v123, v124, v125, v126, v127, v128, v129, v130, v131, v132, v133, v134, v135, v136, v137, v138, v139, v140, v141, v142, v143, v144, v145, v146, v147, v148, v149, v150, v151, v152, v153, v154, v155, v156, v157, v158, v159, v160, v161, v162, v163, v164, v165, v166, v167, v168, v169, v170, v171, v172, v173, v174, v175, v176, v177, v178, v179, v180, v181, v182, v183, v184, v185, v186, v187, v188, v189, v190, v191, v192, v193, v194, v195, v196, v197, v198, v199, v200, v201, v202, v203, v204, v205, v206, v207, v208, v209, v210, v211, v212, v213, v214, v215, v216, v217, v218, v219, v220, v221, v222, v223, v224, v225, v226, v227, v228, v229, v230], []⟩ w := by
  subst hc
  conv => arg 2; whnf
  have HF := Lib.hid hfin
  clear hfin
  have hG5 : G ≤ w.heap.size := by have := F5.s.hg; have := F5.s.B.lt; omega
  obtain ⟨gl, fl', cl', hv, hn1, hn2, hgl1, hgl2, hbl, hK⟩ := F5.l.show_ (by simp)
  simp only [Value.slice.injEq, List.length_cons, true_and] at hv hn1
  obtain ⟨rfl, rfl⟩ := hv
  have K5 : Cel w gl fl' (lk x.f x.st x.ss x.pr x.d) := by
    have := hK 0 (ckc x) (by simp) (by show 15 ≤ 15; omega) (cellsC_get (by rfl))
    rw [Nat.zero_mul, Nat.add_zero] at this
    exact this
  have hglg : gl ≠ g := fun e => F5.d2 (by rw [hbl, e])
  clear hK
  have hpk := sq_peek F5.s
  go_wp2_with fail
  refine hpk.mono ?_
  rintro e wz ⟨rfl, hwz⟩
  obtain rfl : w = wz := hwz.symm
  have htk := sq_take F5.s (by omega)
  go_wp2_with fail
  refine htk.mono ?_
  rintro e w6 ⟨rfl, ⟨cv', S6, hcv⟩, hfr, hb6⟩
  have hs6 := hb6.size
  have F6 : Gs G g pv cv' v7 (.slice (some ⟨gl, fl', none⟩) (r.length + 1) cl) P r w6 ∨ True := .inr trivial
  clear F6
  have N6 : Qo w6 G 1 v7 P.length (cellsN P) := F5.n.block hs6 fun k hk => hfr k (fun e => F5.d1 (e ▸ hk)) (F5.n.lt hk).2
  have L6 : Qo w6 G 15 (.slice (some ⟨gl, fl', none⟩) (r.length + 1) cl) (r.length + 1) (cellsC (x :: r)) := F5.l.block hs6 fun k hk => hfr k (fun e => F5.d2 (e ▸ hk)) (F5.l.lt hk).2
  have K6 : Cel w6 gl fl' (lk x.f x.st x.ss x.pr x.d) := K5.block (hfr gl hglg hgl2) (by omega)
  have bel6 := bel5.trans (hb6.mono F5.s.hg)
  have hG6 : G ≤ w6.heap.size := Nat.le_trans hG5 hs6
  have D1 := F5.d1
  have D2 := F5.d2
  have D3 : ∀ k, blkOf pv = some k ∨ blkOf cv' = some k → blkOf v7 ≠ some k ∧ blkOf (.slice (some ⟨gl, fl', none⟩) (r.length + 1) cl) ≠ some k := fun k hk => F5.d3 k (hk.imp id (hcv k))
  have D4 := F5.d4
  clear hpk htk F5 bel5 hb6 K5 hfr hcv
  have al7 := (Below.refl w6.heap.size w6).alloc (Nat.le_refl _) (.cells (lk x.f x.st x.ss x.pr x.d) 40)
  have S7 := S6.below al7 (Nat.le_refl _)
  have N7 := N6.below al7 (Nat.le_refl _)
  have L7 := L6.below al7 (Nat.le_refl _)
  have K7 := K6.below al7 K6.lt
  have Y7 := Blk.new w6 40 (lk x.f x.st x.ss x.pr x.d)
  have bel7 := bel6.trans (al7.mono hG6)
  have hs67 := al7.size
  clear S6 N6 L6 K6 bel6 al7
  go_upto_region 33 with fail
  generalize w6.alloc (.cells (lk x.f x.st x.ss x.pr x.d) 40) = w7 at *
  generalize w6.heap.size = y at *
  have HFF := Lib.hid (And.intro S7 (And.intro N7 (And.intro L7 bel7)))
  clear S7 N7 L7 bel7
  have y6 : w7.cell? ⟨y, 6, none⟩ = some (.string x.d) := Y7.cell 6
  have ky6 := cell_regrown y6
  have hlen0 : (0 : Int) < (r.length : Int) + 1 := by omega
  have hlenN : 0 < r.length + 1 := by omega
  have hsm : ∀ (dd : Nat) (oo : Array Obj), Calls Try.prog 18 #[.agg (lk x.f x.st x.ss x.pr x.d), .agg (lk x.f x.st x.ss x.pr x.d)] (grow (redrawn w7 dd) oo) fun e w' => e = .returned (.bool true) ∧ Below (grow (redrawn w7 dd) oo).heap.size (grow (redrawn w7 dd) oo) w' := fun dd oo => same_ck _ _ _ _ _ _
  refine wp_region_quiet_below (by kernel_rfl) (by kernel_rfl) ?_
  repeat (any_goals (first | (refine wpQuiet_load_at (by rfl) 40 _ (by rfl) y 0 (by rfl) (lk x.f x.st x.ss x.pr x.d) _ Try.underlying40 (by rfl) szC (fun w' hw' => by obtain ⟨p, rfl⟩ := hw'; exact (Cel.of_blk Y7).below (below_regrown w7 _ _) Y7.lt) ?_) | (refine wpQuiet_load_at (by rfl) 40 _ (by rfl) gl fl' (by rfl) (lk x.f x.st x.ss x.pr x.d) _ Try.underlying40 (by rfl) szC (fun w' hw' => by obtain ⟨p, rfl⟩ := hw'; exact K7.below (below_regrown w7 _ _) K7.lt) ?_) | go_big_quiet_step ((go_at_call 18; exact Calls.regrown_of (hsm _ _))) | quiet_step ((go_at_call 18; exact Calls.regrown_of (hsm _ _)))))
  refine wpQuiet_nil ?_
  intro _ hw'
  obtain ⟨⟨dq, osq⟩, hw''⟩ := hw'
  subst hw''
  have gb := below_regrown w7 dq osq
  have S8 := HFF.out.1.below gb (Nat.le_refl _)
  have N8 := HFF.out.2.1.below gb (Nat.le_refl _)
  have L8 := HFF.out.2.2.1.below gb (Nat.le_refl _)
  have Y8 := Y7.below gb Y7.lt
  have bel8 := HFF.out.2.2.2.trans (gb.mono (Nat.le_trans hG6 hs67))
  clear HFF Y7 K7 ky6 y6 hsm gb
  generalize grow (redrawn w7 dq) osq = w8 at *
  obtain ⟨q9, hbk⟩ := qo_tail2 L8 (by omega)
  have y6 : w8.cell? ⟨y, 6, none⟩ = some (.string x.d) := Y8.cell 6
  have hbw : IntKind.i64.wrap ((bts (x :: r) : Nat) - (x.d.size : Int)) = (bts r : Nat) := by rw [IntWalk.i64_in _ (by simp only [bts] at *; omega)]; simp only [bts]; omega
  have hbw2 : ((bts (x :: r) : Nat) : Int) - (x.d.size : Int) = (bts r : Nat) := by simp only [bts]; omega
  have hcl1 : 1 ≤ cl := by omega
  rw [cellsC_drop] at q9
  go_upto_region 37 with fail
  try rw [hbw2]
  rw [Nat.add_sub_cancel] at q9 hbk
  by_cases hc1 : cl = 1
  · rw [if_pos hc1] at q9 hbk
    subst hc1
    rw [Nat.sub_self] at q9 hbk
    obtain rfl : r = [] := List.length_eq_zero_iff.1 (by omega)
    simp only [List.length_nil] at q9 hbk
    go_wp2_with fail
    refine HF.out _ _ _ _ _ _ _ _ _ _ _ _ _ _ _ _ _ _ _ _ _ _ _ _ _ _ _ _ _ _ _ _ _ _ _ _ _ _ _ _ _ _ _ _ _ _ _ _ _ _ _ _ _ _ ⟨P, _, pv, cv', rfl, hP, hpl, by omega, by simp only [bts] at hb ⊢; omega, ⟨S8, N8, q9, D1, ?_, ?_, ?_⟩, bel8⟩
    · intro e
      rcases hbk with h | h
      · rw [h] at e; exact hglg (Option.some.inj e)
      · rw [h] at e; cases e
    · intro k hk
      refine ⟨(D3 k hk).1, fun e => ?_⟩
      rcases hbk with h | h
      · exact (D3 k hk).2 (by rw [hbl, ← e, h])
      · rw [h] at e; cases e
    · intro k hk e
      rcases hbk with h | h
      · exact D4 k hk (by rw [hbl, ← e, h])
      · rw [h] at e; cases e
  · rw [if_neg hc1] at q9 hbk
    go_wp2_with fail
    refine HF.out _ _ _ _ _ _ _ _ _ _ _ _ _ _ _ _ _ _ _ _ _ _ _ _ _ _ _ _ _ _ _ _ _ _ _ _ _ _ _ _ _ _ _ _ _ _ _ _ _ _ _ _ _ _ ⟨P, _, pv, cv', rfl, hP, hpl, by omega, by simp only [bts] at hb ⊢; omega, ⟨S8, N8, q9, D1, ?_, ?_, ?_⟩, bel8⟩
    · intro e
      rcases hbk with h | h
      · rw [h] at e; exact hglg (Option.some.inj e)
      · rw [h] at e; cases e
    · intro k hk
      refine ⟨(D3 k hk).1, fun e => ?_⟩
      rcases hbk with h | h
      · exact (D3 k hk).2 (by rw [hbl, ← e, h])
      · rw [h] at e; cases e
    · intro k hk e
      rcases hbk with h | h
      · exact D4 k hk (by rw [hbl, ← e, h])
      · rw [h] at e; cases e

end Go.Proofs.Ythddacgdmngfhaa.fra
