/- Layer 18: the switch's arms, each over the frame written out (gen-dvk.py wrote this). -/
import Derived.Test.YthddacgdmngfhaaDvJ
namespace Go.Proofs.Ythddacgdmngfhaa.del
open Go.Sort (grow)
open Go.ChangeShapes Go.WideShapes Go.ChangeAt Go.RowKit kit
set_option maxRecDepth 1000000
set_option maxHeartbeats 16000000 in
theorem armR_nil (v0 v1 v2 v3 v4 v5 v8 v9 v10 v11 v12 v13 v14 v15 v16 v17 v18 v19 v20 v21 v22 v23 v24 v25 v26 v27 v28 v29 v30 v31 v32 v33 v34 v35 v36 v37 v38 v39 v40 v41 v42 v43 v44 v45 v46 v47 v48 v49 v50 v51 v52 v53 v54 v55 v56 v57 v58 v59 v60 v61 v62 v63 v64 v65 v66 v67 v68 v69 v70 v71 v72 v73 v74 v75 v76 v77 v78 v79 v80 v81 v82 v83 v84 v85 v86 v87 v88 v89 v90 v91 v92 v93 v94 v95 v96 v97 v98 v99 v100 v101 v102 v103 v104 v105 v106 v107 v108 v109 v110 v111 v112 v113 v114 v115 v116 v117 v118 v119 v120 v121 v122 v123 v124 v125 v126 v127 v128 v129 v130 v131 v132 v133 v134 v135 v136 v137 v138 v139 v140 v141 v142 v143 v144 v145 v146 v147 v148 v149 v150 v151 v152 v153 v154 v155 v156 v157 v158 v159 v160 v161 v162 v163 v164 v165 v166 v167 v168 v169 v170 v171 v172 v173 v174 v175 v176 v177 v178 : Value) {G g qb i : Nat} {sv rv nv wv ov : Value} {Z : List (Nat × Nat)} {W : List Mg} {w0 w : World} (hZ : Z.length ≤ 16) (hdr : Dr Z W) (hi : i < 60) (hlen : W.length + ([] : List Mg).length ≤ i) (hbt : btm W + btm [] ≤ 5 * i) (F5 : Lw G g qb sv rv (btm W + btm []) Z W [] nv wv ov (Z.map (·.1)) W [] w) (bel5 : Below G w0 w)
    (Q : Exit → Act → World → Prop) (hfin : ∀ (u4 u10 u11 u79 u80 u81 u82 u83 u84 u85 u86 u87 u88 u89 u90 u91 u92 u93 u94 u95 u96 u97 u98 u99 u100 u101 u102 u103 u104 u105 : Value) (w' : World), Rn G g qb (i + 1) w0 w' → Q .normal ⟨#[v0, v1, v2, v3, u4, v5, .pointer (some ⟨g, 0, none⟩), .pointer (some ⟨qb, 0, none⟩), v8, v9, u10, u11, v12, v13, v14, v15, v16, v17, v18, v19, v20, v21, v22, v23, v24, v25, v26, v27, v28, v29, v30, v31, v32, v33, v34, v35, v36, v37, v38, v39, v40, v41, v42, v43, v44, v45, v46, v47, v48, v49, v50, v51, v52, v53, v54, v55, v56, v57, v58, v59, v60, v61, v62, v63, v64, v65, v66, v67, v68, v69, v70, v71, v72, v73, v74, v75, v76, v77, v78, u79, u80, u81, u82, u83, u84, u85, u86, u87, u88, u89, u90, u91, u92, u93, u94, u95, u96, u97, u98, u99, u100, u101, u102, u103, u104, u105, v106, v107, v108, v109, v110, v111, v112, v113, v114, v115, v116, v117, v118, v119, v120, v121, v122, v123, v124, v125, v126, v127, v128, v129, v130, v131, v132, v133, v134, v135, v136, v137, v138, v139, v140, v141, v142, v143, v144, v145, v146, v147, v148, v149, v150, v151, v152, v153, v154, v155, v156, v157, v158, v159, v160, v161, v162, v163, v164, v165, v166, v167, v168, v169, v170, v171, v172, v173, v174, v175, v176, v177, v178], []⟩ w') (c : Code) (hc : c = codeR) :
    Code.wp Try.prog c Q ⟨#[v0, v1, v2, v3, v4, v5, .pointer (some ⟨g, 0, none⟩), .pointer (some ⟨qb, 0, none⟩), v8, v9, v10, v11, v12, v13, v14, v15, v16, v17, v18, v19, v20, v21, v22, v23, v24, v25, v26, v27, v28, v29, v30, v31, v32, v33, v34, v35, v36, v37, v38, v39, v40, v41, v42, v43, v44, v45, v46, v47, v48, v49, v50, v51, v52, v53, v54, v55, v56, v57, v58, v59, v60, v61, v62, v63, v64, v65, v66, v67, v68, v69, v70, v71, v72, v73, v74, v75, v76, v77, v78, v79, v80, v81, v82, v83, v84, v85, v86, v87, v88, v89, v90, v91, v92, v93, v94, v95, v96, v97, v98, v99, v100, v101, v102, v103, v104, v105, v106, v107, v108, v109, v110, v111, v112, v113, v114, v115, v116, v117, v118, v119, v120, v121, v122, v123, v124, v125, v126, v127, v128, v129, v130, v131, v132, v133, v134, v135, v136, v137, v138, v139, v140, v141, v142, v143, v144, v145, v146, v147, v148, v149, v150, v151, v152, v153, v154, v155, v156, v157, v158, v159, v160, v161, v162, v163, v164, v165, v166, v167, v168, v169, v170, v171, v172, v173, v174, v175, v176, v177, v178], []⟩ w := by
  subst hc
  conv => arg 2; whnf
  have HF := Lib.hid hfin
  clear hfin
  have hG5 : G ≤ w.heap.size := by have := F5.D.hg; have := F5.D.B.lt; omega
  obtain ⟨oo, co, hov, _, _⟩ := F5.o.shape
  subst hov
  have hrd := dv_read_nil F5.D
  go_wp2_with fail
  refine hrd.mono ?_
  rintro e w6 ⟨rfl, hb6⟩
  have F6 := F5.below hb6 (Nat.le_refl _)
  have bel6 := bel5.trans (hb6.mono hG5)
  have hG6 : G ≤ w6.heap.size := Nat.le_trans hG5 hb6.size
  have al7 := (Below.refl w6.heap.size w6).alloc (Nat.le_refl _) (.cells #[.int .i64 0, .int .i64 0, .bool false, .int .u32 0, .string ⟨#[]⟩] 30)
  have F7 := F6.below al7 (Nat.le_refl _)
  have bel7 := bel6.trans (al7.mono hG6)
  have c2 : (w6.alloc (.cells #[.int .i64 0, .int .i64 0, .bool false, .int .u32 0, .string ⟨#[]⟩] 30)).cell? ⟨qb, 2, none⟩ = some (.slice oo 0 co) := F7.q.cell 2
  clear hrd F5 bel5 hb6 F6 bel6 al7
  go_upto_region 18 with fail
  generalize w6.alloc (.cells #[.int .i64 0, .int .i64 0, .bool false, .int .u32 0, .string ⟨#[]⟩] 30) = w7 at *
  have HFF := Lib.hid (And.intro F7 bel7)
  clear F7 bel7
  go_quiet ((fail))
  have F8 := HFF.out.1.same (w' := w7.drewN nq) rfl
  have bel8 : Below G w0 (w7.drewN nq) := ⟨HFF.out.2.os, HFF.out.2.tape, HFF.out.2.output, HFF.out.2.size, HFF.out.2.block⟩
  have HFG := Lib.hid (And.intro F8 bel8)
  clear HFF F8 bel8 c2
  generalize w7.drewN nq = w8 at *
  go_wp2_with fail
  exact HF.out _ _ _ _ _ _ _ _ _ _ _ _ _ _ _ _ _ _ _ _ _ _ _ _ _ _ _ _ _ _ _ ⟨sv, rv, nv, wv, _, Z, W, [], hZ, by simp at hlen ⊢; omega, by simp only [btm] at hbt ⊢; omega, hdr, HFG.out.1, HFG.out.2⟩
end Go.Proofs.Ythddacgdmngfhaa.del
