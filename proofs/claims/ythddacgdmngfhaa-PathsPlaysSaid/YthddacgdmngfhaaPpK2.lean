/- Layer 15: whatever is done to paths: arm 2 (gen-ppk.py wrote this). -/
import Derived.Test.YthddacgdmngfhaaPpKB
namespace Go.Proofs.Ythddacgdmngfhaa.pat
open Go.Sort (grow)
open Go.ChangeShapes Go.WideShapes Go.ChangeAt Go.RowKit kit
set_option maxRecDepth 1000000
set_option maxHeartbeats 16000000 in
theorem arm2 (v0 v1 v2 v6 v10 v11 v12 v13 v14 v15 v16 v17 v18 v19 v20 v21 v22 v23 v24 v25 v26 v27 v28 v29 v30 v31 v32 v33 v34 v35 v36 v37 v38 v39 v40 v41 v42 v43 v44 v45 v46 v47 v48 v49 v50 v51 v52 v53 v54 v55 v56 v57 v58 v59 v60 v61 v62 v63 v64 v65 v66 v67 v68 v69 v70 v71 v72 v73 v74 v75 v76 v77 v78 v79 v80 v81 v82 v83 v84 v85 v86 v87 v88 v89 v90 v91 v92 v93 v94 v95 v96 v97 v98 v99 v100 v101 v102 v103 v104 v105 v106 v107 v108 v109 v110 v111 v112 v113 v114 v115 v116 v117 v118 v119 v120 v121 v122 v123 v124 v125 v126 v127 v128 v129 v130 v131 v132 v133 v134 v135 v136 v137 v138 v139 v140 v141 v142 v143 v144 v145 v146 v147 v148 v149 v150 v151 v152 v153 v154 v155 v156 v157 v158 v159 v160 v161 v162 v163 v164 v165 v166 v167 v168 v169 v170 v171 v172 v173 v174 v175 v176 v177 v178 v179 v180 v181 v182 v183 v184 v185 v186 v187 v188 v189 v190 v191 v192 v193 v194 v195 v196 v197 v198 v199 v200 v201 v202 v203 v204 v205 v206 v207 v208 v209 v210 v211 v212 v213 v214 v215 v216 v217 v218 v219 v220 v221 v222 v223 v224 v225 v226 v227 v228 v229 v230 v231 v232 : Value) {G0 g ab : Nat} {L : List Px} {f : Nat} {v0' : Value} {oq : Option Addr} {cq : Nat} {aw al ap n : Int} {l p : Nat} {w w6 : World} (hl4 : l ≤ 3) (hp4 : p ≤ 3) (hnb' : -9223372036854775808 ≤ n ∧ n ≤ 9223372036854775807)
    (hab : ∀ j, blkOf v0' = some j ∨ blkOf (.slice oq L.length cq) = some j → j < ab) (hgab : g < ab) (hpb : bits .and .i64 ap 3 = (p : Int)) (hA : Blk w6 ab 117 #[.int .i64 aw, .int .i64 al, .int .i64 ap, .int .i64 n]) (hPS : Ps G0 g L f v0' (.slice oq L.length cq) w w6)
    (Q : Exit → Act → World → Prop) (hfin : ∀ (u2 u5 u199 u200 u201 u202 u203 u204 u205 u206 u207 u208 u209 u210 u211 u212 u213 u214 u215 u216 u217 u218 u219 u220 u221 u222 u223 u224 u225 : Value) (w' : World), Cn G0 g ab #[.int .i64 aw, .int .i64 al, .int .i64 ap, .int .i64 n] w (.slice oq L.length cq) (u5) w' → Q .normal ⟨#[v0, v1, u2, .pointer (some ⟨g, 0, none⟩), .slice oq L.length cq, u5, v6, .pointer (some ⟨ab, 0, none⟩), .int .u32 ((l : Nat) : Int), .int .u32 ((p : Nat) : Int), v10, v11, v12, v13, v14, v15, v16, v17, v18, v19, v20, v21, v22, v23, v24, v25, v26, v27, v28, v29, v30, v31, v32, v33, v34, v35, v36, v37, v38, v39, v40, v41, v42, v43, v44, v45, v46, v47, v48, v49, v50, v51, v52, v53, v54, v55, v56, v57, v58, v59, v60, v61, v62, v63, v64, v65, v66, v67, v68, v69, v70, v71, v72, v73, v74, v75, v76, v77, v78, v79, v80, v81, v82, v83, v84, v85, v86, v87, v88, v89, v90, v91, v92, v93, v94, v95, v96, v97, v98, v99, v100, v101, v102, v103, v104, v105, v106, v107, v108, v109, v110, v111, v112, v113, v114, v115, v116, v117, v118, v119, v120, v121, v122, v123, v124, v125, v126, v127, v128, v129, v130, v131, v132, v133, v134, v135, v136, v137, v138, v139, v140, v141, v142, v143, v144, v145, v146, v147, v148, v149, v150, v151, v152, v153, v154, v155, v156, v157, v158, v159, v160, v161, v162, v163, v164, v165, v166, v167, v168, v169, v170, v171, v172, v173, v174, v175, v176, v177, v178, v179, v180, v181, v182, v183, v184, v185, v186, v187, v188, v189, v190, v191, v192, v193, v194, v195, v196, v197, v198, u199, u200, u201, u202, u203, u204, u205, u206, u207, u208, u209, u210, u211, u212, u213, u214, u215, u216, u217, u218, u219, u220, u221, u222, u223, u224, u225, v226, v227, v228, v229, v230, v231, v232], []⟩ w') (c : Code) (hc : c = code2) :
    Code.wp Try.prog c Q ⟨#[v0, v1, v2, .pointer (some ⟨g, 0, none⟩), .slice oq L.length cq, .int .i64 (f : Nat), v6, .pointer (some ⟨ab, 0, none⟩), .int .u32 ((l : Nat) : Int), .int .u32 ((p : Nat) : Int), v10, v11, v12, v13, v14, v15, v16, v17, v18, v19, v20, v21, v22, v23, v24, v25, v26, v27, v28, v29, v30, v31, v32, v33, v34, v35, v36, v37, v38, v39, v40, v41, v42, v43, v44, v45, v46, v47, v48, v49, v50, v51, v52, v53, v54, v55, v56, v57, v58, v59, v60, v61, v62, v63, v64, v65, v66, v67, v68, v69, v70, v71, v72, v73, v74, v75, v76, v77, v78, v79, v80, v81, v82, v83, v84, v85, v86, v87, v88, v89, v90, v91, v92, v93, v94, v95, v96, v97, v98, v99, v100, v101, v102, v103, v104, v105, v106, v107, v108, v109, v110, v111, v112, v113, v114, v115, v116, v117, v118, v119, v120, v121, v122, v123, v124, v125, v126, v127, v128, v129, v130, v131, v132, v133, v134, v135, v136, v137, v138, v139, v140, v141, v142, v143, v144, v145, v146, v147, v148, v149, v150, v151, v152, v153, v154, v155, v156, v157, v158, v159, v160, v161, v162, v163, v164, v165, v166, v167, v168, v169, v170, v171, v172, v173, v174, v175, v176, v177, v178, v179, v180, v181, v182, v183, v184, v185, v186, v187, v188, v189, v190, v191, v192, v193, v194, v195, v196, v197, v198, v199, v200, v201, v202, v203, v204, v205, v206, v207, v208, v209, v210, v211, v212, v213, v214, v215, v216, v217, v218, v219, v220, v221, v222, v223, v224, v225, v226, v227, v228, v229, v230, v231, v232], []⟩ w6 := by
  subst hc
  conv => arg 2; whnf
  have HFIN := Lib.hid hfin
  have HPB := Lib.hid hpb
  have HA := Lib.hid hA
  have HPS := Lib.hid hPS
  have hgv := hPS.P.hn
  have hfL := hPS.hf
  have hL8 := hPS.h8
  clear hfin hpb hA hPS

  go_upto_region 43 with fail
  have HPD := Lib.hid HPS.out.P.drew
  by_cases hin : 0 ≤ n ∧ n < (L.length : Int)
  · obtain ⟨m, hm⟩ : ∃ m : Nat, n = (m : Int) := ⟨n.toNat, by omega⟩
    have hmL : m < L.length := by omega
    have hch : Calls Try.prog 71 #[.pointer (some ⟨g, 0, none⟩), .int .i64 n] w6.drew fun e w' => e = .returned (.bool true) ∧ Pw G0 g L m v0' w' ∧ Below G0 w6.drew w' ∧ Fr g v0' w6.drew w' := by rw [hm]; exact choose_in HPD.out m hmL
    have HM := Lib.hid hm
    have hge : ∀ v, (binOp .geq 3 (.int .i64 n) (.int .i64 0)).run Try.prog v = .ok (.bool true) v := fun v => by rw [geqI, decide_eq_true (by omega)]
    have hls : ∀ v, (binOp .lss 3 (.int .i64 n) (.int .i64 (L.length : Nat))).run Try.prog v = .ok (.bool true) v := fun v => by rw [lssI, decide_eq_true (by omega)]
    clear hm
    have HS : Blk w6.drew ab 117 #[.int .i64 aw, .int .i64 al, .int .i64 ap, .int .i64 n] := HA.out
    refine wp_region_noPanic ?_
    refine wp_region_held_drew (S := fun v => Blk v ab 117 #[.int .i64 aw, .int .i64 al, .int .i64 ap, .int .i64 n]) (by kernel_rfl) HS (fun _ => ?_)
    refine wpAnyH_abs _ (fun ac hac => ?_)
    have hsz : ac.tmps.size = 233 := by rw [hac]; rfl
    have e3 : ac.eval (.tmp 3) = .pointer (some ⟨g, 0, none⟩) := by rw [hac]; rfl
    have e4 : ac.eval (.tmp 4) = .slice oq L.length cq := by rw [hac]; rfl
    have e7 : ac.eval (.tmp 7) = .pointer (some ⟨ab, 0, none⟩) := by rw [hac]; rfl
    have HB := Lib.hid hac
    clear hac
    have EV := And.intro @Act.eval_put_ne (And.intro @Act.eval_put_same (And.intro @Act.size_put (And.intro hsz (And.intro e3 (And.intro e4 e7)))))
    refine take_run (i := 0) (u := .pointer (some ⟨g, 0, none⟩)) rfl (by kernel_rfl) (by kernel_rfl) (by kernel_rfl) rfl rfl (fun _ _ _ h => h) HS (fun v hv => run_move rfl (by simp [EV]) v) ?_
    refine take_run (i := 1) (u := .pointer (some ⟨ab, 3, none⟩)) rfl (by kernel_rfl) (by kernel_rfl) (by kernel_rfl) rfl rfl (fun _ _ _ h => h) HS (fun v hv => run_field (s := .pointer (some ⟨ab, 0, none⟩)) rfl (by simp [EV]) (by kernel_rfl)) ?_
    refine take_run (i := 2) (u := .int .i64 n) rfl (by kernel_rfl) (by kernel_rfl) (by kernel_rfl) rfl rfl (fun _ _ _ h => h) HS (fun v hv => run_load1 (s := .pointer (some ⟨ab, 3, none⟩)) rfl (by simp [EV]) (by have c : v.cell? ⟨ab, 3, none⟩ = some (.int .i64 n) := Blk.cell hv 3; go_simp)) ?_
    refine take_run (i := 4) (u := .pointer (some ⟨ab, 3, none⟩)) rfl (by kernel_rfl) (by kernel_rfl) (by kernel_rfl) rfl rfl (fun _ _ _ h => h) HS (fun v hv => run_field (s := .pointer (some ⟨ab, 0, none⟩)) rfl (by simp [EV]) (by kernel_rfl)) ?_
    refine take_run (i := 5) (u := .int .i64 n) rfl (by kernel_rfl) (by kernel_rfl) (by kernel_rfl) rfl rfl (fun _ _ _ h => h) HS (fun v hv => run_load1 (s := .pointer (some ⟨ab, 3, none⟩)) rfl (by simp [EV]) (by have c : v.cell? ⟨ab, 3, none⟩ = some (.int .i64 n) := Blk.cell hv 3; go_simp)) ?_
    refine take_run (i := 6) (u := .bool true) rfl (by kernel_rfl) (by kernel_rfl) (by kernel_rfl) rfl rfl (fun _ _ _ h => h) HS (fun v hv => run_ord (s := .int .i64 n) (j := .int .i64 0) rfl (.inl rfl) (by simp [EV]) (by first | rfl | simp [EV]) (hge v)) ?_
    refine step_calls (i := 3) (by kernel_rfl) rfl rfl rfl 71 Try.f71 _ _ rfl Try.func71 (by kernel_rfl) (by kernel_rfl) #[.pointer (some ⟨g, 0, none⟩), .int .i64 n] (by simp [EV]) hch ?_
    rintro e w7 ⟨rfl, P7, b7, F7⟩
    have HS7 : Blk w7 ab 117 #[.int .i64 aw, .int .i64 al, .int .i64 ap, .int .i64 n] := (F7.block ab HS.lt (by omega) (fun e => by have := hab ab (.inl e); omega)).trans HS
    refine ⟨_, rfl, HS7, ?_⟩
    refine take_run (i := 7) (u := .bool true) rfl (by kernel_rfl) (by kernel_rfl) (by kernel_rfl) rfl rfl (fun _ _ _ h => h) HS7 (fun v hv => run_move rfl (by simp [EV]) v) ?_
    refine take_run_g (i := 8) (u := .pointer (some ⟨ab, 3, none⟩)) rfl (by kernel_rfl) (by kernel_rfl) (by kernel_rfl) (wanted_of rfl rfl rfl (bb := true) (by simp [EV])) rfl (fun _ _ _ h => h) HS7 (fun v hv => run_field (s := .pointer (some ⟨ab, 0, none⟩)) rfl (by simp [EV]) (by kernel_rfl)) ?_
    refine take_run_g (i := 9) (u := .int .i64 n) rfl (by kernel_rfl) (by kernel_rfl) (by kernel_rfl) (wanted_of rfl rfl rfl (bb := true) (by simp [EV])) rfl (fun _ _ _ h => h) HS7 (fun v hv => run_load1 (s := .pointer (some ⟨ab, 3, none⟩)) rfl (by simp [EV]) (by have c : v.cell? ⟨ab, 3, none⟩ = some (.int .i64 n) := Blk.cell hv 3; go_simp)) ?_
    refine take_run_g (i := 10) (u := .slice oq L.length cq) rfl (by kernel_rfl) (by kernel_rfl) (by kernel_rfl) (wanted_of rfl rfl rfl (bb := true) (by simp [EV])) rfl (fun _ _ _ h => h) HS7 (fun v hv => run_move rfl (by simp [EV]) v) ?_
    refine take_run_g (i := 11) (u := .int .i64 (L.length : Nat)) rfl (by kernel_rfl) (by kernel_rfl) (by kernel_rfl) (wanted_of rfl rfl rfl (bb := true) (by simp [EV])) rfl (fun _ _ _ h => h) HS7 (fun v hv => run_lens rfl (by simp [EV]) (fun cs => lenS (.bool true) oq L.length cq v cs)) ?_
    refine take_run_g (i := 12) (u := .bool true) rfl (by kernel_rfl) (by kernel_rfl) (by kernel_rfl) (wanted_of rfl rfl rfl (bb := true) (by simp [EV])) rfl (fun _ _ _ h => h) HS7 (fun v hv => run_ord (s := .int .i64 n) (j := .int .i64 (L.length : Nat)) rfl (.inr rfl) (by simp [EV]) (by simp [EV]) (hls v)) ?_
    refine take_run (i := 13) (u := .bool true) rfl (by kernel_rfl) (by kernel_rfl) (by kernel_rfl) rfl rfl (fun _ _ _ h => h) HS7 (fun v hv => run_pick (b := true) rfl (by simp [EV]) (by simp [EV])) ?_
    refine take_run (i := 14) (u := .bool false) rfl (by kernel_rfl) (by kernel_rfl) (by kernel_rfl) rfl rfl (fun _ _ _ h => h) HS7 (fun v hv => run_cmp_bool (p := true) (q := true) rfl (.inl rfl) (by simp [EV]) (by simp [EV]) (neqB _ v)) ?_
    refine wpAnyH_done (by kernel_rfl) ?_ _
    refine NoPanic.normal ?_
    rw [HB.out]
    simp only [Act.put, List.setIfInBounds_toArray, List.set_cons_zero, List.set_cons_succ]
    have PE : Ps G0 g L m v0' (.slice oq L.length cq) w w7 := HPS.out.fr P7 hmL ((Below.refl _ _).drew.trans b7) ((Fr.of_below ((Below.refl w6.heap.size w6).drew)).trans F7) (fun i hi => .inl hi)
    have HE := Lib.hid (And.intro PE HS7)
    have a3 : w7.cell? ⟨ab, 3, none⟩ = some (.int .i64 n) := HS7.cell 3
    have h1 : (0 : Int) ≤ n := by omega
    have h2 : n < (L.length : Int) := by omega
    clear HB EV e3 e4 e7 hsz HS HS7 P7 b7 F7 hge hls HPD PE
    go_wp2_with fail
    exact HFIN.out _ _ _ _ _ _ _ _ _ _ _ _ _ _ _ _ _ _ _ _ _ _ _ _ _ _ _ _ _ _ ⟨L, m, v0', oq, cq, rfl, by rw [HM.out], HE.out.1, HE.out.2⟩
  · have hout : n < 0 ∨ (L.length : Int) ≤ n := by omega
    by_cases hneg : n < 0
    · have hge : ∀ v, (binOp .geq 3 (.int .i64 n) (.int .i64 0)).run Try.prog v = .ok (.bool false) v := fun v => by rw [geqI, decide_eq_false (by omega)]
      have HS : Blk w6.drew ab 117 #[.int .i64 aw, .int .i64 al, .int .i64 ap, .int .i64 n] := HA.out
      refine wp_region_noPanic ?_
      refine wp_region_held_drew (S := fun v => Blk v ab 117 #[.int .i64 aw, .int .i64 al, .int .i64 ap, .int .i64 n]) (by kernel_rfl) HS (fun _ => ?_)
      refine wpAnyH_abs _ (fun ac hac => ?_)
      have hsz : ac.tmps.size = 233 := by rw [hac]; rfl
      have e3 : ac.eval (.tmp 3) = .pointer (some ⟨g, 0, none⟩) := by rw [hac]; rfl
      have e4 : ac.eval (.tmp 4) = .slice oq L.length cq := by rw [hac]; rfl
      have e7 : ac.eval (.tmp 7) = .pointer (some ⟨ab, 0, none⟩) := by rw [hac]; rfl
      have HB := Lib.hid hac
      clear hac
      have EV := And.intro @Act.eval_put_ne (And.intro @Act.eval_put_same (And.intro @Act.size_put (And.intro hsz (And.intro e3 (And.intro e4 e7)))))
      refine take_run (i := 0) (u := .pointer (some ⟨g, 0, none⟩)) rfl (by kernel_rfl) (by kernel_rfl) (by kernel_rfl) rfl rfl (fun _ _ _ h => h) HS (fun v hv => run_move rfl (by simp [EV]) v) ?_
      refine take_run (i := 1) (u := .pointer (some ⟨ab, 3, none⟩)) rfl (by kernel_rfl) (by kernel_rfl) (by kernel_rfl) rfl rfl (fun _ _ _ h => h) HS (fun v hv => run_field (s := .pointer (some ⟨ab, 0, none⟩)) rfl (by simp [EV]) (by kernel_rfl)) ?_
      refine take_run (i := 2) (u := .int .i64 n) rfl (by kernel_rfl) (by kernel_rfl) (by kernel_rfl) rfl rfl (fun _ _ _ h => h) HS (fun v hv => run_load1 (s := .pointer (some ⟨ab, 3, none⟩)) rfl (by simp [EV]) (by have c : v.cell? ⟨ab, 3, none⟩ = some (.int .i64 n) := Blk.cell hv 3; go_simp)) ?_
      refine take_run (i := 4) (u := .pointer (some ⟨ab, 3, none⟩)) rfl (by kernel_rfl) (by kernel_rfl) (by kernel_rfl) rfl rfl (fun _ _ _ h => h) HS (fun v hv => run_field (s := .pointer (some ⟨ab, 0, none⟩)) rfl (by simp [EV]) (by kernel_rfl)) ?_
      refine take_run (i := 5) (u := .int .i64 n) rfl (by kernel_rfl) (by kernel_rfl) (by kernel_rfl) rfl rfl (fun _ _ _ h => h) HS (fun v hv => run_load1 (s := .pointer (some ⟨ab, 3, none⟩)) rfl (by simp [EV]) (by have c : v.cell? ⟨ab, 3, none⟩ = some (.int .i64 n) := Blk.cell hv 3; go_simp)) ?_
      refine take_run (i := 6) (u := .bool false) rfl (by kernel_rfl) (by kernel_rfl) (by kernel_rfl) rfl rfl (fun _ _ _ h => h) HS (fun v hv => run_ord (s := .int .i64 n) (j := .int .i64 0) rfl (.inl rfl) (by simp [EV]) (by first | rfl | simp [EV]) (hge v)) ?_
      refine step_calls (i := 3) (by kernel_rfl) rfl rfl rfl 71 Try.f71 _ _ rfl Try.func71 (by kernel_rfl) (by kernel_rfl) #[.pointer (some ⟨g, 0, none⟩), .int .i64 n] (by simp [EV]) (choose_out HPD.out _ hout) ?_
      rintro e w7 ⟨rfl, hw7⟩
      obtain rfl := hw7
      have HS7 := HS
      refine ⟨_, rfl, HS7, ?_⟩
      refine take_run (i := 7) (u := .bool false) rfl (by kernel_rfl) (by kernel_rfl) (by kernel_rfl) rfl rfl (fun _ _ _ h => h) HS7 (fun v hv => run_move rfl (by simp [EV]) v) ?_
      refine take_skip (i := 8) rfl (by kernel_rfl) (by kernel_rfl) (by kernel_rfl) (unwanted_of (bb := true) (cc := false) rfl rfl rfl (by simp [EV]) rfl) rfl (fun _ _ _ h => h) HS7 ?_
      refine take_skip (i := 9) rfl (by kernel_rfl) (by kernel_rfl) (by kernel_rfl) (unwanted_of (bb := true) (cc := false) rfl rfl rfl (by simp [EV]) rfl) rfl (fun _ _ _ h => h) HS7 ?_
      refine take_skip (i := 10) rfl (by kernel_rfl) (by kernel_rfl) (by kernel_rfl) (unwanted_of (bb := true) (cc := false) rfl rfl rfl (by simp [EV]) rfl) rfl (fun _ _ _ h => h) HS7 ?_
      refine take_skip (i := 11) rfl (by kernel_rfl) (by kernel_rfl) (by kernel_rfl) (unwanted_of (bb := true) (cc := false) rfl rfl rfl (by simp [EV]) rfl) rfl (fun _ _ _ h => h) HS7 ?_
      refine take_skip (i := 12) rfl (by kernel_rfl) (by kernel_rfl) (by kernel_rfl) (unwanted_of (bb := true) (cc := false) rfl rfl rfl (by simp [EV]) rfl) rfl (fun _ _ _ h => h) HS7 ?_
      refine take_run (i := 13) (u := .bool false) rfl (by kernel_rfl) (by kernel_rfl) (by kernel_rfl) rfl rfl (fun _ _ _ h => h) HS7 (fun v hv => run_pick (b := false) rfl (by simp [EV]) rfl) ?_
      refine take_run (i := 14) (u := .bool false) rfl (by kernel_rfl) (by kernel_rfl) (by kernel_rfl) rfl rfl (fun _ _ _ h => h) HS7 (fun v hv => run_cmp_bool (p := false) (q := false) rfl (.inl rfl) (by simp [EV]) (by simp [EV]) (neqB _ v)) ?_
      refine wpAnyH_done (by kernel_rfl) ?_ _
      refine NoPanic.normal ?_
      rw [HB.out]
      simp only [Act.put, List.setIfInBounds_toArray, List.set_cons_zero, List.set_cons_succ]
      have HE := Lib.hid (And.intro (HPS.out.below (Below.refl _ _).drew (Nat.le_refl _)) HS7)
      have a3 : w6.drew.cell? ⟨ab, 3, none⟩ = some (.int .i64 n) := HS7.cell 3
      have h1 : ¬ (0 : Int) ≤ n := by omega
      clear HB EV e3 e4 e7 hsz HS HS7 hge HPD
      go_wp2_with fail
      exact HFIN.out _ _ _ _ _ _ _ _ _ _ _ _ _ _ _ _ _ _ _ _ _ _ _ _ _ _ _ _ _ _ ⟨L, f, v0', oq, cq, rfl, rfl, HE.out.1, HE.out.2⟩
    · have hge : ∀ v, (binOp .geq 3 (.int .i64 n) (.int .i64 0)).run Try.prog v = .ok (.bool true) v := fun v => by rw [geqI, decide_eq_true (by omega)]
      have hls : ∀ v, (binOp .lss 3 (.int .i64 n) (.int .i64 (L.length : Nat))).run Try.prog v = .ok (.bool false) v := fun v => by rw [lssI, decide_eq_false (by omega)]
      have HS : Blk w6.drew ab 117 #[.int .i64 aw, .int .i64 al, .int .i64 ap, .int .i64 n] := HA.out
      refine wp_region_noPanic ?_
      refine wp_region_held_drew (S := fun v => Blk v ab 117 #[.int .i64 aw, .int .i64 al, .int .i64 ap, .int .i64 n]) (by kernel_rfl) HS (fun _ => ?_)
      refine wpAnyH_abs _ (fun ac hac => ?_)
      have hsz : ac.tmps.size = 233 := by rw [hac]; rfl
      have e3 : ac.eval (.tmp 3) = .pointer (some ⟨g, 0, none⟩) := by rw [hac]; rfl
      have e4 : ac.eval (.tmp 4) = .slice oq L.length cq := by rw [hac]; rfl
      have e7 : ac.eval (.tmp 7) = .pointer (some ⟨ab, 0, none⟩) := by rw [hac]; rfl
      have HB := Lib.hid hac
      clear hac
      have EV := And.intro @Act.eval_put_ne (And.intro @Act.eval_put_same (And.intro @Act.size_put (And.intro hsz (And.intro e3 (And.intro e4 e7)))))
      refine take_run (i := 0) (u := .pointer (some ⟨g, 0, none⟩)) rfl (by kernel_rfl) (by kernel_rfl) (by kernel_rfl) rfl rfl (fun _ _ _ h => h) HS (fun v hv => run_move rfl (by simp [EV]) v) ?_
      refine take_run (i := 1) (u := .pointer (some ⟨ab, 3, none⟩)) rfl (by kernel_rfl) (by kernel_rfl) (by kernel_rfl) rfl rfl (fun _ _ _ h => h) HS (fun v hv => run_field (s := .pointer (some ⟨ab, 0, none⟩)) rfl (by simp [EV]) (by kernel_rfl)) ?_
      refine take_run (i := 2) (u := .int .i64 n) rfl (by kernel_rfl) (by kernel_rfl) (by kernel_rfl) rfl rfl (fun _ _ _ h => h) HS (fun v hv => run_load1 (s := .pointer (some ⟨ab, 3, none⟩)) rfl (by simp [EV]) (by have c : v.cell? ⟨ab, 3, none⟩ = some (.int .i64 n) := Blk.cell hv 3; go_simp)) ?_
      refine take_run (i := 4) (u := .pointer (some ⟨ab, 3, none⟩)) rfl (by kernel_rfl) (by kernel_rfl) (by kernel_rfl) rfl rfl (fun _ _ _ h => h) HS (fun v hv => run_field (s := .pointer (some ⟨ab, 0, none⟩)) rfl (by simp [EV]) (by kernel_rfl)) ?_
      refine take_run (i := 5) (u := .int .i64 n) rfl (by kernel_rfl) (by kernel_rfl) (by kernel_rfl) rfl rfl (fun _ _ _ h => h) HS (fun v hv => run_load1 (s := .pointer (some ⟨ab, 3, none⟩)) rfl (by simp [EV]) (by have c : v.cell? ⟨ab, 3, none⟩ = some (.int .i64 n) := Blk.cell hv 3; go_simp)) ?_
      refine take_run (i := 6) (u := .bool true) rfl (by kernel_rfl) (by kernel_rfl) (by kernel_rfl) rfl rfl (fun _ _ _ h => h) HS (fun v hv => run_ord (s := .int .i64 n) (j := .int .i64 0) rfl (.inl rfl) (by simp [EV]) (by first | rfl | simp [EV]) (hge v)) ?_
      refine step_calls (i := 3) (by kernel_rfl) rfl rfl rfl 71 Try.f71 _ _ rfl Try.func71 (by kernel_rfl) (by kernel_rfl) #[.pointer (some ⟨g, 0, none⟩), .int .i64 n] (by simp [EV]) (choose_out HPD.out _ hout) ?_
      rintro e w7 ⟨rfl, hw7⟩
      obtain rfl := hw7
      have HS7 := HS
      refine ⟨_, rfl, HS7, ?_⟩
      refine take_run (i := 7) (u := .bool true) rfl (by kernel_rfl) (by kernel_rfl) (by kernel_rfl) rfl rfl (fun _ _ _ h => h) HS7 (fun v hv => run_move rfl (by simp [EV]) v) ?_
      refine take_run_g (i := 8) (u := .pointer (some ⟨ab, 3, none⟩)) rfl (by kernel_rfl) (by kernel_rfl) (by kernel_rfl) (wanted_of rfl rfl rfl (bb := true) (by simp [EV])) rfl (fun _ _ _ h => h) HS7 (fun v hv => run_field (s := .pointer (some ⟨ab, 0, none⟩)) rfl (by simp [EV]) (by kernel_rfl)) ?_
      refine take_run_g (i := 9) (u := .int .i64 n) rfl (by kernel_rfl) (by kernel_rfl) (by kernel_rfl) (wanted_of rfl rfl rfl (bb := true) (by simp [EV])) rfl (fun _ _ _ h => h) HS7 (fun v hv => run_load1 (s := .pointer (some ⟨ab, 3, none⟩)) rfl (by simp [EV]) (by have c : v.cell? ⟨ab, 3, none⟩ = some (.int .i64 n) := Blk.cell hv 3; go_simp)) ?_
      refine take_run_g (i := 10) (u := .slice oq L.length cq) rfl (by kernel_rfl) (by kernel_rfl) (by kernel_rfl) (wanted_of rfl rfl rfl (bb := true) (by simp [EV])) rfl (fun _ _ _ h => h) HS7 (fun v hv => run_move rfl (by simp [EV]) v) ?_
      refine take_run_g (i := 11) (u := .int .i64 (L.length : Nat)) rfl (by kernel_rfl) (by kernel_rfl) (by kernel_rfl) (wanted_of rfl rfl rfl (bb := true) (by simp [EV])) rfl (fun _ _ _ h => h) HS7 (fun v hv => run_lens rfl (by simp [EV]) (fun cs => lenS (.bool true) oq L.length cq v cs)) ?_
      refine take_run_g (i := 12) (u := .bool false) rfl (by kernel_rfl) (by kernel_rfl) (by kernel_rfl) (wanted_of rfl rfl rfl (bb := true) (by simp [EV])) rfl (fun _ _ _ h => h) HS7 (fun v hv => run_ord (s := .int .i64 n) (j := .int .i64 (L.length : Nat)) rfl (.inr rfl) (by simp [EV]) (by simp [EV]) (hls v)) ?_
      refine take_run (i := 13) (u := .bool false) rfl (by kernel_rfl) (by kernel_rfl) (by kernel_rfl) rfl rfl (fun _ _ _ h => h) HS7 (fun v hv => run_pick (b := true) rfl (by simp [EV]) (by simp [EV])) ?_
      refine take_run (i := 14) (u := .bool false) rfl (by kernel_rfl) (by kernel_rfl) (by kernel_rfl) rfl rfl (fun _ _ _ h => h) HS7 (fun v hv => run_cmp_bool (p := false) (q := false) rfl (.inl rfl) (by simp [EV]) (by simp [EV]) (neqB _ v)) ?_
      refine wpAnyH_done (by kernel_rfl) ?_ _
      refine NoPanic.normal ?_
      rw [HB.out]
      simp only [Act.put, List.setIfInBounds_toArray, List.set_cons_zero, List.set_cons_succ]
      have HE := Lib.hid (And.intro (HPS.out.below (Below.refl _ _).drew (Nat.le_refl _)) HS7)
      have a3 : w6.drew.cell? ⟨ab, 3, none⟩ = some (.int .i64 n) := HS7.cell 3
      have h1 : (0 : Int) ≤ n := by omega
      have h2 : ¬ n < (L.length : Int) := by omega
      clear HB EV e3 e4 e7 hsz HS HS7 hge hls HPD
      go_wp2_with fail
      exact HFIN.out _ _ _ _ _ _ _ _ _ _ _ _ _ _ _ _ _ _ _ _ _ _ _ _ _ _ _ _ _ _ ⟨L, f, v0', oq, cq, rfl, rfl, HE.out.1, HE.out.2⟩
end Go.Proofs.Ythddacgdmngfhaa.pat
