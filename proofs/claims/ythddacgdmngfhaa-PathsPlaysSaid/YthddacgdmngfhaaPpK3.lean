/- Layer 15: whatever is done to paths: arm 3 (gen-ppk.py wrote this). -/
import Derived.Test.YthddacgdmngfhaaPpKB
namespace Go.Proofs.Ythddacgdmngfhaa.pat
open Go.Sort (grow)
open Go.ChangeShapes Go.WideShapes Go.ChangeAt Go.RowKit kit
set_option maxRecDepth 1000000
set_option maxHeartbeats 16000000 in
theorem arm3 (v0 v1 v2 v6 v10 v11 v12 v13 v14 v15 v16 v17 v18 v19 v20 v21 v22 v23 v24 v25 v26 v27 v28 v29 v30 v31 v32 v33 v34 v35 v36 v37 v38 v39 v40 v41 v42 v43 v44 v45 v46 v47 v48 v49 v50 v51 v52 v53 v54 v55 v56 v57 v58 v59 v60 v61 v62 v63 v64 v65 v66 v67 v68 v69 v70 v71 v72 v73 v74 v75 v76 v77 v78 v79 v80 v81 v82 v83 v84 v85 v86 v87 v88 v89 v90 v91 v92 v93 v94 v95 v96 v97 v98 v99 v100 v101 v102 v103 v104 v105 v106 v107 v108 v109 v110 v111 v112 v113 v114 v115 v116 v117 v118 v119 v120 v121 v122 v123 v124 v125 v126 v127 v128 v129 v130 v131 v132 v133 v134 v135 v136 v137 v138 v139 v140 v141 v142 v143 v144 v145 v146 v147 v148 v149 v150 v151 v152 v153 v154 v155 v156 v157 v158 v159 v160 v161 v162 v163 v164 v165 v166 v167 v168 v169 v170 v171 v172 v173 v174 v175 v176 v177 v178 v179 v180 v181 v182 v183 v184 v185 v186 v187 v188 v189 v190 v191 v192 v193 v194 v195 v196 v197 v198 v199 v200 v201 v202 v203 v204 v205 v206 v207 v208 v209 v210 v211 v212 v213 v214 v215 v216 v217 v218 v219 v220 v221 v222 v223 v224 v225 v226 v227 v228 v229 v230 v231 v232 : Value) {G0 g ab : Nat} {L : List Px} {f : Nat} {v0' : Value} {oq : Option Addr} {cq : Nat} {aw al ap n : Int} {l p : Nat} {w w6 : World} (hl4 : l ≤ 3) (hp4 : p ≤ 3) (hnb' : -9223372036854775808 ≤ n ∧ n ≤ 9223372036854775807)
    (hab : ∀ j, blkOf v0' = some j ∨ blkOf (.slice oq L.length cq) = some j → j < ab) (hgab : g < ab) (hpb : bits .and .i64 ap 3 = (p : Int)) (hA : Blk w6 ab 117 #[.int .i64 aw, .int .i64 al, .int .i64 ap, .int .i64 n]) (hPS : Ps G0 g L f v0' (.slice oq L.length cq) w w6)
    (Q : Exit → Act → World → Prop) (hfin : ∀ (u2 u4 u17 u18 u49 u50 u51 u52 u53 u54 u55 u56 u57 u58 u59 u60 u61 u62 u63 u64 u65 u66 u67 u68 u69 u70 u71 u72 u73 u74 u75 u76 u77 u78 u79 u80 u81 u82 u83 u84 u85 u86 u87 u88 u89 u90 u91 u92 u93 u94 u95 u96 : Value) (w' : World), Cn G0 g ab #[.int .i64 aw, .int .i64 al, .int .i64 ap, .int .i64 n] w (u4) (.int .i64 (f : Nat)) w' → Q .normal ⟨#[v0, v1, u2, .pointer (some ⟨g, 0, none⟩), u4, .int .i64 (f : Nat), v6, .pointer (some ⟨ab, 0, none⟩), .int .u32 ((l : Nat) : Int), .int .u32 ((p : Nat) : Int), v10, v11, v12, v13, v14, v15, v16, u17, u18, v19, v20, v21, v22, v23, v24, v25, v26, v27, v28, v29, v30, v31, v32, v33, v34, v35, v36, v37, v38, v39, v40, v41, v42, v43, v44, v45, v46, v47, v48, u49, u50, u51, u52, u53, u54, u55, u56, u57, u58, u59, u60, u61, u62, u63, u64, u65, u66, u67, u68, u69, u70, u71, u72, u73, u74, u75, u76, u77, u78, u79, u80, u81, u82, u83, u84, u85, u86, u87, u88, u89, u90, u91, u92, u93, u94, u95, u96, v97, v98, v99, v100, v101, v102, v103, v104, v105, v106, v107, v108, v109, v110, v111, v112, v113, v114, v115, v116, v117, v118, v119, v120, v121, v122, v123, v124, v125, v126, v127, v128, v129, v130, v131, v132, v133, v134, v135, v136, v137, v138, v139, v140, v141, v142, v143, v144, v145, v146, v147, v148, v149, v150, v151, v152, v153, v154, v155, v156, v157, v158, v159, v160, v161, v162, v163, v164, v165, v166, v167, v168, v169, v170, v171, v172, v173, v174, v175, v176, v177, v178, v179, v180, v181, v182, v183, v184, v185, v186, v187, v188, v189, v190, v191, v192, v193, v194, v195, v196, v197, v198, v199, v200, v201, v202, v203, v204, v205, v206, v207, v208, v209, v210, v211, v212, v213, v214, v215, v216, v217, v218, v219, v220, v221, v222, v223, v224, v225, v226, v227, v228, v229, v230, v231, v232], []⟩ w') (c : Code) (hc : c = code3) :
    Code.wp Try.prog c Q ⟨#[v0, v1, v2, .pointer (some ⟨g, 0, none⟩), .slice oq L.length cq, .int .i64 (f : Nat), v6, .pointer (some ⟨ab, 0, none⟩), .int .u32 ((l : Nat) : Int), .int .u32 ((p : Nat) : Int), v10, v11, v12, v13, v14, v15, v16, v17, v18, v19, v20, v21, v22, v23, v24, v25, v26, v27, v28, v29, v30, v31, v32, v33, v34, v35, v36, v37, v38, v39, v40, v41, v42, v43, v44, v45, v46, v47, v48, v49, v50, v51, v52, v53, v54, v55, v56, v57, v58, v59, v60, v61, v62, v63, v64, v65, v66, v67, v68, v69, v70, v71, v72, v73, v74, v75, v76, v77, v78, v79, v80, v81, v82, v83, v84, v85, v86, v87, v88, v89, v90, v91, v92, v93, v94, v95, v96, v97, v98, v99, v100, v101, v102, v103, v104, v105, v106, v107, v108, v109, v110, v111, v112, v113, v114, v115, v116, v117, v118, v119, v120, v121, v122, v123, v124, v125, v126, v127, v128, v129, v130, v131, v132, v133, v134, v135, v136, v137, v138, v139, v140, v141, v142, v143, v144, v145, v146, v147, v148, v149, v150, v151, v152, v153, v154, v155, v156, v157, v158, v159, v160, v161, v162, v163, v164, v165, v166, v167, v168, v169, v170, v171, v172, v173, v174, v175, v176, v177, v178, v179, v180, v181, v182, v183, v184, v185, v186, v187, v188, v189, v190, v191, v192, v193, v194, v195, v196, v197, v198, v199, v200, v201, v202, v203, v204, v205, v206, v207, v208, v209, v210, v211, v212, v213, v214, v215, v216, v217, v218, v219, v220, v221, v222, v223, v224, v225, v226, v227, v228, v229, v230, v231, v232], []⟩ w6 := by
  subst hc
  conv => arg 2; whnf
  have HFIN := Lib.hid hfin
  have HPB := Lib.hid hpb
  have HA := Lib.hid hA
  have HPS := Lib.hid hPS
  have hgv := hPS.P.hn
  have hfL := hPS.hf
  have hL8 := hPS.h8
  clear hfin hpb hA hPS
  dsimp only
  have hL0 : 0 < L.length := by omega
  obtain ⟨r, hr⟩ : ∃ r, n.tmod (L.length : Int) = r := ⟨_, rfl⟩
  have hrb : r.natAbs < L.length := by
    rw [← hr, Int.natAbs_tmod, Int.natAbs_natCast]
    exact Nat.mod_lt _ hL0
  obtain ⟨kk, hkk⟩ : ∃ kk : Nat, (r + (L.length : Int)) % (L.length : Int) = (kk : Int) := ⟨((r + (L.length : Int)) % (L.length : Int)).toNat, by
    have := Int.emod_nonneg (r + (L.length : Int)) (show (L.length : Int) ≠ 0 by omega)
    omega⟩
  have hkl : kk < L.length := by
    have := Int.emod_lt_of_pos (r + (L.length : Int)) (show (0 : Int) < (L.length : Int) by omega)
    omega
  have hkt : (r + (L.length : Int)).tmod (L.length : Int) = (kk : Int) := by rw [Int.tmod_eq_emod_of_nonneg (by omega)]; exact hkk
  have hw1 : wrap64 (r + (L.length : Int)) = r + (L.length : Int) := by unfold wrap64; omega
  have hw2 : IntKind.i64.wrap (r + (L.length : Int)) = r + (L.length : Int) := IntWalk.i64_in _ (by omega)
  have hne : ¬ (L.length : Int) = 0 := by omega
  have hnm1 : ¬ (L.length : Int) = -1 := by omega
  have a3 : w6.cell? ⟨ab, 3, none⟩ = some (.int .i64 n) := HA.out.cell 3
  have a2 : w6.cell? ⟨ab, 2, none⟩ = some (.int .i64 ap) := HA.out.cell 2
  go_upto_region 10 with fail
  go_cut [17] from 49 to 59 (fun s wx => s = .int .i64 (kk : Nat) ∧ wx = w6)
  case first =>
    go_wp2_with fail
    go_meet
    exact ⟨by first | rfl | (congr 1), rfl⟩
  case rest =>
  obtain ⟨rfl, hwc⟩ := hcut
  obtain rfl : w6 = wc := hwc.symm
  clear hkt hw1 hw2 hkk hr hrb hne hnm1 a3 a2
  have hk0 : (0 : Int) ≤ (kk : Int) := by omega
  have hk1 : (kk : Int) < (L.length : Int) := by omega
  obtain ⟨x, hx⟩ : ∃ x, L[kk]? = some x := ⟨_, List.getElem?_eq_getElem hkl⟩
  have hxb := HPS.out.hx x (List.mem_of_getElem? hx)
  obtain ⟨hh, off, rfl, hhl, _, hblk, X⟩ := row_at HPS.out.q rfl hx
  have szX : (Try.prog.info? 113).map (·.size) = some (#[.int .u32 x.a, .int .u32 x.b, .int .i64 x.s, .int .i64 0, .int .i64 0, .int .i64 0, .int .i64 30, .bool false, .int .i64 1800, .int .i64 60000, .int .i64 0, .int .i64 0, .int .i64 0, .int .u32 0, .int .i64 0] : Array Value).size := by show _ = some 15; kernel_rfl
  go_upto_region 12 with (refine wpList_load_at rfl 113 _ rfl hh (off + kk * 15) rfl #[.int .u32 x.a, .int .u32 x.b, .int .i64 x.s, .int .i64 0, .int .i64 0, .int .i64 0, .int .i64 30, .bool false, .int .i64 1800, .int .i64 60000, .int .i64 0, .int .i64 0, .int .i64 0, .int .u32 0, .int .i64 0] _ X Try.underlying113 rfl szX ?_)
  have al7 := (Below.refl w6.heap.size w6).alloc (Nat.le_refl _) (.cells #[.int .u32 x.a, .int .u32 x.b, .int .i64 x.s, .int .i64 0, .int .i64 0, .int .i64 0, .int .i64 30, .bool false, .int .i64 1800, .int .i64 60000, .int .i64 0, .int .i64 0, .int .i64 0, .int .u32 0, .int .i64 0] 113)
  have X7 : Blk (w6.alloc (.cells #[.int .u32 x.a, .int .u32 x.b, .int .i64 x.s, .int .i64 0, .int .i64 0, .int .i64 0, .int .i64 30, .bool false, .int .i64 1800, .int .i64 60000, .int .i64 0, .int .i64 0, .int .i64 0, .int .u32 0, .int .i64 0] 113)) w6.heap.size 113 #[.int .u32 x.a, .int .u32 x.b, .int .i64 x.s, .int .i64 0, .int .i64 0, .int .i64 0, .int .i64 30, .bool false, .int .i64 1800, .int .i64 60000, .int .i64 0, .int .i64 0, .int .i64 0, .int .u32 0, .int .i64 0] := Blk.new w6 113 #[.int .u32 x.a, .int .u32 x.b, .int .i64 x.s, .int .i64 0, .int .i64 0, .int .i64 0, .int .i64 30, .bool false, .int .i64 1800, .int .i64 60000, .int .i64 0, .int .i64 0, .int .i64 0, .int .u32 0, .int .i64 0]
  have A7 := HA.out.below al7 HA.out.lt
  have habl : ab < w6.heap.size := HA.out.lt
  clear X
  obtain ⟨w7, hw7⟩ : ∃ w7, w6.alloc (.cells #[.int .u32 x.a, .int .u32 x.b, .int .i64 x.s, .int .i64 0, .int .i64 0, .int .i64 0, .int .i64 30, .bool false, .int .i64 1800, .int .i64 60000, .int .i64 0, .int .i64 0, .int .i64 0, .int .u32 0, .int .i64 0] 113) = w7 := ⟨_, rfl⟩
  rw [hw7] at al7 X7 A7
  try rw [hw7]
  clear hw7
  obtain ⟨xb, hxb'⟩ : ∃ xb, w6.heap.size = xb := ⟨_, rfl⟩
  have HXB := Lib.hid hxb'
  rw [hxb'] at X7 al7 habl
  try rw [hxb']
  clear hxb'
  have a2 : w7.cell? ⟨ab, 2, none⟩ = some (.int .i64 ap) := A7.cell 2
  have x2 : w7.cell? ⟨xb, 2, none⟩ = some (.int .i64 x.s) := X7.cell 2
  have xf : w7.frozen? ⟨xb, 2, none⟩ = false := X7.frozen 2
  obtain ⟨s, hs⟩ : ∃ s : Nat, p % 3 = s := ⟨_, rfl⟩
  have hs1 : ((p : Nat) : Int).tmod 3 = (s : Int) := by rw [← hs]; exact (Int.ofNat_tmod p 3).symm
  have hs2 : ((p : Nat) : Int) % 3 = (s : Int) := by rw [← hs]; omega
  have hpb := HPB.out
  go_upto_region 13 with fail
  clear hs1 hs2 hpb a2 x2 xf hs
  have X8 : Blk (w7.setCell ⟨xb, 2, none⟩ (.int .i64 (s : Nat))) xb 113 (px ⟨x.a, x.b, s⟩) := X7.set_ 2 (.int .i64 (s : Nat))
  have b8 := al7.setCell (p := ⟨xb, 2, none⟩) (Nat.le_refl _) (.int .i64 (s : Nat))
  clear X7 A7 al7
  obtain ⟨w8, hw8⟩ : ∃ w8, w7.setCell ⟨xb, 2, none⟩ (.int .i64 (s : Nat)) = w8 := ⟨_, rfl⟩
  rw [hw8] at X8 b8
  try rw [hw8]
  clear hw8
  obtain ⟨i0, hi0, hz0, hz1, hz2⟩ := info_parts infoP
  have hq8 := HPS.out.q.below b8 (by rw [HXB.out]; exact Nat.le_refl _)
  have al9 := (Below.refl w8.heap.size w8).alloc (Nat.le_refl _) (.cells #[] 113)
  have hs9 := al9.size
  obtain ⟨v9, w9, hr9, q9, gr9, ha9⟩ := qo_append (P := Try.prog) (t := 115) (ty := 115) Try.underlying115 hi0 hz0 hz1 hz2 rfl (Qo.empty (w8.alloc (.cells #[] 113)) w8.heap.size 15 (some ⟨w8.heap.size, 0, none⟩)) ((hq8.below al9 (Nat.le_refl _)).src Try.underlying115 (cellsX_one L)) (by unfold maxLen; omega) (by omega) hs9
  have b9 : Below w8.heap.size w8 w9 := al9.grown gr9 hs9 (fun k hk => by rw [blkOf_zero] at hk; cases hk)
  rw [List.nil_append, Nat.zero_add] at q9
  obtain ⟨h9, o9, c9, hv9, _, _, hb9, hl9, hblk9, _⟩ := q9.show_ hL0
  subst hv9
  try rw [Nat.zero_add] at hr9
  have X9 := X8.below b9 X8.lt
  have bel9 := b8.trans (b9.mono (by have := b8.size; rw [HXB.out] at this; exact this))
  have hx8 : xb < w8.heap.size := X8.lt
  obtain ⟨h9', o9', he9, _, _, _, Y9⟩ := row_at q9 rfl hx
  cases he9
  clear X8 b8 al9 hs9 gr9 ha9 b9 hi0 hz0 hz1 hz2 hq8
  have szY : (Try.prog.info? 113).map (·.size) = some (px ⟨x.a, x.b, s⟩).size := szP
  go_upto_region 15 with (first | (at_builtin; refine wpList_append_q rfl _ _ _ rfl rfl rfl hr9 ?_) | (refine wpList_load_at rfl 113 _ rfl xb 0 rfl #[.int .u32 x.a, .int .u32 x.b, .int .i64 (s : Nat), .int .i64 0, .int .i64 0, .int .i64 0, .int .i64 30, .bool false, .int .i64 1800, .int .i64 60000, .int .i64 0, .int .i64 0, .int .i64 0, .int .u32 0, .int .i64 0] _ (Cel.of_blk X9) Try.underlying113 rfl szY ?_) | (refine wpList_store_at rfl 113 _ _ rfl h9 (o9 + kk * 15) #[.int .u32 x.a, .int .u32 x.b, .int .i64 (s : Nat), .int .i64 0, .int .i64 0, .int .i64 0, .int .i64 30, .bool false, .int .i64 1800, .int .i64 60000, .int .i64 0, .int .i64 0, .int .i64 0, .int .u32 0, .int .i64 0] rfl rfl (px x) Y9 szY rfl (oneP x.a x.b s) ?_))
  clear hr9
  have hLs : (L.set kk ⟨x.a, x.b, s⟩).length = L.length := List.length_set
  have q10 : Qo (w9.setCells h9 (o9 + kk * 15) #[.int .u32 x.a, .int .u32 x.b, .int .i64 (s : Nat), .int .i64 0, .int .i64 0, .int .i64 0, .int .i64 30, .bool false, .int .i64 1800, .int .i64 60000, .int .i64 0, .int .i64 0, .int .i64 0, .int .u32 0, .int .i64 0].toList) w8.heap.size 15 (.slice (some ⟨h9, o9, none⟩) L.length c9) L.length (cellsX (L.set kk ⟨x.a, x.b, s⟩)) := by
    rw [cellsX_set _ L kk hkl]
    exact qo_setCells _ _ _ _ q9 (by show kk * 15 + 15 ≤ _; omega)
  have X10 := blk_setCells X9 (show xb ≠ h9 by omega) (o9 + kk * 15) #[.int .u32 x.a, .int .u32 x.b, .int .i64 (s : Nat), .int .i64 0, .int .i64 0, .int .i64 0, .int .i64 30, .bool false, .int .i64 1800, .int .i64 60000, .int .i64 0, .int .i64 0, .int .i64 0, .int .u32 0, .int .i64 0].toList
  have bel10 : Below xb w6 (w9.setCells h9 (o9 + kk * 15) #[.int .u32 x.a, .int .u32 x.b, .int .i64 (s : Nat), .int .i64 0, .int .i64 0, .int .i64 0, .int .i64 30, .bool false, .int .i64 1800, .int .i64 60000, .int .i64 0, .int .i64 0, .int .i64 0, .int .u32 0, .int .i64 0].toList) := below_setCells bel9 (by omega) _ _
  clear q9 X9 bel9 Y9
  obtain ⟨w10, hw10⟩ : ∃ w10, w9.setCells h9 (o9 + kk * 15) #[.int .u32 x.a, .int .u32 x.b, .int .i64 (s : Nat), .int .i64 0, .int .i64 0, .int .i64 0, .int .i64 30, .bool false, .int .i64 1800, .int .i64 60000, .int .i64 0, .int .i64 0, .int .i64 0, .int .u32 0, .int .i64 0].toList = w10 := ⟨_, rfl⟩
  rw [hw10] at q10 X10 bel10
  try rw [hw10]
  clear hw10
  have hxe : w6.heap.size ≤ xb := by rw [HXB.out]; exact Nat.le_refl _
  have P10 := HPS.out.P.below bel10 hxe
  have A10 := HA.out.below bel10 habl
  have hG6 : G0 ≤ w6.heap.size := by have := HPS.out.P.B.lt; have := HPS.out.P.hg; omega
  have hG10 : G0 ≤ w10.heap.size := Nat.le_trans hG6 bel10.size
  have hset := set_ok P10 hG10 hx ⟨x.a, x.b, s⟩ rfl rfl
  have hq10l := fun i (hi : blkOf (.slice (some ⟨h9, o9, none⟩) L.length c9) = some i) => q10.lt hi
  have HZ := Lib.hid (And.intro q10 (And.intro A10 (And.intro bel10 hxb)))
  clear P10 A10 q10 bel10
  go_wp2_with (refine wpList_load_at rfl 113 _ rfl xb 0 rfl #[.int .u32 x.a, .int .u32 x.b, .int .i64 (s : Nat), .int .i64 0, .int .i64 0, .int .i64 0, .int .i64 30, .bool false, .int .i64 1800, .int .i64 60000, .int .i64 0, .int .i64 0, .int .i64 0, .int .u32 0, .int .i64 0] _ (Cel.of_blk X10) Try.underlying113 rfl szY ?_)
  refine hset.mono ?_
  rintro e w11 ⟨rfl, P11, b11, F11⟩
  have habv := fun j (hj : blkOf v0' = some j) => (show j < xb from by rw [← HXB.out]; exact (HPS.out.P.q.lt hj).2)
  have X11 : Blk w11 xb 113 (px ⟨x.a, x.b, s⟩) := (F11.block xb X10.lt (by omega) (fun e => by have := habv xb e; omega)).trans X10
  have q11 := HZ.out.1.block F11.size fun i hi => F11.block i (hq10l i hi).2 (fun e => by have := (hq10l i hi).1; omega) (fun e => by have := (hq10l i hi).1; have := habv i e; omega)
  have A11 : Blk w11 ab 117 #[.int .i64 aw, .int .i64 al, .int .i64 ap, .int .i64 n] := (F11.block ab HZ.out.2.1.lt (by omega) (fun e => by have := hab ab (.inl e); omega)).trans HZ.out.2.1
  have hx11 : (L.set kk ⟨x.a, x.b, s⟩)[kk]? = some ⟨x.a, x.b, s⟩ := List.getElem?_set_self hkl
  have xc0 : w11.cell? ⟨xb, 0, none⟩ = some (.int .u32 x.a) := X11.cell 0
  have xc1 : w11.cell? ⟨xb, 1, none⟩ = some (.int .u32 x.b) := X11.cell 1
  have wb1 : IntKind.u32.wrap (x.b + 100) = x.b + 100 := by show (x.b + 100) % 4294967296 = _; have := HZ.out.2.2.2; omega
  have wb2 : (x.b + 100) % 4294967296 = x.b + 100 := by have := HZ.out.2.2.2; omega
  have hno := set_no P11 hx11 x.a (x.b + 100) (fun h => by have h2 : x.b = x.b + 100 := h.2; omega)
  have PE : Ps G0 g (L.set kk ⟨x.a, x.b, s⟩) f v0' (.slice (some ⟨h9, o9, none⟩) (L.set kk ⟨x.a, x.b, s⟩).length c9) w w11 := by
    rw [hLs]
    refine ⟨P11, by rw [hLs]; exact q11.weaken (by omega), fun e => by have := (hq10l g e).1; omega, fun i hi e => by have := habv i hi; have := (hq10l i e).1; omega, by rw [hLs]; exact hfL, by rw [hLs]; exact hL8, fun y hy => ?_, (HPS.out.bel.trans (HZ.out.2.2.1.mono (by omega))).trans b11⟩
    rcases List.mem_or_eq_of_mem_set hy with h | h
    · exact HPS.out.hx y h
    · rw [h]; exact HZ.out.2.2.2
  have HE := Lib.hid (And.intro PE (And.intro A11 (And.intro P11 X11)))
  clear PE A11 P11 q11 F11 b11 X10 hset
  go_wp2_with fail
  refine hno.mono ?_
  rintro e w12 ⟨rfl, b12⟩
  have X12 := HE.out.2.2.2.below b12 HE.out.2.2.2.lt
  have P12 := HE.out.2.2.1.below b12 (Nat.le_refl _)
  have hout := set_out P12 (-1) (.inl (by decide)) (px ⟨x.a, x.b, s⟩)
  have PE12 := HE.out.1.below b12 (Nat.le_refl _)
  have A12 := HE.out.2.1.below b12 HE.out.2.1.lt
  clear b12 P12 hno xc0 xc1 wb1 wb2
  have y0 : w12.cell? ⟨xb, 0, none⟩ = some (.int .u32 x.a) := X12.cell 0
  have y1 : w12.cell? ⟨xb, 1, none⟩ = some (.int .u32 x.b) := X12.cell 1
  have y2 : w12.cell? ⟨xb, 2, none⟩ = some (.int .i64 (s : Nat)) := X12.cell 2
  have y3 : w12.cell? ⟨xb, 3, none⟩ = some (.int .i64 0) := X12.cell 3
  have y4 : w12.cell? ⟨xb, 4, none⟩ = some (.int .i64 0) := X12.cell 4
  have y5 : w12.cell? ⟨xb, 5, none⟩ = some (.int .i64 0) := X12.cell 5
  have y6 : w12.cell? ⟨xb, 6, none⟩ = some (.int .i64 30) := X12.cell 6
  have y7 : w12.cell? ⟨xb, 7, none⟩ = some (.bool false) := X12.cell 7
  have y8 : w12.cell? ⟨xb, 8, none⟩ = some (.int .i64 1800) := X12.cell 8
  have y9 : w12.cell? ⟨xb, 9, none⟩ = some (.int .i64 60000) := X12.cell 9
  have y10 : w12.cell? ⟨xb, 10, none⟩ = some (.int .i64 0) := X12.cell 10
  have y11 : w12.cell? ⟨xb, 11, none⟩ = some (.int .i64 0) := X12.cell 11
  have y12 : w12.cell? ⟨xb, 12, none⟩ = some (.int .i64 0) := X12.cell 12
  have y13 : w12.cell? ⟨xb, 13, none⟩ = some (.int .u32 0) := X12.cell 13
  have y14 : w12.cell? ⟨xb, 14, none⟩ = some (.int .i64 0) := X12.cell 14
  go_wp2_with fail
  refine hout.mono ?_
  rintro e w13 ⟨rfl, b13⟩
  have HF := Lib.hid (And.intro (PE12.below b13 (Nat.le_refl _)) (A12.below b13 A12.lt))
  clear b13 PE12 A12 X12 hout y0 y1 y2 y3 y4 y5 y6 y7 y8 y9 y10 y11 y12 y13 y14
  go_wp2_with fail
  exact HFIN.out _ _ _ _ _ _ _ _ _ _ _ _ _ _ _ _ _ _ _ _ _ _ _ _ _ _ _ _ _ _ _ _ _ _ _ _ _ _ _ _ _ _ _ _ _ _ _ _ _ _ _ _ _ ⟨L.set kk ⟨x.a, x.b, s⟩, f, v0', some ⟨h9, o9, none⟩, c9, by rw [hLs], rfl, HF.out.1, HF.out.2⟩
end Go.Proofs.Ythddacgdmngfhaa.pat
