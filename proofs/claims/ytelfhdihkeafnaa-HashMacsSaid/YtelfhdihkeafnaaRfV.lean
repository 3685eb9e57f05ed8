/- The reference of a sum: its blocks. -/
import Derived.Test.YtelfhdihkeafnaaRfS
import Derived.Test.YtelfhdihkeafnaaRfU
namespace Go.Proofs.Ytelfhdihkeafnaa
open Go.RowKit

theorem Rf.alloc_cell (w : World) (o : Obj) (p : Addr) (v : Value) (h : w.cell? p = some v) : (w.alloc o).cell? p = some v := (World.cell?_alloc_lt _ _ _ (block_lt_of_cell h)).trans h
theorem Rf.Cel.ofFn {W : World} {g n : Nat} (h : W.heap[g]? = some (.cells (Hs.fn n (fun _ => .int .u64 0)) 48 (0, 0))) : Rf.Cel W g n (fun _ => 0) :=
  ⟨fun _ hj => (Hs.Blk.cell (T := 48) (c := fun _ => .int .u64 0) h hj), fun _ => Rf.frozen_of h, (Array.getElem?_eq_some_iff.1 h).1⟩
theorem Rf.blk_eq (κ : Nat) (h : κ < 2) : Hs.blk κ = 16 * (Hs.K κ).wb ∧ (Hs.K κ).n = 8 * (Hs.K κ).wb ∧ ((Hs.K κ).wb = 4 ∨ (Hs.K κ).wb = 8) := by rcases Rf.kκ κ h with rfl | rfl <;> decide
def Rf.l8 (f : Nat → Nat) : List Nat := (List.range 8).map f
theorem Rf.l8_get (f : Nat → Nat) (j : Nat) (hj : j < 8) : (Rf.l8 f).getD j 0 = f j := by simp [Rf.l8, List.getD_eq_getElem?_getD, hj]
theorem Rf.l8_new {W : World} {g : Nat} {f : Nat → Nat} (h : Rf.Dig W g 8 f) : ∀ j u, ((Rf.l8 f).map Rf.qv)[j]? = some u → W.cell? ((⟨g, 0, none⟩ : Addr).add j) = some u := by
  intro j u hu
  have hj : j < 8 := by have := (List.getElem?_eq_some_iff.1 hu).1; simpa [Rf.l8] using this
  have e : ((⟨g, 0, none⟩ : Addr).add j) = ⟨g, j, none⟩ := by unfold Addr.add; split <;> simp_all
  rw [e, h.cell j hj]
  simp [Rf.l8, hj, Rf.qv] at hu
  rw [← hu]
set_option maxHeartbeats 1000000 in
set_option maxRecDepth 100000 in
theorem Rf.l2b (w : World) (κ : Nat) (hκ : κ < 2) (n rd wd : Nat) (hn : (Hs.K κ).n = n) (hrd : (Hs.K κ).rounds = rd) (hwd : (Hs.K κ).wb = wd) (q gK cK gb lb cb gs cs T : Nat) (vF : Value) {u0 u1 u3 u4 u9 u10 u11 u12 u13 u14 u15 u16 u17 u18 u19 u20 u21 u22 u23 u24 u25 u26 u27 u28 u29 u30 u31 u32 u33 u34 u35 u36 u37 u38 u39 u40 u41 u42 u43 u44 u45 u46 u47 u48 u49 u50 u51 u52 u53 u54 u55 u56 u57 u58 u59 u60 u61 u62 u63 u64 u65 u66 u67 u68 u69 u70 u71 u72 u73 u74 u75 u76 u77 u78 u79 u80 u81 u82 u83 u84 u85 u86 u87 u88 u89 u90 u91 u92 u93 u94 u95 u96 u97 u98 u99 u100 u101 u102 u103 u104 u105 u106 u107 u108 u109 u110 u111 u112 u113 u114 u115 u116 u117 u118 u119 u120 u121 u122 u123 u124 u125 u126 u127 u128 u129 u130 u131 u132 u133 u134 u135 u136 u137 u138 u139 u140 u141 u142 u143 u144 u145 u146 u147 u148 u149 u150 u151 u152 u153 u154 u155 u156 u157 u158 u159 u160 u161 u162 u163 u164 u165 u166 u167 u168 u169 u170 u171 u172 u173 u174 u175 u176 u177 u178 u179 u180 u181 u182 u183 u184 u185 u186 u187 u188 u189 u190 u191 u192 u193 u194 u195 u196 u197 u198 u199 u200 u201 u202 u203 u204 u205 u206 u207 u208 u209 u210 u211 u212 u213 u214 u215 u216 u217 u218 u219 u220 u221 u222 u223 u224 u225 u226 u227 u228 u229 u230 u231 u232 u233 u234 u235 u236 u237 u238 u239 u240 u241 u242 u243 u244 u245 u246 u247 u248 u249 u250 u251 u252 u253 u254 u255 u256 u257 u258 u259 u260 u261 u262 u263 u264 u265 u266 u267 u268 u269 u270 u271 u272 u273 u274 u275 u276 u277 u278 u279 u280 u281 u282 u283 u284 u285 u286 u287 u288 u289 u290 u291 u292 u293 u294 u295 u296 u297 u298 u299 u300 u301 u302 u303 u304 u305 u306 u307 u308 u309 u310 u311 u312 u313 u314 u315 u316 u317 u318 u319 u320 u321 u322 u323 u324 u325 u326 u327 u328 u329 u330 u331 u332 u333 u334 u335 u336 u337 u338 u339 : Value} (Q0 : Exit → Act → World → Prop) (m : List UInt8)
    (hkb : w.heap[q]? = some (.cells (Rf.kc κ (.slice (some ⟨gK, 0, none⟩) rd cK) vF) 34 (0, 0))) (hlb : lb ≤ 140737488355328) (hT : lb = T * Hs.blk κ) (hK : Rf.Dig w gK rd (Rf.kk κ)) (hb : ∀ j, j < lb → w.cell? ⟨gb, j, none⟩ = some (.int .u8 ((m.getD j 0).toNat : Int))) (hbl : gb < w.heap.size)
    (hqs : q ≠ gs)
    (t a : Nat) (ht : t ≤ T) (hat : a = t * Hs.blk κ) (hC : Rf.Cel w gs 8 (Hs.after κ m t).get)
    (hk : t < T → ∀ (v9 v10 v11 v12 v13 v14 v15 v16 v17 v18 v19 v20 v21 v56 v57 v58 v59 v60 v61 v62 v63 v64 v65 v66 v67 v68 v69 v70 v71 v72 v73 v74 v75 v76 v77 v78 v79 v80 v81 v82 v83 v84 v85 v86 v87 v88 v89 v90 v91 v92 v93 v94 v95 v96 v97 v98 v99 v100 v101 v102 v103 v104 v105 v106 v107 v108 v109 v110 v111 v112 v113 v114 v115 v116 v117 v118 v119 v120 v121 v122 v123 v124 v125 v126 v127 v128 v129 v130 v131 v132 v133 v134 v135 v136 v137 v138 v139 v140 v141 v142 v143 v144 v145 v146 v147 v148 v149 v150 v151 v152 v153 v154 v155 v156 v157 v158 v159 v160 v161 v162 v163 v164 v165 v166 v167 v168 v169 v170 v171 v172 v173 v174 v175 v176 v177 v178 v179 v180 v181 v182 v183 v184 v185 v186 v187 v188 v189 v190 v191 v192 v193 v194 v195 v196 v197 v198 v199 v200 v201 v202 v203 v204 v205 v206 v207 v208 v209 v210 v211 v212 v213 v214 v215 v216 v217 v218 v219 v220 v221 v222 v223 v224 v225 v226 v227 v228 v229 v230 v231 v232 v233 v234 v235 v236 v237 v238 v239 v240 v241 v242 v243 v244 v245 v246 v247 v248 v249 v250 v251 v252 v253 v254 v255 v256 v257 v258 v259 v260 v261 v262 v263 v264 v265 v266 v267 v268 v269 v270 v271 v272 v273 v274 v275 v276 v277 v278 v279 v280 v281 v282 v283 v284 v285 v286 v287 v288 v289 v290 v291 v292 v293 v294 v295 v296 v297 v298 v299 v300 v301 v302 v303 v304 v305 v306 v307 v308 v309 v310 v311 v312 v313 v314 v315 v316 v317 v318 v319 v320 v321 : Value) (a2 : Nat) (W : World), a2 = (t + 1) * Hs.blk κ → Hs.But gs w W → Rf.Cel W gs 8 (Hs.after κ m (t + 1)).get → Q0 .normal ⟨#[u0, u1, .pointer (some ⟨q, 0, none⟩), u3, u4, .int .i64 (wd : Int), .slice (some ⟨gb, 0, none⟩) lb cb, .slice (some ⟨gs, 0, none⟩) 8 cs, .int .i64 (a2 : Int), v9, v10, v11, v12, v13, v14, v15, v16, v17, v18, v19, v20, v21, u22, u23, u24, u25, u26, u27, u28, u29, u30, u31, u32, u33, u34, u35, u36, u37, u38, u39, u40, u41, u42, u43, u44, u45, u46, u47, u48, u49, u50, u51, u52, u53, u54, u55, v56, v57, v58, v59, v60, v61, v62, v63, v64, v65, v66, v67, v68, v69, v70, v71, v72, v73, v74, v75, v76, v77, v78, v79, v80, v81, v82, v83, v84, v85, v86, v87, v88, v89, v90, v91, v92, v93, v94, v95, v96, v97, v98, v99, v100, v101, v102, v103, v104, v105, v106, v107, v108, v109, v110, v111, v112, v113, v114, v115, v116, v117, v118, v119, v120, v121, v122, v123, v124, v125, v126, v127, v128, v129, v130, v131, v132, v133, v134, v135, v136, v137, v138, v139, v140, v141, v142, v143, v144, v145, v146, v147, v148, v149, v150, v151, v152, v153, v154, v155, v156, v157, v158, v159, v160, v161, v162, v163, v164, v165, v166, v167, v168, v169, v170, v171, v172, v173, v174, v175, v176, v177, v178, v179, v180, v181, v182, v183, v184, v185, v186, v187, v188, v189, v190, v191, v192, v193, v194, v195, v196, v197, v198, v199, v200, v201, v202, v203, v204, v205, v206, v207, v208, v209, v210, v211, v212, v213, v214, v215, v216, v217, v218, v219, v220, v221, v222, v223, v224, v225, v226, v227, v228, v229, v230, v231, v232, v233, v234, v235, v236, v237, v238, v239, v240, v241, v242, v243, v244, v245, v246, v247, v248, v249, v250, v251, v252, v253, v254, v255, v256, v257, v258, v259, v260, v261, v262, v263, v264, v265, v266, v267, v268, v269, v270, v271, v272, v273, v274, v275, v276, v277, v278, v279, v280, v281, v282, v283, v284, v285, v286, v287, v288, v289, v290, v291, v292, v293, v294, v295, v296, v297, v298, v299, v300, v301, v302, v303, v304, v305, v306, v307, v308, v309, v310, v311, v312, v313, v314, v315, v316, v317, v318, v319, v320, v321, u322, u323, u324, u325, u326, u327, u328, u329, u330, u331, u332, u333, u334, u335, u336, u337, u338, u339], []⟩ W)
    (he : t = T → ∀ (v56 v57 v58 v59 : Value), Q0 (.exit 2) ⟨#[u0, u1, .pointer (some ⟨q, 0, none⟩), u3, u4, .int .i64 (wd : Int), .slice (some ⟨gb, 0, none⟩) lb cb, .slice (some ⟨gs, 0, none⟩) 8 cs, .int .i64 (a : Int), u9, u10, u11, u12, u13, u14, u15, u16, u17, u18, u19, u20, u21, u22, u23, u24, u25, u26, u27, u28, u29, u30, u31, u32, u33, u34, u35, u36, u37, u38, u39, u40, u41, u42, u43, u44, u45, u46, u47, u48, u49, u50, u51, u52, u53, u54, u55, v56, v57, v58, v59, u60, u61, u62, u63, u64, u65, u66, u67, u68, u69, u70, u71, u72, u73, u74, u75, u76, u77, u78, u79, u80, u81, u82, u83, u84, u85, u86, u87, u88, u89, u90, u91, u92, u93, u94, u95, u96, u97, u98, u99, u100, u101, u102, u103, u104, u105, u106, u107, u108, u109, u110, u111, u112, u113, u114, u115, u116, u117, u118, u119, u120, u121, u122, u123, u124, u125, u126, u127, u128, u129, u130, u131, u132, u133, u134, u135, u136, u137, u138, u139, u140, u141, u142, u143, u144, u145, u146, u147, u148, u149, u150, u151, u152, u153, u154, u155, u156, u157, u158, u159, u160, u161, u162, u163, u164, u165, u166, u167, u168, u169, u170, u171, u172, u173, u174, u175, u176, u177, u178, u179, u180, u181, u182, u183, u184, u185, u186, u187, u188, u189, u190, u191, u192, u193, u194, u195, u196, u197, u198, u199, u200, u201, u202, u203, u204, u205, u206, u207, u208, u209, u210, u211, u212, u213, u214, u215, u216, u217, u218, u219, u220, u221, u222, u223, u224, u225, u226, u227, u228, u229, u230, u231, u232, u233, u234, u235, u236, u237, u238, u239, u240, u241, u242, u243, u244, u245, u246, u247, u248, u249, u250, u251, u252, u253, u254, u255, u256, u257, u258, u259, u260, u261, u262, u263, u264, u265, u266, u267, u268, u269, u270, u271, u272, u273, u274, u275, u276, u277, u278, u279, u280, u281, u282, u283, u284, u285, u286, u287, u288, u289, u290, u291, u292, u293, u294, u295, u296, u297, u298, u299, u300, u301, u302, u303, u304, u305, u306, u307, u308, u309, u310, u311, u312, u313, u314, u315, u316, u317, u318, u319, u320, u321, u322, u323, u324, u325, u326, u327, u328, u329, u330, u331, u332, u333, u334, u335, u336, u337, u338, u339], []⟩ w) : Code.wp Try.prog Rf.lp2 Q0 ⟨#[u0, u1, .pointer (some ⟨q, 0, none⟩), u3, u4, .int .i64 (wd : Int), .slice (some ⟨gb, 0, none⟩) lb cb, .slice (some ⟨gs, 0, none⟩) 8 cs, .int .i64 (a : Int), u9, u10, u11, u12, u13, u14, u15, u16, u17, u18, u19, u20, u21, u22, u23, u24, u25, u26, u27, u28, u29, u30, u31, u32, u33, u34, u35, u36, u37, u38, u39, u40, u41, u42, u43, u44, u45, u46, u47, u48, u49, u50, u51, u52, u53, u54, u55, u56, u57, u58, u59, u60, u61, u62, u63, u64, u65, u66, u67, u68, u69, u70, u71, u72, u73, u74, u75, u76, u77, u78, u79, u80, u81, u82, u83, u84, u85, u86, u87, u88, u89, u90, u91, u92, u93, u94, u95, u96, u97, u98, u99, u100, u101, u102, u103, u104, u105, u106, u107, u108, u109, u110, u111, u112, u113, u114, u115, u116, u117, u118, u119, u120, u121, u122, u123, u124, u125, u126, u127, u128, u129, u130, u131, u132, u133, u134, u135, u136, u137, u138, u139, u140, u141, u142, u143, u144, u145, u146, u147, u148, u149, u150, u151, u152, u153, u154, u155, u156, u157, u158, u159, u160, u161, u162, u163, u164, u165, u166, u167, u168, u169, u170, u171, u172, u173, u174, u175, u176, u177, u178, u179, u180, u181, u182, u183, u184, u185, u186, u187, u188, u189, u190, u191, u192, u193, u194, u195, u196, u197, u198, u199, u200, u201, u202, u203, u204, u205, u206, u207, u208, u209, u210, u211, u212, u213, u214, u215, u216, u217, u218, u219, u220, u221, u222, u223, u224, u225, u226, u227, u228, u229, u230, u231, u232, u233, u234, u235, u236, u237, u238, u239, u240, u241, u242, u243, u244, u245, u246, u247, u248, u249, u250, u251, u252, u253, u254, u255, u256, u257, u258, u259, u260, u261, u262, u263, u264, u265, u266, u267, u268, u269, u270, u271, u272, u273, u274, u275, u276, u277, u278, u279, u280, u281, u282, u283, u284, u285, u286, u287, u288, u289, u290, u291, u292, u293, u294, u295, u296, u297, u298, u299, u300, u301, u302, u303, u304, u305, u306, u307, u308, u309, u310, u311, u312, u313, u314, u315, u316, u317, u318, u319, u320, u321, u322, u323, u324, u325, u326, u327, u328, u329, u330, u331, u332, u333, u334, u335, u336, u337, u338, u339], []⟩ w := by
  have HK := Lib.hid hk
  have HB := Lib.hid hb
  have hql : q < w.heap.size := (Array.getElem?_eq_some_iff.1 hkb).1
  obtain ⟨hb1, hb2, hb3⟩ := Rf.blk_eq κ hκ
  have hr := Rf.rd_ok κ hκ
  have hAL := Hs.after_lt κ m
  have hwl := fun B i (h : i < 16) => Hs.words_low (Hs.K κ) B i h
  rw [hwd, hn] at hwl
  rw [hn] at hAL
  rw [hwd] at hb1 hb2 hb3
  rw [hn] at hb2
  rw [hrd] at hr
  obtain ⟨bk, hbk⟩ : ∃ bk, Hs.blk κ = bk := ⟨_, rfl⟩
  rw [hbk] at hb1 hT
  have HM := Lib.hid (And.intro hAL (And.intro hbk (And.intro hwl hT)))
  have hbk1 : 64 ≤ bk ∧ bk ≤ 128 := by omega
  have H1 := Lib.hid (And.intro hb1 (And.intro hb2 hb3))
  have w16 : wrap64 (16 * (wd : Int)) = (bk : Int) := by unfold wrap64; omega
  have w16b : IntKind.i64.wrap (16 * (wd : Int)) = (bk : Int) := by rw [IntWalk.i64_in _ (by omega)]; omega
  have w16c : 16 * (wd : Int) = (bk : Int) := by omega
  have H16 := Lib.hid (And.intro w16 (And.intro w16b w16c))
  clear w16 w16b
  have hr80 := hr.2
  have HE := Lib.hid he
  rw [hbk] at hat
  have hale : a ≤ lb := by rw [hat, hT]; exact Nat.mul_le_mul_right _ ht
  have c1 := (cell_of_row w q 1 _ _ _ hkb).trans (show (Rf.kc κ (.slice (some ⟨gK, 0, none⟩) rd cK) vF)[1]? = some (.int .i64 (rd : Int)) by rw [← hrd]; rfl)
  clear hk he hb hAL hwl hbk hT hb1 hb2 hb3 w16c
  obtain ⟨w2, rfl⟩ : ∃ w2, w2 = w := ⟨_, rfl⟩
  have kb2 := hkb
  have hK2 := hK
  have hbl2 := hbl
  have hql2 := hql
  conv => arg 2; whnf
  dsimp only
  by_cases htT : t < T
  · have hnxt : a + bk ≤ lb := by
      have h1 : (t + 1) * bk ≤ T * bk := Nat.mul_le_mul_right _ htT
      rw [Nat.add_mul, Nat.one_mul, ← hat, ← HM.out.2.2.2] at h1
      exact h1
    have hiz : (a : Int) < (lb : Int) := by omega
    obtain ⟨a2, ha2⟩ : ∃ a2, a + bk = a2 := ⟨_, rfl⟩
    have wa : (a : Int) + (bk : Int) = (a2 : Int) := by omega
    have wab : (a2 : Int) ≤ 9223372036854775807 := by omega
    have HA2 := Lib.hid ha2
    rw [ha2] at hnxt
    have HC := Lib.hid (And.intro hC hat)
    clear hC hat ha2
    go_wp2_with (at_make; refine Rf.wpList_make rfl _ _ rfl rd rd rfl rfl (Nat.le_refl _) (by omega) ?_)
    have hw0 : Rf.Cel (w2.alloc (.cells (Hs.fn rd (fun _ => .int .u64 0)) 48)) w2.heap.size rd (fun _ => 0) := Rf.Cel.ofFn (heap_alloc_new _ _)
    have hB3 : Below w2.heap.size w2 (w2.alloc (.cells (Hs.fn rd (fun _ => .int .u64 0)) 48)) := (Below.refl _ _).alloc (Nat.le_refl _) _
    obtain ⟨gw, hgw⟩ : ∃ gw, w2.heap.size = gw := ⟨_, rfl⟩
    rw [hgw] at hw0 hB3 hbl2 hql2 ⊢
    have hgs2 : gs < gw := hgw ▸ HC.out.1.lt
    have hgK2 : gK < gw := hgw ▸ hK2.lt
    have HG := Lib.hid hgw
    generalize w2.alloc (.cells (Hs.fn rd (fun _ => .int .u64 0)) 48) = w3 at hw0 hB3 ⊢
    obtain ⟨B, hBd⟩ : ∃ B : Nat → Nat, B = fun j => (m.getD (a + j) 0).toNat := ⟨_, rfl⟩
    have hBl : ∀ j, B j < 256 := fun j => by rw [hBd]; exact UInt8.toNat_lt _
    have HBB := Lib.hid (And.intro hBd hBl)
    clear hBl c1 hgw
    refine Rf.l3 (n := n) (m := m) (B := B) (hBe := fun j => by rw [HBB.out.1]) (hn := H1.out.2.1) (hwd := H1.out.2.2) (hrd := hr) (hlb := by omega) (hat := by have := H1.out.1; have := HA2.out; omega) (hbw := by omega) (hbl := by have := hB3.size; omega) (hb := fun j hj => (hB3.cell (p := ⟨gb, j, none⟩) hbl2).trans (HB.out j hj)) (hf := hw0) (hk := ?_)
    intro v10 v11 v67 v68 v69 v70 v71 v72 v73 v74 v75 v76 v77 v78 v79 v80 v81 v82 v83 v84 v85 v86 v87 v88 v89 v90 v91 v92 v93 v94 v95 w4 hBut4 hC4
    have hB4 := hB3.trans (hBut4.toBelow (Nat.le_refl _) (Nat.le_trans (Nat.le_refl _) hB3.size |> fun h => by have := HG.out; omega))
    have hC4 := hC4.congr (f' := fun j => if j < 16 then (Hs.words (Hs.K κ) B).getD j 0 else 0) (fun j _ => by
      by_cases h : j < 16
      · rw [if_pos h, if_pos h, HM.out.2.2.1 B j h]
      · rw [if_neg h, if_neg h])
    have kb4 := (hB4.block q hql2).trans kb2
    clear hw0 hBut4 hBd
    go_wp2_with fail
    refine Rf.l5 (κ := κ) (hκ := hκ) (hn := hn) (hrd := hrd) (hkb := kb4) (hB := HBB.out.2) (hqw := by omega) (hf := hC4) (hk := ?_)
    intro v12 v13 v14 v96 v97 v98 v99 v100 v101 v102 v103 v104 v105 v106 v107 v108 v109 v110 v111 v112 v113 v114 v115 v116 v117 v118 v119 v120 v121 v122 v123 v124 v125 v126 v127 v128 v129 v130 v131 v132 v133 v134 v135 v136 v137 v138 v139 v140 v141 v142 v143 v144 v145 v146 v147 v148 v149 v150 v151 v152 v153 v154 v155 v156 v157 v158 v159 v160 v161 v162 v163 v164 v165 v166 v167 w5 hBut5 hC5
    have hB5 := hB4.trans (hBut5.toBelow (Nat.le_refl _) (by have := hB4.size; have := HG.out; omega))
    have kb5 := (hB5.block q hql2).trans kb2
    have hS5 := HC.out.1.to (hB5.block gs hgs2)
    have hz5 : gw ≤ w5.heap.size := by have := hB5.size; have := HG.out; omega
    clear kb4 hC4 hBut5
    obtain ⟨l, hl⟩ : ∃ l, Rf.l8 (Hs.after κ m t).get = l := ⟨_, rfl⟩
    have hnew := Rf.l8_new hS5.dig
    have hl8 : l.length = 8 := by rw [← hl]; simp [Rf.l8]
    rw [hl] at hnew
    have HN := Lib.hid (And.intro hnew (And.intro hl8 hl))
    clear hnew hl8 hl
    go_wp2_with (at_builtin; refine Rf.appendQ rfl _ _ rfl w5.heap.size _ [] rfl (Rf.OwnQ.empty _ _ (Nat.le_refl _)) ⟨gs, 0, none⟩ cs l (by rw [HN.out.2.1]; rfl) (fun j u hu => (Rf.alloc_cell _ _ _ _ (HN.out.1 j u hu))) (by rw [HN.out.2.1]; simp) (by simp) ?_; intro v6 w6 O6 b6 z6)
    rw [List.nil_append] at O6
    obtain ⟨gv, cv, hv6, hgv⟩ := O6.at (by rw [HN.out.2.1]; decide)
    have hD6 : Rf.Dig w6 gv 8 (Hs.after κ m t).get := by
      rw [hv6] at O6
      rcases O6.cell with h | h
      · rw [HN.out.2.1] at h
        refine ⟨fun j hj => (h.cell j hj).trans ?_, h.lt⟩
        show some (Value.int IntKind.u64 ((l.getD j 0 : Nat) : Int)) = _
        rw [← HN.out.2.2, Rf.l8_get _ _ hj]
      · have := HN.out.2.1; rw [h] at this; simp at this
    rw [HN.out.2.1] at hv6
    subst hv6
    have hB6a : Below w5.heap.size w5 w6 := ((Below.refl _ _).alloc (Nat.le_refl _) _).trans b6
    have hB6 := hB5.trans (hB6a.mono hz5)
    have kb6 := (hB6.block q hql2).trans kb2
    have hgvs : gv ≠ gs := by omega
    have hz6 : gw ≤ w6.heap.size := by have := hB6.size; have := HG.out; omega
    have hC6 := hC5.below hB6a
    clear kb5 hC5 hS5 O6 b6 z6
    go_wp2_with fail
    refine Rf.l6 (κ := κ) (hκ := hκ) (hn := hn) (hrd := hrd) (cv := cv) (gs := gs) (V := Hs.after κ m t) (hkb := kb6) (hB := HBB.out.2) (hV := HM.out.1 t) (hv := hD6) (hf := hC6.dig) (hK := hK2.below hB6 hgK2) (hvs := hgvs) (hsl := by omega) (hk := ?_)
    intro v16 v17 v18 v19 v20 v171 v172 v173 v174 v175 v176 v177 v178 v179 v180 v181 v182 v183 v184 v185 v186 v187 v188 v189 v190 v191 v192 v193 v194 v195 v196 v197 v198 v199 v200 v201 v202 v203 v204 v205 v206 v207 v208 v209 v210 v211 v212 v213 v214 v215 v216 v217 v218 v219 v220 v221 v222 v223 v224 v225 v226 v227 v228 v229 v230 v231 v232 v233 v234 v235 v236 v237 v238 v239 v240 v241 v242 v243 v244 v245 v246 v247 v248 v249 v250 v251 v252 v253 v254 v255 v256 v257 v258 v259 v260 v261 v262 v263 v264 v265 v266 v267 v268 v269 v270 v271 v272 v273 v274 v275 v276 v277 v278 v279 v280 v281 v282 v283 v284 v285 v286 v287 v288 v289 v290 v291 v292 v293 v294 v295 v296 v297 v298 v299 v300 v301 v302 v303 gn cn w7 hB7a hgn hD7
    have hB7 := hB6.trans (hB7a.mono hz6)
    have kb7 := (hB7.block q hql2).trans kb2
    have hS7 := HC.out.1.to (hB7.block gs hgs2)
    clear kb6 hC6 hD6 hgvs
    go_wp2_with fail
    refine Rf.l7 (n := n) (hR := Rf.kc_size _ _ _) (hkb := kb7) (hn := hn ▸ Rf.n_or κ hκ) (h0 := by rw [← hn]; rfl) (hs := hS7) (hv := hD7) (hqs := hqs) (hvs := hgn) (hk := ?_)
    intro v21 v304 v305 v306 v307 v308 v309 v310 v311 v312 v313 v314 v315 v316 v317 v318 v319 v320 v321 w8 hBut8 hC8
    have hstep : ∀ j, ((Hs.after κ m t).get j + (Hs.rounds (Hs.K κ) Hs.rk (Hs.words (Hs.K κ) B) (Hs.after κ m t)).get j) % 2 ^ n = (Hs.after κ m (t + 1)).get j := by
      intro j
      rw [Hs.after, Hs.step, Hs.plus_get, HM.out.2.1, ← HC.out.2, ← HBB.out.1, hn]
    have hC9 := hC8.congr (f' := (Hs.after κ m (t + 1)).get) (fun j _ => hstep j)
    have hBut9 := (Hs.But.ofBelow (b := gs) hB7 (by have := HG.out; omega)).trans hBut8
    have hat2 : a2 = (t + 1) * bk := by rw [← HA2.out, Nat.add_mul, Nat.one_mul, HC.out.2]
    have HA := Lib.hid hat2
    clear kb7 hS7 hD7 hC8 hstep hat2
    have w16c := H16.out.2.2
    have wd8 : (wd : Int) ≤ 8 := by have := H1.out.2.2; omega
    have wd0 : 0 ≤ (wd : Int) := by omega
    go_wp2_with fail
    exact HK.out htT _ _ _ _ _ _ _ _ _ _ _ _ _ _ _ _ _ _ _ _ _ _ _ _ _ _ _ _ _ _ _ _ _ _ _ _ _ _ _ _ _ _ _ _ _ _ _ _ _ _ _ _ _ _ _ _ _ _ _ _ _ _ _ _ _ _ _ _ _ _ _ _ _ _ _ _ _ _ _ _ _ _ _ _ _ _ _ _ _ _ _ _ _ _ _ _ _ _ _ _ _ _ _ _ _ _ _ _ _ _ _ _ _ _ _ _ _ _ _ _ _ _ _ _ _ _ _ _ _ _ _ _ _ _ _ _ _ _ _ _ _ _ _ _ _ _ _ _ _ _ _ _ _ _ _ _ _ _ _ _ _ _ _ _ _ _ _ _ _ _ _ _ _ _ _ _ _ _ _ _ _ _ _ _ _ _ _ _ _ _ _ _ _ _ _ _ _ _ _ _ _ _ _ _ _ _ _ _ _ _ _ _ _ _ _ _ _ _ _ _ _ _ _ _ _ _ _ _ _ _ _ _ _ _ _ _ _ _ _ _ _ _ _ _ _ _ _ _ _ _ _ _ _ _ _ _ _ _ _ _ _ _ _ _ _ _ _ _ _ _ _ _ _ _ _ _ _ _ _ a2 _ (by rw [HM.out.2.1]; exact HA.out) hBut9 hC9
  · have hie : t = T := by omega
    have hae : a = lb := by rw [hat, hie, HM.out.2.2.2]
    have hiz : ¬ (a : Int) < (lb : Int) := by omega
    clear hae hat
    go_wp2_with fail
    exact HE.out hie _ _ _ _
end Go.Proofs.Ytelfhdihkeafnaa
