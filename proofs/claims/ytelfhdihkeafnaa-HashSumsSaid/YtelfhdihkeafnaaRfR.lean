/- The reference of a sum: the rounds. -/
import Derived.Test.YtelfhdihkeafnaaRfQ
namespace Go.Proofs.Ytelfhdihkeafnaa
open Go.RowKit

theorem Rf.kκ (κ : Nat) (h : κ < 2) : κ = 0 ∨ κ = 1 := by omega
theorem Rf.n_or (κ : Nat) (h : κ < 2) : (Hs.K κ).n = 32 ∨ (Hs.K κ).n = 64 := by rcases Rf.kκ κ h with rfl | rfl <;> decide
theorem Rf.turn_ok (κ : Nat) (h : κ < 2) : ((0 < (Hs.K κ).c.1 ∧ (Hs.K κ).c.1 < (Hs.K κ).n) ∧ (0 < (Hs.K κ).c.2.1 ∧ (Hs.K κ).c.2.1 < (Hs.K κ).n) ∧ 0 < (Hs.K κ).c.2.2 ∧ (Hs.K κ).c.2.2 < (Hs.K κ).n) ∧ ((0 < (Hs.K κ).d.1 ∧ (Hs.K κ).d.1 < (Hs.K κ).n) ∧ (0 < (Hs.K κ).d.2.1 ∧ (Hs.K κ).d.2.1 < (Hs.K κ).n) ∧ 0 < (Hs.K κ).d.2.2 ∧ (Hs.K κ).d.2.2 < (Hs.K κ).n) ∧ ((0 < (Hs.K κ).a.1 ∧ (Hs.K κ).a.1 < (Hs.K κ).n) ∧ (0 < (Hs.K κ).a.2.1 ∧ (Hs.K κ).a.2.1 < (Hs.K κ).n) ∧ (Hs.K κ).a.2.2 < (Hs.K κ).n) ∧ ((0 < (Hs.K κ).b.1 ∧ (Hs.K κ).b.1 < (Hs.K κ).n) ∧ (0 < (Hs.K κ).b.2.1 ∧ (Hs.K κ).b.2.1 < (Hs.K κ).n) ∧ (Hs.K κ).b.2.2 < (Hs.K κ).n) := by rcases Rf.kκ κ h with rfl | rfl <;> decide
theorem Rf.rd_ok (κ : Nat) (h : κ < 2) : 16 ≤ (Hs.K κ).rounds ∧ (Hs.K κ).rounds ≤ 80 := by rcases Rf.kκ κ h with rfl | rfl <;> decide
theorem Rf.rk_all : Hs.rk.all (fun x => decide (x < 18446744073709551616)) = true := by kernel_rfl
theorem Rf.rk_lt (j : Nat) : Hs.rk.getD j 0 < 18446744073709551616 := by
  rcases Nat.lt_or_ge j Hs.rk.length with h | h
  · have := List.all_eq_true.1 Rf.rk_all _ (List.getElem_mem h)
    rw [Rf.getD_in _ _ h]
    exact of_decide_eq_true this
  · simp [List.getD_eq_getElem?_getD, List.getElem?_eq_none h]
theorem Rf.kk_lt (κ : Nat) (h : κ < 2) (j : Nat) : Rf.kk κ j < 2 ^ (Hs.K κ).n := by
  have := Rf.rk_lt j
  unfold Rf.kk
  rcases Rf.kκ κ h with rfl | rfl
  · show Hs.rk.getD j 0 / 2 ^ 32 < 2 ^ 32
    omega
  · show Hs.rk.getD j 0 / 2 ^ 0 < 2 ^ 64
    omega
theorem Rf.words_lt (κ : Nat) (h : κ < 2) (B : Nat → Nat) (hB : ∀ j, B j < 256) (j : Nat) : (Hs.words (Hs.K κ) B).getD j 0 < 2 ^ (Hs.K κ).n := by
  have hp := Nat.two_pow_pos (Hs.K κ).n
  have hl := Hs.words_length (Hs.K κ) B (Rf.rd_ok κ h).1
  rcases Nat.lt_or_ge j (Hs.K κ).rounds with h1 | h1
  · rcases Nat.lt_or_ge j 16 with h2 | h2
    · rw [Hs.words_low _ _ _ h2]
      exact Hs.part_lt _ _ _ _ (by rcases Rf.n_or κ h with e | e <;> omega) hB _
    · rw [Hs.words_high _ _ _ h2 h1]
      exact Nat.mod_lt _ hp
  · rw [List.getD_eq_getElem?_getD, List.getElem?_eq_none (by omega)]
    exact hp
theorem Rf.round_eq (K : Hs.Ks) (k w t u : Nat) (v : Hs.V8) (ht : t % 2 ^ K.n = Hs.tt K.n K.c.1 K.c.2.1 K.c.2.2 v.get k w) (hu : u % 2 ^ K.n = Hs.uu K.n K.d.1 K.d.2.1 K.d.2.2 v.get) :
    Hs.round K k w v = ⟨(t + u) % 2 ^ K.n, v.get 0, v.get 1, v.get 2, (v.get 3 + t) % 2 ^ K.n, v.get 4, v.get 5, v.get 6⟩ := by
  unfold Hs.round
  simp only [Hs.now_eq]
  rw [← ht, ← hu]
  congr 1
  · rw [← Nat.add_mod]
  · rw [Nat.add_mod_mod]; rfl
set_option maxHeartbeats 1000000 in
set_option maxRecDepth 100000 in
theorem Rf.l6 (w : World) (κ : Nat) (hκ : κ < 2) (n rd : Nat) (hn : (Hs.K κ).n = n) (hrd : (Hs.K κ).rounds = rd) (q gw gv cv gK cK gs : Nat) (vF : Value) {u0 u1 u3 u4 u5 u6 u7 u8 u10 u11 u12 u13 u14 u17 u18 u19 u20 u21 u22 u23 u24 u25 u26 u27 u28 u29 u30 u31 u32 u33 u34 u35 u36 u37 u38 u39 u40 u41 u42 u43 u44 u45 u46 u47 u48 u49 u50 u51 u52 u53 u54 u55 u56 u57 u58 u59 u60 u61 u62 u63 u64 u65 u66 u67 u68 u69 u70 u71 u72 u73 u74 u75 u76 u77 u78 u79 u80 u81 u82 u83 u84 u85 u86 u87 u88 u89 u90 u91 u92 u93 u94 u95 u96 u97 u98 u99 u100 u101 u102 u103 u104 u105 u106 u107 u108 u109 u110 u111 u112 u113 u114 u115 u116 u117 u118 u119 u120 u121 u122 u123 u124 u125 u126 u127 u128 u129 u130 u131 u132 u133 u134 u135 u136 u137 u138 u139 u140 u141 u142 u143 u144 u145 u146 u147 u148 u149 u150 u151 u152 u153 u154 u155 u156 u157 u158 u159 u160 u161 u162 u163 u164 u165 u166 u167 u168 u169 u170 u171 u172 u173 u174 u175 u176 u177 u178 u179 u180 u181 u182 u183 u184 u185 u186 u187 u188 u189 u190 u191 u192 u193 u194 u195 u196 u197 u198 u199 u200 u201 u202 u203 u204 u205 u206 u207 u208 u209 u210 u211 u212 u213 u214 u215 u216 u217 u218 u219 u220 u221 u222 u223 u224 u225 u226 u227 u228 u229 u230 u231 u232 u233 u234 u235 u236 u237 u238 u239 u240 u241 u242 u243 u244 u245 u246 u247 u248 u249 u250 u251 u252 u253 u254 u255 u256 u257 u258 u259 u260 u261 u262 u263 u264 u265 u266 u267 u268 u269 u270 u271 u272 u273 u274 u275 u276 u277 u278 u279 u280 u281 u282 u283 u284 u285 u286 u287 u288 u289 u290 u291 u292 u293 u294 u295 u296 u297 u298 u299 u300 u301 u302 u303 u304 u305 u306 u307 u308 u309 u310 u311 u312 u313 u314 u315 u316 u317 u318 u319 u320 u321 u322 u323 u324 u325 u326 u327 u328 u329 u330 u331 u332 u333 u334 u335 u336 u337 u338 u339 : Value} (Q0 : Exit → Act → World → Prop) (V : Hs.V8) (B : Nat → Nat)
    (hkb : w.heap[q]? = some (.cells (Rf.kc κ (.slice (some ⟨gK, 0, none⟩) rd cK) vF) 34 (0, 0))) (hB : ∀ j, B j < 256) (hV : V.lt n) (hv : Rf.Dig w gv 8 V.get) (hf : Rf.Dig w gw rd (fun j => (Hs.words (Hs.K κ) B).getD j 0)) (hK : Rf.Dig w gK rd (Rf.kk κ)) (hvs : gv ≠ gs) (hsl : gs < w.heap.size)
    (hk : ∀ (v16 v17 v18 v19 v20 v171 v172 v173 v174 v175 v176 v177 v178 v179 v180 v181 v182 v183 v184 v185 v186 v187 v188 v189 v190 v191 v192 v193 v194 v195 v196 v197 v198 v199 v200 v201 v202 v203 v204 v205 v206 v207 v208 v209 v210 v211 v212 v213 v214 v215 v216 v217 v218 v219 v220 v221 v222 v223 v224 v225 v226 v227 v228 v229 v230 v231 v232 v233 v234 v235 v236 v237 v238 v239 v240 v241 v242 v243 v244 v245 v246 v247 v248 v249 v250 v251 v252 v253 v254 v255 v256 v257 v258 v259 v260 v261 v262 v263 v264 v265 v266 v267 v268 v269 v270 v271 v272 v273 v274 v275 v276 v277 v278 v279 v280 v281 v282 v283 v284 v285 v286 v287 v288 v289 v290 v291 v292 v293 v294 v295 v296 v297 v298 v299 v300 v301 v302 v303 : Value) (gn cn : Nat) (W : World), Below w.heap.size w W → gn ≠ gs → Rf.Dig W gn 8 (Hs.rounds (Hs.K κ) Hs.rk (Hs.words (Hs.K κ) B) V).get → Q0 (.exit 10) ⟨#[u0, u1, .pointer (some ⟨q, 0, none⟩), u3, u4, u5, u6, u7, u8, .slice (some ⟨gw, 0, none⟩) rd rd, u10, u11, u12, u13, u14, .slice (some ⟨gn, 0, none⟩) 8 cn, v16, v17, v18, v19, v20, u21, u22, u23, u24, u25, u26, u27, u28, u29, u30, u31, u32, u33, u34, u35, u36, u37, u38, u39, u40, u41, u42, u43, u44, u45, u46, u47, u48, u49, u50, u51, u52, u53, u54, u55, u56, u57, u58, u59, u60, u61, u62, u63, u64, u65, u66, u67, u68, u69, u70, u71, u72, u73, u74, u75, u76, u77, u78, u79, u80, u81, u82, u83, u84, u85, u86, u87, u88, u89, u90, u91, u92, u93, u94, u95, u96, u97, u98, u99, u100, u101, u102, u103, u104, u105, u106, u107, u108, u109, u110, u111, u112, u113, u114, u115, u116, u117, u118, u119, u120, u121, u122, u123, u124, u125, u126, u127, u128, u129, u130, u131, u132, u133, u134, u135, u136, u137, u138, u139, u140, u141, u142, u143, u144, u145, u146, u147, u148, u149, u150, u151, u152, u153, u154, u155, u156, u157, u158, u159, u160, u161, u162, u163, u164, u165, u166, u167, u168, u169, u170, v171, v172, v173, v174, v175, v176, v177, v178, v179, v180, v181, v182, v183, v184, v185, v186, v187, v188, v189, v190, v191, v192, v193, v194, v195, v196, v197, v198, v199, v200, v201, v202, v203, v204, v205, v206, v207, v208, v209, v210, v211, v212, v213, v214, v215, v216, v217, v218, v219, v220, v221, v222, v223, v224, v225, v226, v227, v228, v229, v230, v231, v232, v233, v234, v235, v236, v237, v238, v239, v240, v241, v242, v243, v244, v245, v246, v247, v248, v249, v250, v251, v252, v253, v254, v255, v256, v257, v258, v259, v260, v261, v262, v263, v264, v265, v266, v267, v268, v269, v270, v271, v272, v273, v274, v275, v276, v277, v278, v279, v280, v281, v282, v283, v284, v285, v286, v287, v288, v289, v290, v291, v292, v293, v294, v295, v296, v297, v298, v299, v300, v301, v302, v303, u304, u305, u306, u307, u308, u309, u310, u311, u312, u313, u314, u315, u316, u317, u318, u319, u320, u321, u322, u323, u324, u325, u326, u327, u328, u329, u330, u331, u332, u333, u334, u335, u336, u337, u338, u339], []⟩ W) : Code.wp Try.prog (Code.loop Rf.lp6) Q0 ⟨#[u0, u1, .pointer (some ⟨q, 0, none⟩), u3, u4, u5, u6, u7, u8, .slice (some ⟨gw, 0, none⟩) rd rd, u10, u11, u12, u13, u14, .slice (some ⟨gv, 0, none⟩) 8 cv, .int .i64 0, u17, u18, u19, u20, u21, u22, u23, u24, u25, u26, u27, u28, u29, u30, u31, u32, u33, u34, u35, u36, u37, u38, u39, u40, u41, u42, u43, u44, u45, u46, u47, u48, u49, u50, u51, u52, u53, u54, u55, u56, u57, u58, u59, u60, u61, u62, u63, u64, u65, u66, u67, u68, u69, u70, u71, u72, u73, u74, u75, u76, u77, u78, u79, u80, u81, u82, u83, u84, u85, u86, u87, u88, u89, u90, u91, u92, u93, u94, u95, u96, u97, u98, u99, u100, u101, u102, u103, u104, u105, u106, u107, u108, u109, u110, u111, u112, u113, u114, u115, u116, u117, u118, u119, u120, u121, u122, u123, u124, u125, u126, u127, u128, u129, u130, u131, u132, u133, u134, u135, u136, u137, u138, u139, u140, u141, u142, u143, u144, u145, u146, u147, u148, u149, u150, u151, u152, u153, u154, u155, u156, u157, u158, u159, u160, u161, u162, u163, u164, u165, u166, u167, u168, u169, u170, u171, u172, u173, u174, u175, u176, u177, u178, u179, u180, u181, u182, u183, u184, u185, u186, u187, u188, u189, u190, u191, u192, u193, u194, u195, u196, u197, u198, u199, u200, u201, u202, u203, u204, u205, u206, u207, u208, u209, u210, u211, u212, u213, u214, u215, u216, u217, u218, u219, u220, u221, u222, u223, u224, u225, u226, u227, u228, u229, u230, u231, u232, u233, u234, u235, u236, u237, u238, u239, u240, u241, u242, u243, u244, u245, u246, u247, u248, u249, u250, u251, u252, u253, u254, u255, u256, u257, u258, u259, u260, u261, u262, u263, u264, u265, u266, u267, u268, u269, u270, u271, u272, u273, u274, u275, u276, u277, u278, u279, u280, u281, u282, u283, u284, u285, u286, u287, u288, u289, u290, u291, u292, u293, u294, u295, u296, u297, u298, u299, u300, u301, u302, u303, u304, u305, u306, u307, u308, u309, u310, u311, u312, u313, u314, u315, u316, u317, u318, u319, u320, u321, u322, u323, u324, u325, u326, u327, u328, u329, u330, u331, u332, u333, u334, u335, u336, u337, u338, u339], []⟩ w := by
  have HK := Lib.hid hk
  have hno : n = 32 ∨ n = 64 := hn ▸ Rf.n_or κ hκ
  have hql : q < w.heap.size := (Array.getElem?_eq_some_iff.1 hkb).1
  have hwl := Rf.words_lt κ hκ B hB
  have hkl := Rf.kk_lt κ hκ
  have hwn : (Hs.words (Hs.K κ) B).length = rd := by rw [Hs.words_length _ _ (Rf.rd_ok κ hκ).1, hrd]
  have hrl : Hs.rk.length = 80 := rfl
  have hr80 := (Rf.rd_ok κ hκ).2
  have htk := Rf.turn_ok κ hκ
  have hRE := fun k ww t u v => Rf.round_eq (Hs.K κ) k ww t u v
  rw [hrd] at hr80
  rw [hn] at hwl hkl htk hRE
  obtain ⟨ws, hws⟩ : ∃ ws, Hs.words (Hs.K κ) B = ws := ⟨_, rfl⟩
  rw [hws] at hwl hwn hf
  have HW := Lib.hid (And.intro hws (And.intro hwn hrl))
  have HKL := Lib.hid (And.intro hkl (And.intro hwl htk))
  clear hk hws hwn hrl hkl hwl htk
  conv => arg 2; arg 1; whnf
  dsimp only
  go_loopw [15, 16] (fun vv iv wr => ∃ (i gn cn : Nat) (P : Hs.V8), i ≤ rd ∧ iv = .int .i64 (i : Int) ∧ vv = .slice (some ⟨gn, 0, none⟩) 8 cn ∧ Below w.heap.size w wr ∧ gn ≠ gs ∧ P = Hs.rounds (Hs.K κ) Hs.rk (ws.take i) V ∧ P.lt n ∧ Rf.Dig wr gn 8 P.get) (fun _ iv _ => rd - (intOf iv).toNat)
  case atStart => exact ⟨0, gv, cv, V, by omega, rfl, rfl, Below.refl _ _, hvs, by simp [Hs.rounds, Hs.rk], hV, hv⟩
  case round =>
  obtain ⟨i, gn, cn, P, hi, rfl, rfl, hBl, hgn, hP, hPl, hD⟩ := hrel
  obtain ⟨w2, rfl⟩ : ∃ w2, w2 = wr := ⟨_, rfl⟩
  have kb2 := (hBl.block q hql).trans hkb
  have c1 := (cell_of_row w2 q 1 _ _ _ kb2).trans (show (Rf.kc κ (.slice (some ⟨gK, 0, none⟩) rd cK) vF)[1]? = some (.int .i64 (rd : Int)) by rw [← hrd]; rfl)
  by_cases hi8 : i < rd
  · have hiz : (i : Int) < (rd : Int) := by omega
    have d4 := hD.cell 4 (by omega)
    have d0 := hD.cell 0 (by omega)
    have HP := Lib.hid hP
    clear hP
    go_upto_region 27 with fail
    refine Rf.r27 (hx := d4) (hy := d0) (hk := ?_)
    intro v177 v178 v179 v180 v181 v182 w3 hB3
    have kb3 := (hB3.block q (by have := hBl.size; omega)).trans kb2
    have hBl3 := hBl.trans (hB3.mono hBl.size)
    have hD3 := hD.bel hB3
    have hf3 := hf.below hBl3 hf.lt
    have hK3 := hK.below hBl3 hK.lt
    clear d4 d0 kb2 c1 hD
    go_upto_region 28 with fail
    refine Rf.r28 (hR := Rf.kc_size _ _ _) (hkb := kb3) (hn := hno) (h0 := by rw [← hn]; rfl) (r9 := rfl) (r10 := rfl) (r11 := rfl) (r15 := rfl) (hc := HKL.out.2.2.1) (hi2 := hi8) (hf := hf3.cell) (hlt := fun j _ => HKL.out.2.1 j) (hK := hK3.cell) (hKl := fun j _ => HKL.out.1 j) (hv := hD3.cell) (hvl := hPl) (he := rfl) (hk := ?_)
    intro v183 v184 v185 v186 v187 v188 v189 v190 v191 v192 v193 v194 v195 v196 v197 v198 v199 v200 v201 v202 v203 v204 v205 v206 v207 v208 v209 v210 v211 v212 v213 v214 v215 v216 v217 v218 v219 v220 v221 v222 v223 v224 v225 v226 v227 v228 v229 v230 v231 v232 t w4 hB4 htl hts
    have kb4 := (hB4.block q (by have := hBl3.size; omega)).trans kb3
    have hBl4 := hBl3.trans (hB4.mono hBl3.size)
    have hD4 := hD3.bel hB4
    have HT := Lib.hid (And.intro htl hts)
    clear kb3 hD3 hf3 hK3 htl hts
    go_upto_region 29 with fail
    refine Rf.r29 (hR := Rf.kc_size _ _ _) (hkb := kb4) (hn := hno) (h0 := by rw [← hn]; rfl) (r12 := rfl) (r13 := rfl) (r14 := rfl) (hc := HKL.out.2.2.2.1) (hv := hD4.cell) (hvl := hPl) (he := rfl) (hk := ?_)
    intro v233 v234 v235 v236 v237 v238 v239 v240 v241 v242 v243 v244 v245 v246 v247 v248 v249 v250 v251 v252 v253 v254 v255 v256 v257 v258 v259 v260 v261 v262 v263 v264 v265 v266 v267 v268 v269 v270 v271 v272 u w5 hB5 hul hus
    have kb5 := (hB5.block q (by have := hBl4.size; omega)).trans kb4
    have hBl5 := hBl4.trans (hB5.mono hBl4.size)
    have hD5 := hD4.bel hB5
    have HU := Lib.hid (And.intro hul hus)
    clear kb4 hD4 hul hus
    go_upto_region 30 with fail
    refine Rf.r30 (cv := cn) (hR := Rf.kc_size _ _ _) (hkb := kb5) (hn := hno) (h0 := by rw [← hn]; rfl) (hv := hD5.cell) (hvl := hPl) (hk := ?_)
    intro v273 v274 v275 v276 v277 v278 v279 v280 v281 v282 v283 v284 v285 v286 v287 v288 v289 v290 v291 v292 v293 v294 v295 v296 v297 v298 v299 v300 v301 v302 v303 gm w6 hgm hB6 hD6
    have hBl6 := hBl5.trans (hB6.mono hBl5.size)
    rw [← hRE (Rf.kk κ i) (ws.getD i 0) t u P HT.out.2 HU.out.2] at hD6
    have hgm2 : gm ≠ gs := by have := hBl5.size; omega
    have hPn : Hs.round (Hs.K κ) (Rf.kk κ i) (ws.getD i 0) P = Hs.rounds (Hs.K κ) Hs.rk (ws.take (i + 1)) V := by
      rw [Hs.rounds_succ _ _ _ _ _ (by rw [HW.out.2.2]; omega) (by rw [HW.out.2.1]; omega), ← HP.out]
      rfl
    have hPnl : (Hs.round (Hs.K κ) (Rf.kk κ i) (ws.getD i 0) P).lt n := by rw [← hn]; exact Hs.round_lt _ _ _ _ (by rw [hn]; exact hPl)
    clear kb5 hD5 hgm
    obtain ⟨P2, hP2⟩ : ∃ P2, Hs.round (Hs.K κ) (Rf.kk κ i) (ws.getD i 0) P = P2 := ⟨_, rfl⟩
    rw [hP2] at hPn hPnl hD6
    have HPN := Lib.hid hPn
    clear hP2 hPn
    go_wp2_with fail
    exact ⟨⟨i + 1, gm, 8, P2, by omega, by go_num, rfl, hBl6, hgm2, HPN.out, hPnl, hD6⟩, by simp [intOf]; omega⟩
  · have hie : i = rd := by omega
    have hiz : ¬ (i : Int) < (rd : Int) := by omega
    rw [hie, List.take_of_length_le (by rw [HW.out.2.1]; exact Nat.le_refl _), ← HW.out.1] at hP
    rw [hP] at hD
    clear hie hP
    go_wp2_with fail
    exact HK.out _ _ _ _ _ _ _ _ _ _ _ _ _ _ _ _ _ _ _ _ _ _ _ _ _ _ _ _ _ _ _ _ _ _ _ _ _ _ _ _ _ _ _ _ _ _ _ _ _ _ _ _ _ _ _ _ _ _ _ _ _ _ _ _ _ _ _ _ _ _ _ _ _ _ _ _ _ _ _ _ _ _ _ _ _ _ _ _ _ _ _ _ _ _ _ _ _ _ _ _ _ _ _ _ _ _ _ _ _ _ _ _ _ _ _ _ _ _ _ _ _ _ _ _ _ _ _ _ _ _ _ _ _ _ _ _ _ _ gn cn _ hBl hgn hD
end Go.Proofs.Ytelfhdihkeafnaa
