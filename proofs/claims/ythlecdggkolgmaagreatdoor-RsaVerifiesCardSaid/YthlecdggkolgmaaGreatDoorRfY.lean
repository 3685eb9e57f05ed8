/- A text's bytes, opened for writing: a row whose cells are free, and append to it. -/
import Derived.Test.YthlecdggkolgmaaGreatDoorRfQ
import Derived.ArgAppend
import Derived.Lib.ConvBytes
namespace Go.Proofs.YthlecdggkolgmaaGreatDoor
section
section
section
open Go.RowKit

theorem Rf.kκ (κ : Nat) (h : κ < 2) : κ = 0 ∨ κ = 1 := by omega
theorem Rf.n_or (κ : Nat) (h : κ < 2) : (Hs.K κ).n = 32 ∨ (Hs.K κ).n = 64 := by rcases Rf.kκ κ h with rfl | rfl <;> decide
theorem Rf.turn_ok (κ : Nat) (h : κ < 2) : ((0 < (Hs.K κ).c.1 ∧ (Hs.K κ).c.1 < (Hs.K κ).n) ∧ (0 < (Hs.K κ).c.2.1 ∧ (Hs.K κ).c.2.1 < (Hs.K κ).n) ∧ 0 < (Hs.K κ).c.2.2 ∧ (Hs.K κ).c.2.2 < (Hs.K κ).n) ∧ ((0 < (Hs.K κ).d.1 ∧ (Hs.K κ).d.1 < (Hs.K κ).n) ∧ (0 < (Hs.K κ).d.2.1 ∧ (Hs.K κ).d.2.1 < (Hs.K κ).n) ∧ 0 < (Hs.K κ).d.2.2 ∧ (Hs.K κ).d.2.2 < (Hs.K κ).n) ∧ ((0 < (Hs.K κ).a.1 ∧ (Hs.K κ).a.1 < (Hs.K κ).n) ∧ (0 < (Hs.K κ).a.2.1 ∧ (Hs.K κ).a.2.1 < (Hs.K κ).n) ∧ (Hs.K κ).a.2.2 < (Hs.K κ).n) ∧ ((0 < (Hs.K κ).b.1 ∧ (Hs.K κ).b.1 < (Hs.K κ).n) ∧ (0 < (Hs.K κ).b.2.1 ∧ (Hs.K κ).b.2.1 < (Hs.K κ).n) ∧ (Hs.K κ).b.2.2 < (Hs.K κ).n) := by rcases Rf.kκ κ h with rfl | rfl <;> decide
theorem Rf.rd_ok (κ : Nat) (h : κ < 2) : 16 ≤ (Hs.K κ).rounds ∧ (Hs.K κ).rounds ≤ 80 := by rcases Rf.kκ κ h with rfl | rfl <;> decide
theorem Rf.rk_all : Hs.rk.all (fun x => decide (x < 18446744073709551616)) = true := by kernel_rfl
theorem Rf.rk_lt (j : Nat) : Hs.rk.getD j 0 < 18446744073709551616 := by
  rcases Nat.lt_or_ge j Hs.rk.length with h | h
  · have := List.all_eq_true.1 Rf.rk_all _ (List.getElem_mem h)
    rw [Rf.getD_in _ _ h]
    exact of_decide_eq_true this
  · simp [List.getD_eq_getElem?_getD,List.getElem?_eq_none h]
theorem Rf.kk_lt (κ : Nat) (h : κ < 2) (j : Nat) : Rf.kk κ j < 2 ^ (Hs.K κ).n := by
  have := Rf.rk_lt j
  unfold Rf.kk
  rcases Rf.kκ κ h with rfl | rfl
  · show Hs.rk.getD j 0 / 2 ^ 32 < 2 ^ 32
    omega
  · show Hs.rk.getD j 0 / 2 ^ 0 < 2 ^ 64
    omega
theorem Rf.words_lt (κ : Nat) (h : κ < 2) (B : Nat → Nat) (hB : ∀ j,B j < 256) (j : Nat) : (Hs.words (Hs.K κ) B).getD j 0 < 2 ^ (Hs.K κ).n := by
  have hp := Nat.two_pow_pos (Hs.K κ).n
  have hl := Hs.words_length (Hs.K κ) B (Rf.rd_ok κ h).1
  rcases Nat.lt_or_ge j (Hs.K κ).rounds with h1 | h1
  · rcases Nat.lt_or_ge j 16 with h2 | h2
    · rw [Hs.words_low _ _ _ h2]
      exact Hs.part_lt _ _ _ _ (by rcases Rf.n_or κ h with e | e <;> omega) hB _
    · rw [Hs.words_high _ _ _ h2 h1]
      exact Nat.mod_lt _ hp
  · rw [List.getD_eq_getElem?_getD,List.getElem?_eq_none (by omega)]
    exact hp
theorem Rf.round_eq (K : Hs.Ks) (k w t u : Nat) (v : Hs.V8) (ht : t % 2 ^ K.n = Hs.tt K.n K.c.1 K.c.2.1 K.c.2.2 v.get k w) (hu : u % 2 ^ K.n = Hs.uu K.n K.d.1 K.d.2.1 K.d.2.2 v.get) :
    Hs.round K k w v = ⟨(t + u) % 2 ^ K.n,v.get 0,v.get 1,v.get 2,(v.get 3 + t) % 2 ^ K.n,v.get 4,v.get 5,v.get 6⟩ := by
  unfold Hs.round
  simp only [Hs.now_eq]
  rw [← ht,← hu]
  congr 1
  · rw [← Nat.add_mod]
  · rw [Nat.add_mod_mod]; rfl
set_option maxHeartbeats 1000000 in
set_option maxRecDepth 100000 in
theorem Rf.l6 (w : World) (κ : Nat) (hκ : κ < 2) (n rd : Nat) (hn : (Hs.K κ).n = n) (hrd : (Hs.K κ).rounds = rd) (q gw gv cv gK cK gs : Nat) (vF : Value) {u0 u1 u3 u4 u5 u6 u7 u8 u10 u11 u12 u13 u14 u17 u18 u19 u20 u21 u22 u23 u24 u25 u26 u27 u28 u29 u30 u31 u32 u33 u34 u35 u36 u37 u38 u39 u40 u41 u42 u43 u44 u45 u46 u47 u48 u49 u50 u51 u52 u53 u54 u55 u56 u57 u58 u59 u60 u61 u62 u63 u64 u65 u66 u67 u68 u69 u70 u71 u72 u73 u74 u75 u76 u77 u78 u79 u80 u81 u82 u83 u84 u85 u86 u87 u88 u89 u90 u91 u92 u93 u94 u95 u96 u97 u98 u99 u100 u101 u102 u103 u104 u105 u106 u107 u108 u109 u110 u111 u112 u113 u114 u115 u116 u117 u118 u119 u120 u121 u122 u123 u124 u125 u126 u127 u128 u129 u130 u131 u132 u133 u134 u135 u136 u137 u138 u139 u140 u141 u142 u143 u144 u145 u146 u147 u148 u149 u150 u151 u152 u153 u154 u155 u156 u157 u158 u159 u160 u161 u162 u163 u164 u165 u166 u167 u168 u169 u170 u171 u172 u173 u174 u175 u176 u177 u178 u179 u180 u181 u182 u183 u184 u185 u186 u187 u188 u189 u190 u191 u192 u193 u194 u195 u196 u197 u198 u199 u200 u201 u202 u203 u204 u205 u206 u207 u208 u209 u210 u211 u212 u213 u214 u215 u216 u217 u218 u219 u220 u221 u222 u223 u224 u225 u226 u227 u228 u229 u230 u231 u232 u233 u234 u235 u236 u237 u238 u239 u240 u241 u242 u243 u244 u245 u246 u247 u248 u249 u250 u251 u252 u253 u254 u255 u256 u257 u258 u259 u260 u261 u262 u263 u264 u265 u266 u267 u268 u269 u270 u271 u272 u273 u274 u275 u276 u277 u278 u279 u280 u281 u282 u283 u284 u285 u286 u287 u288 u289 u290 u291 u292 u293 u294 u295 u296 u297 u298 u299 u300 u301 u302 u303 u304 u305 u306 u307 u308 u309 u310 u311 u312 u313 u314 u315 u316 u317 u318 u319 u320 u321 u322 u323 u324 u325 u326 u327 u328 u329 u330 u331 u332 u333 u334 u335 u336 u337 u338 u339 : Value} (Q0 : Exit → Act → World → Prop) (V : Hs.V8) (B : Nat → Nat)
    (hkb : w.heap[q]? = some (.cells (Rf.kc κ (.slice (some ⟨gK,0,none⟩) rd cK) vF) 61 (0,0))) (hB : ∀ j,B j < 256) (hV : V.lt n) (hv : Rf.Dig w gv 8 V.get) (hf : Rf.Dig w gw rd (fun j => (Hs.words (Hs.K κ) B).getD j 0)) (hK : Rf.Dig w gK rd (Rf.kk κ)) (hvs : gv ≠ gs) (hsl : gs < w.heap.size)
    (hk : ∀ (v16 v17 v18 v19 v20 v171 v172 v173 v174 v175 v176 v177 v178 v179 v180 v181 v182 v183 v184 v185 v186 v187 v188 v189 v190 v191 v192 v193 v194 v195 v196 v197 v198 v199 v200 v201 v202 v203 v204 v205 v206 v207 v208 v209 v210 v211 v212 v213 v214 v215 v216 v217 v218 v219 v220 v221 v222 v223 v224 v225 v226 v227 v228 v229 v230 v231 v232 v233 v234 v235 v236 v237 v238 v239 v240 v241 v242 v243 v244 v245 v246 v247 v248 v249 v250 v251 v252 v253 v254 v255 v256 v257 v258 v259 v260 v261 v262 v263 v264 v265 v266 v267 v268 v269 v270 v271 v272 v273 v274 v275 v276 v277 v278 v279 v280 v281 v282 v283 v284 v285 v286 v287 v288 v289 v290 v291 v292 v293 v294 v295 v296 v297 v298 v299 v300 v301 v302 v303 : Value) (gn cn : Nat) (W : World),Below w.heap.size w W → gn ≠ gs → Rf.Dig W gn 8 (Hs.rounds (Hs.K κ) Hs.rk (Hs.words (Hs.K κ) B) V).get → Q0 (.exit 10) ⟨#[u0,u1,.pointer (some ⟨q,0,none⟩),u3,u4,u5,u6,u7,u8,.slice (some ⟨gw,0,none⟩) rd rd,u10,u11,u12,u13,u14,.slice (some ⟨gn,0,none⟩) 8 cn,v16,v17,v18,v19,v20,u21,u22,u23,u24,u25,u26,u27,u28,u29,u30,u31,u32,u33,u34,u35,u36,u37,u38,u39,u40,u41,u42,u43,u44,u45,u46,u47,u48,u49,u50,u51,u52,u53,u54,u55,u56,u57,u58,u59,u60,u61,u62,u63,u64,u65,u66,u67,u68,u69,u70,u71,u72,u73,u74,u75,u76,u77,u78,u79,u80,u81,u82,u83,u84,u85,u86,u87,u88,u89,u90,u91,u92,u93,u94,u95,u96,u97,u98,u99,u100,u101,u102,u103,u104,u105,u106,u107,u108,u109,u110,u111,u112,u113,u114,u115,u116,u117,u118,u119,u120,u121,u122,u123,u124,u125,u126,u127,u128,u129,u130,u131,u132,u133,u134,u135,u136,u137,u138,u139,u140,u141,u142,u143,u144,u145,u146,u147,u148,u149,u150,u151,u152,u153,u154,u155,u156,u157,u158,u159,u160,u161,u162,u163,u164,u165,u166,u167,u168,u169,u170,v171,v172,v173,v174,v175,v176,v177,v178,v179,v180,v181,v182,v183,v184,v185,v186,v187,v188,v189,v190,v191,v192,v193,v194,v195,v196,v197,v198,v199,v200,v201,v202,v203,v204,v205,v206,v207,v208,v209,v210,v211,v212,v213,v214,v215,v216,v217,v218,v219,v220,v221,v222,v223,v224,v225,v226,v227,v228,v229,v230,v231,v232,v233,v234,v235,v236,v237,v238,v239,v240,v241,v242,v243,v244,v245,v246,v247,v248,v249,v250,v251,v252,v253,v254,v255,v256,v257,v258,v259,v260,v261,v262,v263,v264,v265,v266,v267,v268,v269,v270,v271,v272,v273,v274,v275,v276,v277,v278,v279,v280,v281,v282,v283,v284,v285,v286,v287,v288,v289,v290,v291,v292,v293,v294,v295,v296,v297,v298,v299,v300,v301,v302,v303,u304,u305,u306,u307,u308,u309,u310,u311,u312,u313,u314,u315,u316,u317,u318,u319,u320,u321,u322,u323,u324,u325,u326,u327,u328,u329,u330,u331,u332,u333,u334,u335,u336,u337,u338,u339],[]⟩ W) : Code.wp Tryz.prog (Code.loop Rf.lp6) Q0 ⟨#[u0,u1,.pointer (some ⟨q,0,none⟩),u3,u4,u5,u6,u7,u8,.slice (some ⟨gw,0,none⟩) rd rd,u10,u11,u12,u13,u14,.slice (some ⟨gv,0,none⟩) 8 cv,.int .i64 0,u17,u18,u19,u20,u21,u22,u23,u24,u25,u26,u27,u28,u29,u30,u31,u32,u33,u34,u35,u36,u37,u38,u39,u40,u41,u42,u43,u44,u45,u46,u47,u48,u49,u50,u51,u52,u53,u54,u55,u56,u57,u58,u59,u60,u61,u62,u63,u64,u65,u66,u67,u68,u69,u70,u71,u72,u73,u74,u75,u76,u77,u78,u79,u80,u81,u82,u83,u84,u85,u86,u87,u88,u89,u90,u91,u92,u93,u94,u95,u96,u97,u98,u99,u100,u101,u102,u103,u104,u105,u106,u107,u108,u109,u110,u111,u112,u113,u114,u115,u116,u117,u118,u119,u120,u121,u122,u123,u124,u125,u126,u127,u128,u129,u130,u131,u132,u133,u134,u135,u136,u137,u138,u139,u140,u141,u142,u143,u144,u145,u146,u147,u148,u149,u150,u151,u152,u153,u154,u155,u156,u157,u158,u159,u160,u161,u162,u163,u164,u165,u166,u167,u168,u169,u170,u171,u172,u173,u174,u175,u176,u177,u178,u179,u180,u181,u182,u183,u184,u185,u186,u187,u188,u189,u190,u191,u192,u193,u194,u195,u196,u197,u198,u199,u200,u201,u202,u203,u204,u205,u206,u207,u208,u209,u210,u211,u212,u213,u214,u215,u216,u217,u218,u219,u220,u221,u222,u223,u224,u225,u226,u227,u228,u229,u230,u231,u232,u233,u234,u235,u236,u237,u238,u239,u240,u241,u242,u243,u244,u245,u246,u247,u248,u249,u250,u251,u252,u253,u254,u255,u256,u257,u258,u259,u260,u261,u262,u263,u264,u265,u266,u267,u268,u269,u270,u271,u272,u273,u274,u275,u276,u277,u278,u279,u280,u281,u282,u283,u284,u285,u286,u287,u288,u289,u290,u291,u292,u293,u294,u295,u296,u297,u298,u299,u300,u301,u302,u303,u304,u305,u306,u307,u308,u309,u310,u311,u312,u313,u314,u315,u316,u317,u318,u319,u320,u321,u322,u323,u324,u325,u326,u327,u328,u329,u330,u331,u332,u333,u334,u335,u336,u337,u338,u339],[]⟩ w := by
  have HK := Lib.hid hk
  have hno : n = 32 ∨ n = 64 := hn ▸ Rf.n_or κ hκ
  have hql : q < w.heap.size := (Array.getElem?_eq_some_iff.1 hkb).1
  have hwl := Rf.words_lt κ hκ B hB
  have hkl := Rf.kk_lt κ hκ
  have hwn : (Hs.words (Hs.K κ) B).length = rd := by rw [Hs.words_length _ _ (Rf.rd_ok κ hκ).1,hrd]
  have hrl : Hs.rk.length = 80 := rfl
  have hr80 := (Rf.rd_ok κ hκ).2
  have htk := Rf.turn_ok κ hκ
  have hRE := fun k ww t u v => Rf.round_eq (Hs.K κ) k ww t u v
  rw [hrd] at hr80
  rw [hn] at hwl hkl htk hRE
  obtain ⟨ws,hws⟩ : ∃ ws,Hs.words (Hs.K κ) B = ws := ⟨_,rfl⟩
  rw [hws] at hwl hwn hf
  have HW := Lib.hid (And.intro hws (And.intro hwn hrl))
  have HKL := Lib.hid (And.intro hkl (And.intro hwl htk))
  clear hk hws hwn hrl hkl hwl htk
  conv => arg 2; arg 1; whnf
  dsimp only
  go_loopw [15,16] (fun vv iv wr => ∃ (i gn cn : Nat) (P : Hs.V8),i ≤ rd ∧ iv = .int .i64 (i : Int) ∧ vv = .slice (some ⟨gn,0,none⟩) 8 cn ∧ Below w.heap.size w wr ∧ gn ≠ gs ∧ P = Hs.rounds (Hs.K κ) Hs.rk (ws.take i) V ∧ P.lt n ∧ Rf.Dig wr gn 8 P.get) (fun _ iv _ => rd - (intOf iv).toNat)
  case atStart => exact ⟨0,gv,cv,V,by omega,rfl,rfl,Below.refl _ _,hvs,by simp [Hs.rounds,Hs.rk],hV,hv⟩
  case round =>
  obtain ⟨i,gn,cn,P,hi,rfl,rfl,hBl,hgn,hP,hPl,hD⟩ := hrel
  obtain ⟨w2,rfl⟩ : ∃ w2,w2 = wr := ⟨_,rfl⟩
  have kb2 := (hBl.block q hql).trans hkb
  have c1 := (cell_of_row w2 q 1 _ _ _ kb2).trans (show (Rf.kc κ (.slice (some ⟨gK,0,none⟩) rd cK) vF)[1]? = some (.int .i64 (rd : Int)) by rw [← hrd]; rfl)
  by_cases hi8 : i < rd
  · have hiz : (i : Int) < (rd : Int) := by omega
    have d4 := hD.cell 4 (by omega)
    have d0 := hD.cell 0 (by omega)
    have HP := Lib.hid hP
    clear hP
    go_upto_region 27 with fail
    refine Rf.r27 (hx := d4) (hy := d0) (hk := ?_)
    intro v177 v178 v179 v180 v181 v182 w3 hB3
    have kb3 := (hB3.block q (by have := hBl.size; omega)).trans kb2
    have hBl3 := hBl.trans (hB3.mono hBl.size)
    have hD3 := hD.bel hB3
    have hf3 := hf.below hBl3 hf.lt
    have hK3 := hK.below hBl3 hK.lt
    clear d4 d0 kb2 c1 hD
    go_upto_region 28 with fail
    refine Rf.r28 (hR := Rf.kc_size _ _ _) (hkb := kb3) (hn := hno) (h0 := by rw [← hn]; rfl) (r9 := rfl) (r10 := rfl) (r11 := rfl) (r15 := rfl) (hc := HKL.out.2.2.1) (hi2 := hi8) (hf := hf3.cell) (hlt := fun j _ => HKL.out.2.1 j) (hK := hK3.cell) (hKl := fun j _ => HKL.out.1 j) (hv := hD3.cell) (hvl := hPl) (he := rfl) (hk := ?_)
    intro v183 v184 v185 v186 v187 v188 v189 v190 v191 v192 v193 v194 v195 v196 v197 v198 v199 v200 v201 v202 v203 v204 v205 v206 v207 v208 v209 v210 v211 v212 v213 v214 v215 v216 v217 v218 v219 v220 v221 v222 v223 v224 v225 v226 v227 v228 v229 v230 v231 v232 t w4 hB4 htl hts
    have kb4 := (hB4.block q (by have := hBl3.size; omega)).trans kb3
    have hBl4 := hBl3.trans (hB4.mono hBl3.size)
    have hD4 := hD3.bel hB4
    have HT := Lib.hid (And.intro htl hts)
    clear kb3 hD3 hf3 hK3 htl hts
    go_upto_region 29 with fail
    refine Rf.r29 (hR := Rf.kc_size _ _ _) (hkb := kb4) (hn := hno) (h0 := by rw [← hn]; rfl) (r12 := rfl) (r13 := rfl) (r14 := rfl) (hc := HKL.out.2.2.2.1) (hv := hD4.cell) (hvl := hPl) (he := rfl) (hk := ?_)
    intro v233 v234 v235 v236 v237 v238 v239 v240 v241 v242 v243 v244 v245 v246 v247 v248 v249 v250 v251 v252 v253 v254 v255 v256 v257 v258 v259 v260 v261 v262 v263 v264 v265 v266 v267 v268 v269 v270 v271 v272 u w5 hB5 hul hus
    have kb5 := (hB5.block q (by have := hBl4.size; omega)).trans kb4
    have hBl5 := hBl4.trans (hB5.mono hBl4.size)
    have hD5 := hD4.bel hB5
    have HU := Lib.hid (And.intro hul hus)
    clear kb4 hD4 hul hus
    go_upto_region 30 with fail
    refine Rf.r30 (cv := cn) (hR := Rf.kc_size _ _ _) (hkb := kb5) (hn := hno) (h0 := by rw [← hn]; rfl) (hv := hD5.cell) (hvl := hPl) (hk := ?_)
    intro v273 v274 v275 v276 v277 v278 v279 v280 v281 v282 v283 v284 v285 v286 v287 v288 v289 v290 v291 v292 v293 v294 v295 v296 v297 v298 v299 v300 v301 v302 v303 gm w6 hgm hB6 hD6
    have hBl6 := hBl5.trans (hB6.mono hBl5.size)
    rw [← hRE (Rf.kk κ i) (ws.getD i 0) t u P HT.out.2 HU.out.2] at hD6
    have hgm2 : gm ≠ gs := by have := hBl5.size; omega
    have hPn : Hs.round (Hs.K κ) (Rf.kk κ i) (ws.getD i 0) P = Hs.rounds (Hs.K κ) Hs.rk (ws.take (i + 1)) V := by
      rw [Hs.rounds_succ _ _ _ _ _ (by rw [HW.out.2.2]; omega) (by rw [HW.out.2.1]; omega),← HP.out]
      rfl
    have hPnl : (Hs.round (Hs.K κ) (Rf.kk κ i) (ws.getD i 0) P).lt n := by rw [← hn]; exact Hs.round_lt _ _ _ _ (by rw [hn]; exact hPl)
    clear kb5 hD5 hgm
    obtain ⟨P2,hP2⟩ : ∃ P2,Hs.round (Hs.K κ) (Rf.kk κ i) (ws.getD i 0) P = P2 := ⟨_,rfl⟩
    rw [hP2] at hPn hPnl hD6
    have HPN := Lib.hid hPn
    clear hP2 hPn
    go_wp2_with fail
    exact ⟨⟨i + 1,gm,8,P2,by omega,by go_num,rfl,hBl6,hgm2,HPN.out,hPnl,hD6⟩,by simp [intOf]; omega⟩
  · have hie : i = rd := by omega
    have hiz : ¬ (i : Int) < (rd : Int) := by omega
    rw [hie,List.take_of_length_le (by rw [HW.out.2.1]; exact Nat.le_refl _),← HW.out.1] at hP
    rw [hP] at hD
    clear hie hP
    go_wp2_with fail
    exact HK.out _ _ _ _ _ _ _ _ _ _ _ _ _ _ _ _ _ _ _ _ _ _ _ _ _ _ _ _ _ _ _ _ _ _ _ _ _ _ _ _ _ _ _ _ _ _ _ _ _ _ _ _ _ _ _ _ _ _ _ _ _ _ _ _ _ _ _ _ _ _ _ _ _ _ _ _ _ _ _ _ _ _ _ _ _ _ _ _ _ _ _ _ _ _ _ _ _ _ _ _ _ _ _ _ _ _ _ _ _ _ _ _ _ _ _ _ _ _ _ _ _ _ _ _ _ _ _ _ _ _ _ _ _ _ _ _ _ _ gn cn _ hBl hgn hD
end
section
open Go.RowKit

theorem Rf.sched_eq (κ : Nat) (B : Nat → Nat) (i : Nat) (h1 : 16 ≤ i) (h2 : i < (Hs.K κ).rounds) (f : Nat → Nat) (hf : ∀ j,j < i → f j = (Hs.words (Hs.K κ) B).getD j 0) :
    Hs.sched (Hs.K κ).n (Hs.K κ).a.1 (Hs.K κ).a.2.1 (Hs.K κ).a.2.2 (Hs.K κ).b.1 (Hs.K κ).b.2.1 (Hs.K κ).b.2.2 f i = (Hs.words (Hs.K κ) B).getD i 0 := by
  rw [Hs.words_high _ _ _ h1 h2]
  unfold Hs.sched
  rw [hf _ (by omega),hf _ (by omega),hf _ (by omega),hf _ (by omega)]
set_option maxHeartbeats 1000000 in
set_option maxRecDepth 100000 in
theorem Rf.l5 (w : World) (κ : Nat) (hκ : κ < 2) (n rd : Nat) (hn : (Hs.K κ).n = n) (hrd : (Hs.K κ).rounds = rd) (q gw gK cK : Nat) (vF : Value) {u0 u1 u3 u4 u5 u6 u7 u8 u10 u11 u13 u14 u15 u16 u17 u18 u19 u20 u21 u22 u23 u24 u25 u26 u27 u28 u29 u30 u31 u32 u33 u34 u35 u36 u37 u38 u39 u40 u41 u42 u43 u44 u45 u46 u47 u48 u49 u50 u51 u52 u53 u54 u55 u56 u57 u58 u59 u60 u61 u62 u63 u64 u65 u66 u67 u68 u69 u70 u71 u72 u73 u74 u75 u76 u77 u78 u79 u80 u81 u82 u83 u84 u85 u86 u87 u88 u89 u90 u91 u92 u93 u94 u95 u96 u97 u98 u99 u100 u101 u102 u103 u104 u105 u106 u107 u108 u109 u110 u111 u112 u113 u114 u115 u116 u117 u118 u119 u120 u121 u122 u123 u124 u125 u126 u127 u128 u129 u130 u131 u132 u133 u134 u135 u136 u137 u138 u139 u140 u141 u142 u143 u144 u145 u146 u147 u148 u149 u150 u151 u152 u153 u154 u155 u156 u157 u158 u159 u160 u161 u162 u163 u164 u165 u166 u167 u168 u169 u170 u171 u172 u173 u174 u175 u176 u177 u178 u179 u180 u181 u182 u183 u184 u185 u186 u187 u188 u189 u190 u191 u192 u193 u194 u195 u196 u197 u198 u199 u200 u201 u202 u203 u204 u205 u206 u207 u208 u209 u210 u211 u212 u213 u214 u215 u216 u217 u218 u219 u220 u221 u222 u223 u224 u225 u226 u227 u228 u229 u230 u231 u232 u233 u234 u235 u236 u237 u238 u239 u240 u241 u242 u243 u244 u245 u246 u247 u248 u249 u250 u251 u252 u253 u254 u255 u256 u257 u258 u259 u260 u261 u262 u263 u264 u265 u266 u267 u268 u269 u270 u271 u272 u273 u274 u275 u276 u277 u278 u279 u280 u281 u282 u283 u284 u285 u286 u287 u288 u289 u290 u291 u292 u293 u294 u295 u296 u297 u298 u299 u300 u301 u302 u303 u304 u305 u306 u307 u308 u309 u310 u311 u312 u313 u314 u315 u316 u317 u318 u319 u320 u321 u322 u323 u324 u325 u326 u327 u328 u329 u330 u331 u332 u333 u334 u335 u336 u337 u338 u339 : Value} (Q0 : Exit → Act → World → Prop) (B : Nat → Nat)
    (hkb : w.heap[q]? = some (.cells (Rf.kc κ (.slice (some ⟨gK,0,none⟩) rd cK) vF) 61 (0,0))) (hB : ∀ j,B j < 256) (hqw : q ≠ gw) (hf : Rf.Cel w gw rd (fun j => if j < 16 then (Hs.words (Hs.K κ) B).getD j 0 else 0))
    (hk : ∀ (v12 v13 v14 v96 v97 v98 v99 v100 v101 v102 v103 v104 v105 v106 v107 v108 v109 v110 v111 v112 v113 v114 v115 v116 v117 v118 v119 v120 v121 v122 v123 v124 v125 v126 v127 v128 v129 v130 v131 v132 v133 v134 v135 v136 v137 v138 v139 v140 v141 v142 v143 v144 v145 v146 v147 v148 v149 v150 v151 v152 v153 v154 v155 v156 v157 v158 v159 v160 v161 v162 v163 v164 v165 v166 v167 : Value) (W : World),Hs.But gw w W → Rf.Cel W gw rd (fun j => (Hs.words (Hs.K κ) B).getD j 0) → Q0 (.exit 8) ⟨#[u0,u1,.pointer (some ⟨q,0,none⟩),u3,u4,u5,u6,u7,u8,.slice (some ⟨gw,0,none⟩) rd rd,u10,u11,v12,v13,v14,u15,u16,u17,u18,u19,u20,u21,u22,u23,u24,u25,u26,u27,u28,u29,u30,u31,u32,u33,u34,u35,u36,u37,u38,u39,u40,u41,u42,u43,u44,u45,u46,u47,u48,u49,u50,u51,u52,u53,u54,u55,u56,u57,u58,u59,u60,u61,u62,u63,u64,u65,u66,u67,u68,u69,u70,u71,u72,u73,u74,u75,u76,u77,u78,u79,u80,u81,u82,u83,u84,u85,u86,u87,u88,u89,u90,u91,u92,u93,u94,u95,v96,v97,v98,v99,v100,v101,v102,v103,v104,v105,v106,v107,v108,v109,v110,v111,v112,v113,v114,v115,v116,v117,v118,v119,v120,v121,v122,v123,v124,v125,v126,v127,v128,v129,v130,v131,v132,v133,v134,v135,v136,v137,v138,v139,v140,v141,v142,v143,v144,v145,v146,v147,v148,v149,v150,v151,v152,v153,v154,v155,v156,v157,v158,v159,v160,v161,v162,v163,v164,v165,v166,v167,u168,u169,u170,u171,u172,u173,u174,u175,u176,u177,u178,u179,u180,u181,u182,u183,u184,u185,u186,u187,u188,u189,u190,u191,u192,u193,u194,u195,u196,u197,u198,u199,u200,u201,u202,u203,u204,u205,u206,u207,u208,u209,u210,u211,u212,u213,u214,u215,u216,u217,u218,u219,u220,u221,u222,u223,u224,u225,u226,u227,u228,u229,u230,u231,u232,u233,u234,u235,u236,u237,u238,u239,u240,u241,u242,u243,u244,u245,u246,u247,u248,u249,u250,u251,u252,u253,u254,u255,u256,u257,u258,u259,u260,u261,u262,u263,u264,u265,u266,u267,u268,u269,u270,u271,u272,u273,u274,u275,u276,u277,u278,u279,u280,u281,u282,u283,u284,u285,u286,u287,u288,u289,u290,u291,u292,u293,u294,u295,u296,u297,u298,u299,u300,u301,u302,u303,u304,u305,u306,u307,u308,u309,u310,u311,u312,u313,u314,u315,u316,u317,u318,u319,u320,u321,u322,u323,u324,u325,u326,u327,u328,u329,u330,u331,u332,u333,u334,u335,u336,u337,u338,u339],[]⟩ W) : Code.wp Tryz.prog (Code.loop Rf.lp5) Q0 ⟨#[u0,u1,.pointer (some ⟨q,0,none⟩),u3,u4,u5,u6,u7,u8,.slice (some ⟨gw,0,none⟩) rd rd,u10,u11,.int .i64 16,u13,u14,u15,u16,u17,u18,u19,u20,u21,u22,u23,u24,u25,u26,u27,u28,u29,u30,u31,u32,u33,u34,u35,u36,u37,u38,u39,u40,u41,u42,u43,u44,u45,u46,u47,u48,u49,u50,u51,u52,u53,u54,u55,u56,u57,u58,u59,u60,u61,u62,u63,u64,u65,u66,u67,u68,u69,u70,u71,u72,u73,u74,u75,u76,u77,u78,u79,u80,u81,u82,u83,u84,u85,u86,u87,u88,u89,u90,u91,u92,u93,u94,u95,u96,u97,u98,u99,u100,u101,u102,u103,u104,u105,u106,u107,u108,u109,u110,u111,u112,u113,u114,u115,u116,u117,u118,u119,u120,u121,u122,u123,u124,u125,u126,u127,u128,u129,u130,u131,u132,u133,u134,u135,u136,u137,u138,u139,u140,u141,u142,u143,u144,u145,u146,u147,u148,u149,u150,u151,u152,u153,u154,u155,u156,u157,u158,u159,u160,u161,u162,u163,u164,u165,u166,u167,u168,u169,u170,u171,u172,u173,u174,u175,u176,u177,u178,u179,u180,u181,u182,u183,u184,u185,u186,u187,u188,u189,u190,u191,u192,u193,u194,u195,u196,u197,u198,u199,u200,u201,u202,u203,u204,u205,u206,u207,u208,u209,u210,u211,u212,u213,u214,u215,u216,u217,u218,u219,u220,u221,u222,u223,u224,u225,u226,u227,u228,u229,u230,u231,u232,u233,u234,u235,u236,u237,u238,u239,u240,u241,u242,u243,u244,u245,u246,u247,u248,u249,u250,u251,u252,u253,u254,u255,u256,u257,u258,u259,u260,u261,u262,u263,u264,u265,u266,u267,u268,u269,u270,u271,u272,u273,u274,u275,u276,u277,u278,u279,u280,u281,u282,u283,u284,u285,u286,u287,u288,u289,u290,u291,u292,u293,u294,u295,u296,u297,u298,u299,u300,u301,u302,u303,u304,u305,u306,u307,u308,u309,u310,u311,u312,u313,u314,u315,u316,u317,u318,u319,u320,u321,u322,u323,u324,u325,u326,u327,u328,u329,u330,u331,u332,u333,u334,u335,u336,u337,u338,u339],[]⟩ w := by
  have HK := Lib.hid hk
  have hno : n = 32 ∨ n = 64 := hn ▸ Rf.n_or κ hκ
  have hql : q < w.heap.size := (Array.getElem?_eq_some_iff.1 hkb).1
  have hwl := Rf.words_lt κ hκ B hB
  have htk := Rf.turn_ok κ hκ
  have hr := Rf.rd_ok κ hκ
  have hse := Rf.sched_eq κ B
  rw [hrd] at hr hse
  rw [hn] at hwl htk hse
  obtain ⟨ws,hws⟩ : ∃ ws,Hs.words (Hs.K κ) B = ws := ⟨_,rfl⟩
  rw [hws] at hwl hf hse
  have HW := Lib.hid hws
  have HKL := Lib.hid (And.intro hwl (And.intro htk hse))
  have hr16 := hr.1
  have hr80 := hr.2
  clear hk hws hwl htk hr hse
  conv => arg 2; arg 1; whnf
  dsimp only
  go_loopw [12] (fun iv wr => ∃ (i : Nat),i ≤ rd ∧ 16 ≤ i ∧ iv = .int .i64 (i : Int) ∧ Hs.But gw w wr ∧ Rf.Cel wr gw rd (fun j => if j < i then ws.getD j 0 else 0)) (fun iv _ => rd - (intOf iv).toNat)
  case atStart => exact ⟨16,hr16,by omega,rfl,Hs.But.refl _ _,hf⟩
  case round =>
  obtain ⟨i,hi,hi16,rfl,hBut,hC⟩ := hrel
  obtain ⟨w2,rfl⟩ : ∃ w2,w2 = wr := ⟨_,rfl⟩
  have kb2 := (hBut.block q hql hqw).trans hkb
  have c1 := (cell_of_row w2 q 1 _ _ _ kb2).trans (show (Rf.kc κ (.slice (some ⟨gK,0,none⟩) rd cK) vF)[1]? = some (.int .i64 (rd : Int)) by rw [← hrd]; rfl)
  by_cases hi8 : i < rd
  · have hiz : (i : Int) < (rd : Int) := by omega
    obtain ⟨f,hfd⟩ : ∃ f : Nat → Nat,(fun j => if j < i then ws.getD j 0 else 0) = f := ⟨_,rfl⟩
    rw [hfd] at hC
    have hx := hC.cell (i - 15) (by omega)
    have hy := hC.cell (i - 2) (by omega)
    have hfl : ∀ j,f j < 2 ^ n := by
      intro j
      rw [← hfd]
      show (if j < i then ws.getD j 0 else 0) < 2 ^ n
      split
      · exact HKL.out.1 j
      · exact Nat.two_pow_pos n
    have hz := HKL.out.2.2 i hi16 hi8 f (fun j hj => by rw [← hfd]; show (if j < i then ws.getD j 0 else 0) = _; rw [if_pos hj])
    have hnext : ∀ j,(if j = i then ws.getD i 0 else f j) = (if j < i + 1 then ws.getD j 0 else 0) := by
      intro j
      rw [← hfd]
      show (if j = i then ws.getD i 0 else if j < i then ws.getD j 0 else 0) = _
      by_cases e : j = i
      · subst e; rw [if_pos rfl,if_pos (by omega)]
      · rw [if_neg e]
        by_cases h : j < i
        · rw [if_pos h,if_pos (by omega)]
        · rw [if_neg h,if_neg (by omega)]
    have HH := Lib.hid (And.intro hfl (And.intro hz hnext))
    clear hfd hfl hz hnext
    go_upto_region 21 with fail
    refine Rf.r21 (hi := hi16) (hi2 := hi8) (hrd := hr80) (hx := hx) (hy := hy) (hk := ?_)
    intro v102 v103 v104 v105 v106 v107 v108 v109 v110 v111 w3 hB3
    have kb3 := (hB3.block q (Nat.lt_of_lt_of_le hql hBut.size)).trans kb2
    have hC3 := hC.below hB3
    clear hx hy kb2 c1 hC
    go_upto_region 22 with fail
    refine Rf.r22 (hR := Rf.kc_size _ _ _) (hkb := kb3) (hn := hno) (h0 := by rw [← hn]; rfl) (r3 := rfl) (r4 := rfl) (r5 := rfl) (r6 := rfl) (r7 := rfl) (r8 := rfl) (ha := HKL.out.2.1.2.2.1) (hb := HKL.out.2.1.2.2.2) (hi := hi16) (hi2 := hi8) (hrd := hr80) (hf := hC3.cell) (hfr := hC3.fro) (hlt := HH.out.1) (hx := rfl) (hy := rfl) (hk := ?_)
    intro v112 v113 v114 v115 v116 v117 v118 v119 v120 v121 v122 v123 v124 v125 v126 v127 v128 v129 v130 v131 v132 v133 v134 v135 v136 v137 v138 v139 v140 v141 v142 v143 v144 v145 v146 v147 v148 v149 v150 v151 v152 v153 v154 v155 v156 v157 v158 v159 v160 v161 v162 v163 v164 v165 v166 v167 w4 hB4
    rw [HH.out.2.1]
    have hC5 := ((hC3.below hB4).set i (ws.getD i 0) hi8).congr (fun j _ => HH.out.2.2 j)
    have hBut5 := (hBut.trans (Hs.But.ofBelow (b := gw) hB3 (Nat.le_refl _))).trans ((Hs.But.ofBelow (b := gw) hB4 (Nat.le_refl _)).trans (Hs.But.set _ i (.int .u64 ((ws.getD i 0 : Nat) : Int))))
    clear kb3 hC3
    go_wp2_with fail
    exact ⟨⟨i + 1,by omega,by omega,by go_num,hBut5,hC5⟩,by simp [intOf]; omega⟩
  · have hie : i = rd := by omega
    have hiz : ¬ (i : Int) < (rd : Int) := by omega
    have hC8 := hC.congr (f' := fun j => ws.getD j 0) (fun j hj => by rw [if_pos (by omega)])
    rw [← HW.out] at hC8
    clear hC hie
    go_wp2_with fail
    exact HK.out _ _ _ _ _ _ _ _ _ _ _ _ _ _ _ _ _ _ _ _ _ _ _ _ _ _ _ _ _ _ _ _ _ _ _ _ _ _ _ _ _ _ _ _ _ _ _ _ _ _ _ _ _ _ _ _ _ _ _ _ _ _ _ _ _ _ _ _ _ _ _ _ _ _ _ _ hBut hC8
end
end
section
section
open Go.RowKit

theorem Rf.part_small (n wb : Nat) (B : Nat → Nat) (i : Nat) (hB : ∀ j,B j < 256) : ∀ k,8 * k ≤ n → Hs.part n wb B i k < 2 ^ (8 * k)
  | 0,_ => by simp [Hs.part]
  | k + 1,h => by
    have ih := Rf.part_small n wb B i hB k (by omega)
    rw [Hs.part]
    have e : 2 ^ (8 * (k + 1)) = 2 ^ (8 * k) * 256 := by rw [Nat.mul_add,Nat.pow_add]
    refine Nat.or_lt_two_pow (Nat.lt_of_le_of_lt (Nat.mod_le _ _) (by rw [e]; omega)) (Nat.lt_of_lt_of_le (hB _) ?_)
    rw [e]
    have := Nat.two_pow_pos (8 * k)
    omega
theorem Rf.part_step (n wb : Nat) (B : Nat → Nat) (i k : Nat) (hn : n = 8 * wb) (hk : k < wb) (hB : ∀ j,B j < 256) : Hs.part n wb B i k * 256 < 2 ^ n ∧ Hs.part n wb B i (k + 1) = (Hs.part n wb B i k * 256 ||| B (i * wb + k)) := by
  have h := Rf.part_small n wb B i hB k (by omega)
  have h2 : Hs.part n wb B i k * 256 < 2 ^ n := by
    have e : 2 ^ (8 * k) * 256 ≤ 2 ^ n := by
      rw [show (256 : Nat) = 2 ^ 8 by decide,← Nat.pow_add]
      exact Nat.pow_le_pow_right (by decide) (by omega)
    omega
  refine ⟨h2,?_⟩
  rw [Hs.part,Nat.mod_eq_of_lt h2]
set_option maxHeartbeats 1000000 in
set_option maxRecDepth 100000 in
theorem Rf.l4 (w : World) (wd gb lb cb at_ gw rd i n : Nat) {u0 u1 u2 u3 u4 u7 u12 u13 u14 u15 u16 u17 u18 u19 u20 u21 u22 u23 u24 u25 u26 u27 u28 u29 u30 u31 u32 u33 u34 u35 u36 u37 u38 u39 u40 u41 u42 u43 u44 u45 u46 u47 u48 u49 u50 u51 u52 u53 u54 u55 u56 u57 u58 u59 u60 u61 u62 u63 u64 u65 u66 u67 u68 u69 u70 u71 u72 u73 u74 u75 u76 u77 u78 u79 u80 u81 u82 u83 u84 u85 u86 u87 u88 u89 u90 u91 u92 u93 u94 u95 u96 u97 u98 u99 u100 u101 u102 u103 u104 u105 u106 u107 u108 u109 u110 u111 u112 u113 u114 u115 u116 u117 u118 u119 u120 u121 u122 u123 u124 u125 u126 u127 u128 u129 u130 u131 u132 u133 u134 u135 u136 u137 u138 u139 u140 u141 u142 u143 u144 u145 u146 u147 u148 u149 u150 u151 u152 u153 u154 u155 u156 u157 u158 u159 u160 u161 u162 u163 u164 u165 u166 u167 u168 u169 u170 u171 u172 u173 u174 u175 u176 u177 u178 u179 u180 u181 u182 u183 u184 u185 u186 u187 u188 u189 u190 u191 u192 u193 u194 u195 u196 u197 u198 u199 u200 u201 u202 u203 u204 u205 u206 u207 u208 u209 u210 u211 u212 u213 u214 u215 u216 u217 u218 u219 u220 u221 u222 u223 u224 u225 u226 u227 u228 u229 u230 u231 u232 u233 u234 u235 u236 u237 u238 u239 u240 u241 u242 u243 u244 u245 u246 u247 u248 u249 u250 u251 u252 u253 u254 u255 u256 u257 u258 u259 u260 u261 u262 u263 u264 u265 u266 u267 u268 u269 u270 u271 u272 u273 u274 u275 u276 u277 u278 u279 u280 u281 u282 u283 u284 u285 u286 u287 u288 u289 u290 u291 u292 u293 u294 u295 u296 u297 u298 u299 u300 u301 u302 u303 u304 u305 u306 u307 u308 u309 u310 u311 u312 u313 u314 u315 u316 u317 u318 u319 u320 u321 u322 u323 u324 u325 u326 u327 u328 u329 u330 u331 u332 u333 u334 u335 u336 u337 u338 u339 : Value} (Q0 : Exit → Act → World → Prop) (m : List UInt8) (B : Nat → Nat) (hBe : ∀ j,B j = (m.getD (at_ + j) 0).toNat)
    (hn : n = 8 * wd) (hwd : wd = 4 ∨ wd = 8) (hi : i < 16) (hrd : 16 ≤ rd ∧ rd ≤ 80) (hlb : lb ≤ 9223372036854775807) (hat : at_ + 16 * wd ≤ lb) (hbw : gb ≠ gw) (hbl : gb < w.heap.size) (hb : ∀ j,j < lb → w.cell? ⟨gb,j,none⟩ = some (.int .u8 ((m.getD j 0).toNat : Int)))
    (hf : Rf.Cel w gw rd (fun j => if j < i then Hs.part n wd B j wd else 0))
    (hk : ∀ (v11 v71 v72 v73 v74 v75 v76 v77 v78 v79 v80 v81 v82 v83 v84 v85 v86 v87 v88 v89 v90 v91 v92 v93 v94 v95 : Value) (W : World),Hs.But gw w W → Rf.Cel W gw rd (fun j => if j < i + 1 then Hs.part n wd B j wd else 0) → Q0 (.exit 6) ⟨#[u0,u1,u2,u3,u4,.int .i64 (wd : Int),.slice (some ⟨gb,0,none⟩) lb cb,u7,.int .i64 (at_ : Int),.slice (some ⟨gw,0,none⟩) rd rd,.int .i64 (i : Int),v11,u12,u13,u14,u15,u16,u17,u18,u19,u20,u21,u22,u23,u24,u25,u26,u27,u28,u29,u30,u31,u32,u33,u34,u35,u36,u37,u38,u39,u40,u41,u42,u43,u44,u45,u46,u47,u48,u49,u50,u51,u52,u53,u54,u55,u56,u57,u58,u59,u60,u61,u62,u63,u64,u65,u66,u67,u68,u69,u70,v71,v72,v73,v74,v75,v76,v77,v78,v79,v80,v81,v82,v83,v84,v85,v86,v87,v88,v89,v90,v91,v92,v93,v94,v95,u96,u97,u98,u99,u100,u101,u102,u103,u104,u105,u106,u107,u108,u109,u110,u111,u112,u113,u114,u115,u116,u117,u118,u119,u120,u121,u122,u123,u124,u125,u126,u127,u128,u129,u130,u131,u132,u133,u134,u135,u136,u137,u138,u139,u140,u141,u142,u143,u144,u145,u146,u147,u148,u149,u150,u151,u152,u153,u154,u155,u156,u157,u158,u159,u160,u161,u162,u163,u164,u165,u166,u167,u168,u169,u170,u171,u172,u173,u174,u175,u176,u177,u178,u179,u180,u181,u182,u183,u184,u185,u186,u187,u188,u189,u190,u191,u192,u193,u194,u195,u196,u197,u198,u199,u200,u201,u202,u203,u204,u205,u206,u207,u208,u209,u210,u211,u212,u213,u214,u215,u216,u217,u218,u219,u220,u221,u222,u223,u224,u225,u226,u227,u228,u229,u230,u231,u232,u233,u234,u235,u236,u237,u238,u239,u240,u241,u242,u243,u244,u245,u246,u247,u248,u249,u250,u251,u252,u253,u254,u255,u256,u257,u258,u259,u260,u261,u262,u263,u264,u265,u266,u267,u268,u269,u270,u271,u272,u273,u274,u275,u276,u277,u278,u279,u280,u281,u282,u283,u284,u285,u286,u287,u288,u289,u290,u291,u292,u293,u294,u295,u296,u297,u298,u299,u300,u301,u302,u303,u304,u305,u306,u307,u308,u309,u310,u311,u312,u313,u314,u315,u316,u317,u318,u319,u320,u321,u322,u323,u324,u325,u326,u327,u328,u329,u330,u331,u332,u333,u334,u335,u336,u337,u338,u339],[]⟩ W) : Code.wp Tryz.prog (Code.loop Rf.lp4) Q0 ⟨#[u0,u1,u2,u3,u4,.int .i64 (wd : Int),.slice (some ⟨gb,0,none⟩) lb cb,u7,.int .i64 (at_ : Int),.slice (some ⟨gw,0,none⟩) rd rd,.int .i64 (i : Int),.int .i64 0,u12,u13,u14,u15,u16,u17,u18,u19,u20,u21,u22,u23,u24,u25,u26,u27,u28,u29,u30,u31,u32,u33,u34,u35,u36,u37,u38,u39,u40,u41,u42,u43,u44,u45,u46,u47,u48,u49,u50,u51,u52,u53,u54,u55,u56,u57,u58,u59,u60,u61,u62,u63,u64,u65,u66,u67,u68,u69,u70,u71,u72,u73,u74,u75,u76,u77,u78,u79,u80,u81,u82,u83,u84,u85,u86,u87,u88,u89,u90,u91,u92,u93,u94,u95,u96,u97,u98,u99,u100,u101,u102,u103,u104,u105,u106,u107,u108,u109,u110,u111,u112,u113,u114,u115,u116,u117,u118,u119,u120,u121,u122,u123,u124,u125,u126,u127,u128,u129,u130,u131,u132,u133,u134,u135,u136,u137,u138,u139,u140,u141,u142,u143,u144,u145,u146,u147,u148,u149,u150,u151,u152,u153,u154,u155,u156,u157,u158,u159,u160,u161,u162,u163,u164,u165,u166,u167,u168,u169,u170,u171,u172,u173,u174,u175,u176,u177,u178,u179,u180,u181,u182,u183,u184,u185,u186,u187,u188,u189,u190,u191,u192,u193,u194,u195,u196,u197,u198,u199,u200,u201,u202,u203,u204,u205,u206,u207,u208,u209,u210,u211,u212,u213,u214,u215,u216,u217,u218,u219,u220,u221,u222,u223,u224,u225,u226,u227,u228,u229,u230,u231,u232,u233,u234,u235,u236,u237,u238,u239,u240,u241,u242,u243,u244,u245,u246,u247,u248,u249,u250,u251,u252,u253,u254,u255,u256,u257,u258,u259,u260,u261,u262,u263,u264,u265,u266,u267,u268,u269,u270,u271,u272,u273,u274,u275,u276,u277,u278,u279,u280,u281,u282,u283,u284,u285,u286,u287,u288,u289,u290,u291,u292,u293,u294,u295,u296,u297,u298,u299,u300,u301,u302,u303,u304,u305,u306,u307,u308,u309,u310,u311,u312,u313,u314,u315,u316,u317,u318,u319,u320,u321,u322,u323,u324,u325,u326,u327,u328,u329,u330,u331,u332,u333,u334,u335,u336,u337,u338,u339],[]⟩ w := by
  have HK := Lib.hid hk
  have hBl : ∀ j,B j < 256 := fun j => by rw [hBe]; exact UInt8.toNat_lt _
  have HP := Lib.hid (And.intro (fun k hk => Rf.part_step n wd B i k hn hk hBl) hBe)
  have h64 : 2 ^ n ≤ 18446744073709551616 := by rw [hn]; rcases hwd with rfl | rfl <;> decide
  have H64 := Lib.hid (And.intro h64 hBl)
  have hwd8 : wd ≤ 8 := by omega
  have hwi : wd * i + wd ≤ 16 * wd := by
    have : wd * (i + 1) ≤ wd * 16 := Nat.mul_le_mul_left _ hi
    rw [Nat.mul_add,Nat.mul_one] at this
    omega
  have HB := Lib.hid hb
  clear hk h64 hn hBl hBe hb
  conv => arg 2; arg 1; whnf
  dsimp only
  go_loopw [11] (fun kv wr => ∃ (k : Nat),k ≤ wd ∧ kv = .int .i64 (k : Int) ∧ Hs.But gw w wr ∧ Rf.Cel wr gw rd (fun j => if j < i then Hs.part n wd B j wd else if j = i then Hs.part n wd B i k else 0)) (fun kv _ => wd - (intOf kv).toNat)
  case atStart => exact ⟨0,by omega,rfl,Hs.But.refl _ _,hf.congr (fun j _ => by
    by_cases h : j < i
    · rw [if_pos h,if_pos h]
    · rw [if_neg h,if_neg h]; split <;> rfl)⟩
  case round =>
  obtain ⟨k,hkw,rfl,hBut,hC⟩ := hrel
  obtain ⟨w2,rfl⟩ : ∃ w2,w2 = wr := ⟨_,rfl⟩
  by_cases hi8 : k < wd
  · have hiz : (k : Int) < (wd : Int) := by omega
    have hx := hC.cell i (by omega)
    rw [if_neg (by omega),if_pos rfl] at hx
    have hfx := hC.fro i
    have hj : at_ + wd * i + k < lb := by omega
    have hc := (Rf.cell_eq (j := at_ + wd * i + k) (hBut.block gb hbl hbw)).trans (HB.out _ hj)
    have hp := HP.out.1 k hi8
    have hbe := HP.out.2 (i * wd + k)
    rw [show at_ + (i * wd + k) = at_ + wd * i + k by rw [Nat.mul_comm i wd]; omega] at hbe
    have hxl : Hs.part n wd B i k * 256 < 18446744073709551616 := Nat.lt_of_lt_of_le hp.1 H64.out.1
    rw [hbe] at hp
    have HC := Lib.hid (And.intro hC hp.2)
    clear hC hp hbe
    go_upto_region 17 with fail
    refine Rf.r17 (k := k) (hi := by omega) (hrd := hrd.2) (hwd := hwd8) (hk8 := by omega) (hj := hj) (hlb := hlb) (hx := hx) (hfx := hfx) (hxl := hxl) (hc := hc) (hk := ?_)
    intro v76 v77 v78 v79 v80 v81 v82 v83 v84 v85 v86 v87 v88 v89 v90 v91 v92 v93 v94 v95 w3 hB3
    rw [← HC.out.2]
    have hC3 := ((HC.out.1.below hB3).set i (Hs.part n wd B i (k + 1)) (by omega)).congr (f' := fun j => if j < i then Hs.part n wd B j wd else if j = i then Hs.part n wd B i (k + 1) else 0) (fun j hj => by
      by_cases e : j = i
      · subst e; rw [if_pos rfl,if_neg (by omega),if_pos rfl]
      · rw [if_neg e]
        by_cases h : j < i
        · rw [if_pos h,if_pos h]
        · rw [if_neg h,if_neg h,if_neg e,if_neg e])
    have hBut3 := hBut.trans ((Hs.But.ofBelow (b := gw) hB3 (Nat.le_refl _)).trans (Hs.But.set _ i (.int .u64 ((Hs.part n wd B i (k + 1) : Nat) : Int))))
    clear hx hfx hc hxl
    go_wp2_with fail
    exact ⟨⟨k + 1,by omega,by go_num,hBut3,hC3⟩,by simp [intOf]; omega⟩
  · have hie : k = wd := by omega
    have hiz : ¬ (k : Int) < (wd : Int) := by omega
    have hC8 := hC.congr (f' := fun j => if j < i + 1 then Hs.part n wd B j wd else 0) (fun j hj => by
      by_cases e : j = i
      · subst e; rw [if_neg (by omega),if_pos rfl,if_pos (by omega),hie]
      · by_cases h : j < i
        · rw [if_pos h,if_pos (by omega)]
        · rw [if_neg h,if_neg e,if_neg (by omega)])
    clear hC hie
    go_wp2_with fail
    exact HK.out _ _ _ _ _ _ _ _ _ _ _ _ _ _ _ _ _ _ _ _ _ _ _ _ _ _ _ hBut hC8
set_option maxHeartbeats 1000000 in
set_option maxRecDepth 100000 in
theorem Rf.l3 (w : World) (wd gb lb cb at_ gw rd n : Nat) {u0 u1 u2 u3 u4 u7 u11 u12 u13 u14 u15 u16 u17 u18 u19 u20 u21 u22 u23 u24 u25 u26 u27 u28 u29 u30 u31 u32 u33 u34 u35 u36 u37 u38 u39 u40 u41 u42 u43 u44 u45 u46 u47 u48 u49 u50 u51 u52 u53 u54 u55 u56 u57 u58 u59 u60 u61 u62 u63 u64 u65 u66 u67 u68 u69 u70 u71 u72 u73 u74 u75 u76 u77 u78 u79 u80 u81 u82 u83 u84 u85 u86 u87 u88 u89 u90 u91 u92 u93 u94 u95 u96 u97 u98 u99 u100 u101 u102 u103 u104 u105 u106 u107 u108 u109 u110 u111 u112 u113 u114 u115 u116 u117 u118 u119 u120 u121 u122 u123 u124 u125 u126 u127 u128 u129 u130 u131 u132 u133 u134 u135 u136 u137 u138 u139 u140 u141 u142 u143 u144 u145 u146 u147 u148 u149 u150 u151 u152 u153 u154 u155 u156 u157 u158 u159 u160 u161 u162 u163 u164 u165 u166 u167 u168 u169 u170 u171 u172 u173 u174 u175 u176 u177 u178 u179 u180 u181 u182 u183 u184 u185 u186 u187 u188 u189 u190 u191 u192 u193 u194 u195 u196 u197 u198 u199 u200 u201 u202 u203 u204 u205 u206 u207 u208 u209 u210 u211 u212 u213 u214 u215 u216 u217 u218 u219 u220 u221 u222 u223 u224 u225 u226 u227 u228 u229 u230 u231 u232 u233 u234 u235 u236 u237 u238 u239 u240 u241 u242 u243 u244 u245 u246 u247 u248 u249 u250 u251 u252 u253 u254 u255 u256 u257 u258 u259 u260 u261 u262 u263 u264 u265 u266 u267 u268 u269 u270 u271 u272 u273 u274 u275 u276 u277 u278 u279 u280 u281 u282 u283 u284 u285 u286 u287 u288 u289 u290 u291 u292 u293 u294 u295 u296 u297 u298 u299 u300 u301 u302 u303 u304 u305 u306 u307 u308 u309 u310 u311 u312 u313 u314 u315 u316 u317 u318 u319 u320 u321 u322 u323 u324 u325 u326 u327 u328 u329 u330 u331 u332 u333 u334 u335 u336 u337 u338 u339 : Value} (Q0 : Exit → Act → World → Prop) (m : List UInt8) (B : Nat → Nat) (hBe : ∀ j,B j = (m.getD (at_ + j) 0).toNat)
    (hn : n = 8 * wd) (hwd : wd = 4 ∨ wd = 8) (hrd : 16 ≤ rd ∧ rd ≤ 80) (hlb : lb ≤ 9223372036854775807) (hat : at_ + 16 * wd ≤ lb) (hbw : gb ≠ gw) (hbl : gb < w.heap.size) (hb : ∀ j,j < lb → w.cell? ⟨gb,j,none⟩ = some (.int .u8 ((m.getD j 0).toNat : Int)))
    (hf : Rf.Cel w gw rd (fun _ => 0))
    (hk : ∀ (v10 v11 v67 v68 v69 v70 v71 v72 v73 v74 v75 v76 v77 v78 v79 v80 v81 v82 v83 v84 v85 v86 v87 v88 v89 v90 v91 v92 v93 v94 v95 : Value) (W : World),Hs.But gw w W → Rf.Cel W gw rd (fun j => if j < 16 then Hs.part n wd B j wd else 0) → Q0 (.exit 4) ⟨#[u0,u1,u2,u3,u4,.int .i64 (wd : Int),.slice (some ⟨gb,0,none⟩) lb cb,u7,.int .i64 (at_ : Int),.slice (some ⟨gw,0,none⟩) rd rd,v10,v11,u12,u13,u14,u15,u16,u17,u18,u19,u20,u21,u22,u23,u24,u25,u26,u27,u28,u29,u30,u31,u32,u33,u34,u35,u36,u37,u38,u39,u40,u41,u42,u43,u44,u45,u46,u47,u48,u49,u50,u51,u52,u53,u54,u55,u56,u57,u58,u59,u60,u61,u62,u63,u64,u65,u66,v67,v68,v69,v70,v71,v72,v73,v74,v75,v76,v77,v78,v79,v80,v81,v82,v83,v84,v85,v86,v87,v88,v89,v90,v91,v92,v93,v94,v95,u96,u97,u98,u99,u100,u101,u102,u103,u104,u105,u106,u107,u108,u109,u110,u111,u112,u113,u114,u115,u116,u117,u118,u119,u120,u121,u122,u123,u124,u125,u126,u127,u128,u129,u130,u131,u132,u133,u134,u135,u136,u137,u138,u139,u140,u141,u142,u143,u144,u145,u146,u147,u148,u149,u150,u151,u152,u153,u154,u155,u156,u157,u158,u159,u160,u161,u162,u163,u164,u165,u166,u167,u168,u169,u170,u171,u172,u173,u174,u175,u176,u177,u178,u179,u180,u181,u182,u183,u184,u185,u186,u187,u188,u189,u190,u191,u192,u193,u194,u195,u196,u197,u198,u199,u200,u201,u202,u203,u204,u205,u206,u207,u208,u209,u210,u211,u212,u213,u214,u215,u216,u217,u218,u219,u220,u221,u222,u223,u224,u225,u226,u227,u228,u229,u230,u231,u232,u233,u234,u235,u236,u237,u238,u239,u240,u241,u242,u243,u244,u245,u246,u247,u248,u249,u250,u251,u252,u253,u254,u255,u256,u257,u258,u259,u260,u261,u262,u263,u264,u265,u266,u267,u268,u269,u270,u271,u272,u273,u274,u275,u276,u277,u278,u279,u280,u281,u282,u283,u284,u285,u286,u287,u288,u289,u290,u291,u292,u293,u294,u295,u296,u297,u298,u299,u300,u301,u302,u303,u304,u305,u306,u307,u308,u309,u310,u311,u312,u313,u314,u315,u316,u317,u318,u319,u320,u321,u322,u323,u324,u325,u326,u327,u328,u329,u330,u331,u332,u333,u334,u335,u336,u337,u338,u339],[]⟩ W) : Code.wp Tryz.prog (Code.loop Rf.lp3) Q0 ⟨#[u0,u1,u2,u3,u4,.int .i64 (wd : Int),.slice (some ⟨gb,0,none⟩) lb cb,u7,.int .i64 (at_ : Int),.slice (some ⟨gw,0,none⟩) rd rd,.int .i64 0,u11,u12,u13,u14,u15,u16,u17,u18,u19,u20,u21,u22,u23,u24,u25,u26,u27,u28,u29,u30,u31,u32,u33,u34,u35,u36,u37,u38,u39,u40,u41,u42,u43,u44,u45,u46,u47,u48,u49,u50,u51,u52,u53,u54,u55,u56,u57,u58,u59,u60,u61,u62,u63,u64,u65,u66,u67,u68,u69,u70,u71,u72,u73,u74,u75,u76,u77,u78,u79,u80,u81,u82,u83,u84,u85,u86,u87,u88,u89,u90,u91,u92,u93,u94,u95,u96,u97,u98,u99,u100,u101,u102,u103,u104,u105,u106,u107,u108,u109,u110,u111,u112,u113,u114,u115,u116,u117,u118,u119,u120,u121,u122,u123,u124,u125,u126,u127,u128,u129,u130,u131,u132,u133,u134,u135,u136,u137,u138,u139,u140,u141,u142,u143,u144,u145,u146,u147,u148,u149,u150,u151,u152,u153,u154,u155,u156,u157,u158,u159,u160,u161,u162,u163,u164,u165,u166,u167,u168,u169,u170,u171,u172,u173,u174,u175,u176,u177,u178,u179,u180,u181,u182,u183,u184,u185,u186,u187,u188,u189,u190,u191,u192,u193,u194,u195,u196,u197,u198,u199,u200,u201,u202,u203,u204,u205,u206,u207,u208,u209,u210,u211,u212,u213,u214,u215,u216,u217,u218,u219,u220,u221,u222,u223,u224,u225,u226,u227,u228,u229,u230,u231,u232,u233,u234,u235,u236,u237,u238,u239,u240,u241,u242,u243,u244,u245,u246,u247,u248,u249,u250,u251,u252,u253,u254,u255,u256,u257,u258,u259,u260,u261,u262,u263,u264,u265,u266,u267,u268,u269,u270,u271,u272,u273,u274,u275,u276,u277,u278,u279,u280,u281,u282,u283,u284,u285,u286,u287,u288,u289,u290,u291,u292,u293,u294,u295,u296,u297,u298,u299,u300,u301,u302,u303,u304,u305,u306,u307,u308,u309,u310,u311,u312,u313,u314,u315,u316,u317,u318,u319,u320,u321,u322,u323,u324,u325,u326,u327,u328,u329,u330,u331,u332,u333,u334,u335,u336,u337,u338,u339],[]⟩ w := by
  have HK := Lib.hid hk
  have HB := Lib.hid (And.intro hb hBe)
  clear hk hb hBe
  conv => arg 2; arg 1; whnf
  dsimp only
  go_loopw [10] (fun iv wr => ∃ (i : Nat),i ≤ 16 ∧ iv = .int .i64 (i : Int) ∧ Hs.But gw w wr ∧ Rf.Cel wr gw rd (fun j => if j < i then Hs.part n wd B j wd else 0)) (fun iv _ => 16 - (intOf iv).toNat)
  case atStart => exact ⟨0,by omega,rfl,Hs.But.refl _ _,hf.congr (fun j _ => by rw [if_neg (by omega)])⟩
  case round =>
  obtain ⟨i,hi,rfl,hBut,hC⟩ := hrel
  obtain ⟨w2,rfl⟩ : ∃ w2,w2 = wr := ⟨_,rfl⟩
  by_cases hi8 : i < 16
  · have hiz : (i : Int) < 16 := by omega
    have HC := Lib.hid hC
    clear hC
    go_wp2_with fail
    refine Rf.l4 (i := i) (B := B) (hBe := HB.out.2) (hn := hn) (hwd := hwd) (hi := hi8) (hrd := hrd) (hlb := hlb) (hat := hat) (hbw := hbw) (hbl := Nat.lt_of_lt_of_le hbl hBut.size) (hb := fun j hj => (Rf.cell_eq (hBut.block gb hbl hbw)).trans (HB.out.1 j hj)) (hf := HC.out) (hk := ?_)
    intro v11 v71 v72 v73 v74 v75 v76 v77 v78 v79 v80 v81 v82 v83 v84 v85 v86 v87 v88 v89 v90 v91 v92 v93 v94 v95 w3 hB3 hC3
    have hBut3 := hBut.trans hB3
    go_wp2_with fail
    exact ⟨⟨i + 1,by omega,by go_num,hBut3,hC3⟩,by simp [intOf]; omega⟩
  · have hie : i = 16 := by omega
    have hiz : ¬ (i : Int) < 16 := by omega
    rw [hie] at hC
    clear hie
    go_wp2_with fail
    exact HK.out _ _ _ _ _ _ _ _ _ _ _ _ _ _ _ _ _ _ _ _ _ _ _ _ _ _ _ _ _ _ _ _ hBut hC
end
section
open Go.RowKit

theorem Rf.alloc_cell (w : World) (o : Obj) (p : Addr) (v : Value) (h : w.cell? p = some v) : (w.alloc o).cell? p = some v := (World.cell?_alloc_lt _ _ _ (block_lt_of_cell h)).trans h
theorem Rf.Cel.ofFn {W : World} {g n : Nat} (h : W.heap[g]? = some (.cells (Hs.fn n (fun _ => .int .u64 0)) 76 (0,0))) : Rf.Cel W g n (fun _ => 0) :=
  ⟨fun _ hj => (Hs.Blk.cell (T := 76) (c := fun _ => .int .u64 0) h hj),fun _ => Rf.frozen_of h,(Array.getElem?_eq_some_iff.1 h).1⟩
theorem Rf.blk_eq (κ : Nat) (h : κ < 2) : Hs.blk κ = 16 * (Hs.K κ).wb ∧ (Hs.K κ).n = 8 * (Hs.K κ).wb ∧ ((Hs.K κ).wb = 4 ∨ (Hs.K κ).wb = 8) := by rcases Rf.kκ κ h with rfl | rfl <;> decide
def Rf.l8 (f : Nat → Nat) : List Nat := (List.range 8).map f
theorem Rf.l8_get (f : Nat → Nat) (j : Nat) (hj : j < 8) : (Rf.l8 f).getD j 0 = f j := by simp [Rf.l8,List.getD_eq_getElem?_getD,hj]
theorem Rf.l8_new {W : World} {g : Nat} {f : Nat → Nat} (h : Rf.Dig W g 8 f) : ∀ j u,((Rf.l8 f).map Rf.qv)[j]? = some u → W.cell? ((⟨g,0,none⟩ : Addr).add j) = some u := by
  intro j u hu
  have hj : j < 8 := by have := (List.getElem?_eq_some_iff.1 hu).1; simpa [Rf.l8] using this
  have e : ((⟨g,0,none⟩ : Addr).add j) = ⟨g,j,none⟩ := by unfold Addr.add; split <;> simp_all
  rw [e,h.cell j hj]
  simp [Rf.l8,hj,Rf.qv] at hu
  rw [← hu]
set_option maxHeartbeats 1000000 in
set_option maxRecDepth 100000 in
theorem Rf.l2b (w : World) (κ : Nat) (hκ : κ < 2) (n rd wd : Nat) (hn : (Hs.K κ).n = n) (hrd : (Hs.K κ).rounds = rd) (hwd : (Hs.K κ).wb = wd) (q gK cK gb lb cb gs cs T : Nat) (vF : Value) {u0 u1 u3 u4 u9 u10 u11 u12 u13 u14 u15 u16 u17 u18 u19 u20 u21 u22 u23 u24 u25 u26 u27 u28 u29 u30 u31 u32 u33 u34 u35 u36 u37 u38 u39 u40 u41 u42 u43 u44 u45 u46 u47 u48 u49 u50 u51 u52 u53 u54 u55 u56 u57 u58 u59 u60 u61 u62 u63 u64 u65 u66 u67 u68 u69 u70 u71 u72 u73 u74 u75 u76 u77 u78 u79 u80 u81 u82 u83 u84 u85 u86 u87 u88 u89 u90 u91 u92 u93 u94 u95 u96 u97 u98 u99 u100 u101 u102 u103 u104 u105 u106 u107 u108 u109 u110 u111 u112 u113 u114 u115 u116 u117 u118 u119 u120 u121 u122 u123 u124 u125 u126 u127 u128 u129 u130 u131 u132 u133 u134 u135 u136 u137 u138 u139 u140 u141 u142 u143 u144 u145 u146 u147 u148 u149 u150 u151 u152 u153 u154 u155 u156 u157 u158 u159 u160 u161 u162 u163 u164 u165 u166 u167 u168 u169 u170 u171 u172 u173 u174 u175 u176 u177 u178 u179 u180 u181 u182 u183 u184 u185 u186 u187 u188 u189 u190 u191 u192 u193 u194 u195 u196 u197 u198 u199 u200 u201 u202 u203 u204 u205 u206 u207 u208 u209 u210 u211 u212 u213 u214 u215 u216 u217 u218 u219 u220 u221 u222 u223 u224 u225 u226 u227 u228 u229 u230 u231 u232 u233 u234 u235 u236 u237 u238 u239 u240 u241 u242 u243 u244 u245 u246 u247 u248 u249 u250 u251 u252 u253 u254 u255 u256 u257 u258 u259 u260 u261 u262 u263 u264 u265 u266 u267 u268 u269 u270 u271 u272 u273 u274 u275 u276 u277 u278 u279 u280 u281 u282 u283 u284 u285 u286 u287 u288 u289 u290 u291 u292 u293 u294 u295 u296 u297 u298 u299 u300 u301 u302 u303 u304 u305 u306 u307 u308 u309 u310 u311 u312 u313 u314 u315 u316 u317 u318 u319 u320 u321 u322 u323 u324 u325 u326 u327 u328 u329 u330 u331 u332 u333 u334 u335 u336 u337 u338 u339 : Value} (Q0 : Exit → Act → World → Prop) (m : List UInt8)
    (hkb : w.heap[q]? = some (.cells (Rf.kc κ (.slice (some ⟨gK,0,none⟩) rd cK) vF) 61 (0,0))) (hlb : lb ≤ 140737488355328) (hT : lb = T * Hs.blk κ) (hK : Rf.Dig w gK rd (Rf.kk κ)) (hb : ∀ j,j < lb → w.cell? ⟨gb,j,none⟩ = some (.int .u8 ((m.getD j 0).toNat : Int))) (hbl : gb < w.heap.size)
    (hqs : q ≠ gs)
    (t a : Nat) (ht : t ≤ T) (hat : a = t * Hs.blk κ) (hC : Rf.Cel w gs 8 (Hs.after κ m t).get)
    (hk : t < T → ∀ (v9 v10 v11 v12 v13 v14 v15 v16 v17 v18 v19 v20 v21 v56 v57 v58 v59 v60 v61 v62 v63 v64 v65 v66 v67 v68 v69 v70 v71 v72 v73 v74 v75 v76 v77 v78 v79 v80 v81 v82 v83 v84 v85 v86 v87 v88 v89 v90 v91 v92 v93 v94 v95 v96 v97 v98 v99 v100 v101 v102 v103 v104 v105 v106 v107 v108 v109 v110 v111 v112 v113 v114 v115 v116 v117 v118 v119 v120 v121 v122 v123 v124 v125 v126 v127 v128 v129 v130 v131 v132 v133 v134 v135 v136 v137 v138 v139 v140 v141 v142 v143 v144 v145 v146 v147 v148 v149 v150 v151 v152 v153 v154 v155 v156 v157 v158 v159 v160 v161 v162 v163 v164 v165 v166 v167 v168 v169 v170 v171 v172 v173 v174 v175 v176 v177 v178 v179 v180 v181 v182 v183 v184 v185 v186 v187 v188 v189 v190 v191 v192 v193 v194 v195 v196 v197 v198 v199 v200 v201 v202 v203 v204 v205 v206 v207 v208 v209 v210 v211 v212 v213 v214 v215 v216 v217 v218 v219 v220 v221 v222 v223 v224 v225 v226 v227 v228 v229 v230 v231 v232 v233 v234 v235 v236 v237 v238 v239 v240 v241 v242 v243 v244 v245 v246 v247 v248 v249 v250 v251 v252 v253 v254 v255 v256 v257 v258 v259 v260 v261 v262 v263 v264 v265 v266 v267 v268 v269 v270 v271 v272 v273 v274 v275 v276 v277 v278 v279 v280 v281 v282 v283 v284 v285 v286 v287 v288 v289 v290 v291 v292 v293 v294 v295 v296 v297 v298 v299 v300 v301 v302 v303 v304 v305 v306 v307 v308 v309 v310 v311 v312 v313 v314 v315 v316 v317 v318 v319 v320 v321 : Value) (a2 : Nat) (W : World),a2 = (t + 1) * Hs.blk κ → Hs.But gs w W → Rf.Cel W gs 8 (Hs.after κ m (t + 1)).get → Q0 .normal ⟨#[u0,u1,.pointer (some ⟨q,0,none⟩),u3,u4,.int .i64 (wd : Int),.slice (some ⟨gb,0,none⟩) lb cb,.slice (some ⟨gs,0,none⟩) 8 cs,.int .i64 (a2 : Int),v9,v10,v11,v12,v13,v14,v15,v16,v17,v18,v19,v20,v21,u22,u23,u24,u25,u26,u27,u28,u29,u30,u31,u32,u33,u34,u35,u36,u37,u38,u39,u40,u41,u42,u43,u44,u45,u46,u47,u48,u49,u50,u51,u52,u53,u54,u55,v56,v57,v58,v59,v60,v61,v62,v63,v64,v65,v66,v67,v68,v69,v70,v71,v72,v73,v74,v75,v76,v77,v78,v79,v80,v81,v82,v83,v84,v85,v86,v87,v88,v89,v90,v91,v92,v93,v94,v95,v96,v97,v98,v99,v100,v101,v102,v103,v104,v105,v106,v107,v108,v109,v110,v111,v112,v113,v114,v115,v116,v117,v118,v119,v120,v121,v122,v123,v124,v125,v126,v127,v128,v129,v130,v131,v132,v133,v134,v135,v136,v137,v138,v139,v140,v141,v142,v143,v144,v145,v146,v147,v148,v149,v150,v151,v152,v153,v154,v155,v156,v157,v158,v159,v160,v161,v162,v163,v164,v165,v166,v167,v168,v169,v170,v171,v172,v173,v174,v175,v176,v177,v178,v179,v180,v181,v182,v183,v184,v185,v186,v187,v188,v189,v190,v191,v192,v193,v194,v195,v196,v197,v198,v199,v200,v201,v202,v203,v204,v205,v206,v207,v208,v209,v210,v211,v212,v213,v214,v215,v216,v217,v218,v219,v220,v221,v222,v223,v224,v225,v226,v227,v228,v229,v230,v231,v232,v233,v234,v235,v236,v237,v238,v239,v240,v241,v242,v243,v244,v245,v246,v247,v248,v249,v250,v251,v252,v253,v254,v255,v256,v257,v258,v259,v260,v261,v262,v263,v264,v265,v266,v267,v268,v269,v270,v271,v272,v273,v274,v275,v276,v277,v278,v279,v280,v281,v282,v283,v284,v285,v286,v287,v288,v289,v290,v291,v292,v293,v294,v295,v296,v297,v298,v299,v300,v301,v302,v303,v304,v305,v306,v307,v308,v309,v310,v311,v312,v313,v314,v315,v316,v317,v318,v319,v320,v321,u322,u323,u324,u325,u326,u327,u328,u329,u330,u331,u332,u333,u334,u335,u336,u337,u338,u339],[]⟩ W)
    (he : t = T → ∀ (v56 v57 v58 v59 : Value),Q0 (.exit 2) ⟨#[u0,u1,.pointer (some ⟨q,0,none⟩),u3,u4,.int .i64 (wd : Int),.slice (some ⟨gb,0,none⟩) lb cb,.slice (some ⟨gs,0,none⟩) 8 cs,.int .i64 (a : Int),u9,u10,u11,u12,u13,u14,u15,u16,u17,u18,u19,u20,u21,u22,u23,u24,u25,u26,u27,u28,u29,u30,u31,u32,u33,u34,u35,u36,u37,u38,u39,u40,u41,u42,u43,u44,u45,u46,u47,u48,u49,u50,u51,u52,u53,u54,u55,v56,v57,v58,v59,u60,u61,u62,u63,u64,u65,u66,u67,u68,u69,u70,u71,u72,u73,u74,u75,u76,u77,u78,u79,u80,u81,u82,u83,u84,u85,u86,u87,u88,u89,u90,u91,u92,u93,u94,u95,u96,u97,u98,u99,u100,u101,u102,u103,u104,u105,u106,u107,u108,u109,u110,u111,u112,u113,u114,u115,u116,u117,u118,u119,u120,u121,u122,u123,u124,u125,u126,u127,u128,u129,u130,u131,u132,u133,u134,u135,u136,u137,u138,u139,u140,u141,u142,u143,u144,u145,u146,u147,u148,u149,u150,u151,u152,u153,u154,u155,u156,u157,u158,u159,u160,u161,u162,u163,u164,u165,u166,u167,u168,u169,u170,u171,u172,u173,u174,u175,u176,u177,u178,u179,u180,u181,u182,u183,u184,u185,u186,u187,u188,u189,u190,u191,u192,u193,u194,u195,u196,u197,u198,u199,u200,u201,u202,u203,u204,u205,u206,u207,u208,u209,u210,u211,u212,u213,u214,u215,u216,u217,u218,u219,u220,u221,u222,u223,u224,u225,u226,u227,u228,u229,u230,u231,u232,u233,u234,u235,u236,u237,u238,u239,u240,u241,u242,u243,u244,u245,u246,u247,u248,u249,u250,u251,u252,u253,u254,u255,u256,u257,u258,u259,u260,u261,u262,u263,u264,u265,u266,u267,u268,u269,u270,u271,u272,u273,u274,u275,u276,u277,u278,u279,u280,u281,u282,u283,u284,u285,u286,u287,u288,u289,u290,u291,u292,u293,u294,u295,u296,u297,u298,u299,u300,u301,u302,u303,u304,u305,u306,u307,u308,u309,u310,u311,u312,u313,u314,u315,u316,u317,u318,u319,u320,u321,u322,u323,u324,u325,u326,u327,u328,u329,u330,u331,u332,u333,u334,u335,u336,u337,u338,u339],[]⟩ w) : Code.wp Tryz.prog Rf.lp2 Q0 ⟨#[u0,u1,.pointer (some ⟨q,0,none⟩),u3,u4,.int .i64 (wd : Int),.slice (some ⟨gb,0,none⟩) lb cb,.slice (some ⟨gs,0,none⟩) 8 cs,.int .i64 (a : Int),u9,u10,u11,u12,u13,u14,u15,u16,u17,u18,u19,u20,u21,u22,u23,u24,u25,u26,u27,u28,u29,u30,u31,u32,u33,u34,u35,u36,u37,u38,u39,u40,u41,u42,u43,u44,u45,u46,u47,u48,u49,u50,u51,u52,u53,u54,u55,u56,u57,u58,u59,u60,u61,u62,u63,u64,u65,u66,u67,u68,u69,u70,u71,u72,u73,u74,u75,u76,u77,u78,u79,u80,u81,u82,u83,u84,u85,u86,u87,u88,u89,u90,u91,u92,u93,u94,u95,u96,u97,u98,u99,u100,u101,u102,u103,u104,u105,u106,u107,u108,u109,u110,u111,u112,u113,u114,u115,u116,u117,u118,u119,u120,u121,u122,u123,u124,u125,u126,u127,u128,u129,u130,u131,u132,u133,u134,u135,u136,u137,u138,u139,u140,u141,u142,u143,u144,u145,u146,u147,u148,u149,u150,u151,u152,u153,u154,u155,u156,u157,u158,u159,u160,u161,u162,u163,u164,u165,u166,u167,u168,u169,u170,u171,u172,u173,u174,u175,u176,u177,u178,u179,u180,u181,u182,u183,u184,u185,u186,u187,u188,u189,u190,u191,u192,u193,u194,u195,u196,u197,u198,u199,u200,u201,u202,u203,u204,u205,u206,u207,u208,u209,u210,u211,u212,u213,u214,u215,u216,u217,u218,u219,u220,u221,u222,u223,u224,u225,u226,u227,u228,u229,u230,u231,u232,u233,u234,u235,u236,u237,u238,u239,u240,u241,u242,u243,u244,u245,u246,u247,u248,u249,u250,u251,u252,u253,u254,u255,u256,u257,u258,u259,u260,u261,u262,u263,u264,u265,u266,u267,u268,u269,u270,u271,u272,u273,u274,u275,u276,u277,u278,u279,u280,u281,u282,u283,u284,u285,u286,u287,u288,u289,u290,u291,u292,u293,u294,u295,u296,u297,u298,u299,u300,u301,u302,u303,u304,u305,u306,u307,u308,u309,u310,u311,u312,u313,u314,u315,u316,u317,u318,u319,u320,u321,u322,u323,u324,u325,u326,u327,u328,u329,u330,u331,u332,u333,u334,u335,u336,u337,u338,u339],[]⟩ w := by
  have HK := Lib.hid hk
  have HB := Lib.hid hb
  have hql : q < w.heap.size := (Array.getElem?_eq_some_iff.1 hkb).1
  obtain ⟨hb1,hb2,hb3⟩ := Rf.blk_eq κ hκ
  have hr := Rf.rd_ok κ hκ
  have hAL := Hs.after_lt κ m
  have hwl := fun B i (h : i < 16) => Hs.words_low (Hs.K κ) B i h
  rw [hwd,hn] at hwl
  rw [hn] at hAL
  rw [hwd] at hb1 hb2 hb3
  rw [hn] at hb2
  rw [hrd] at hr
  obtain ⟨bk,hbk⟩ : ∃ bk,Hs.blk κ = bk := ⟨_,rfl⟩
  rw [hbk] at hb1 hT
  have HM := Lib.hid (And.intro hAL (And.intro hbk (And.intro hwl hT)))
  have hbk1 : 64 ≤ bk ∧ bk ≤ 128 := by omega
  have H1 := Lib.hid (And.intro hb1 (And.intro hb2 hb3))
  have w16 : wrap64 (16 * (wd : Int)) = (bk : Int) := by unfold wrap64; omega
  have w16b : IntKind.i64.wrap (16 * (wd : Int)) = (bk : Int) := by rw [IntWalk.i64_in _ (by omega)]; omega
  have w16c : 16 * (wd : Int) = (bk : Int) := by omega
  have H16 := Lib.hid (And.intro w16 (And.intro w16b w16c))
  clear w16 w16b
  have hr80 := hr.2
  have HE := Lib.hid he
  rw [hbk] at hat
  have hale : a ≤ lb := by rw [hat,hT]; exact Nat.mul_le_mul_right _ ht
  have c1 := (cell_of_row w q 1 _ _ _ hkb).trans (show (Rf.kc κ (.slice (some ⟨gK,0,none⟩) rd cK) vF)[1]? = some (.int .i64 (rd : Int)) by rw [← hrd]; rfl)
  clear hk he hb hAL hwl hbk hT hb1 hb2 hb3 w16c
  obtain ⟨w2,rfl⟩ : ∃ w2,w2 = w := ⟨_,rfl⟩
  have kb2 := hkb
  have hK2 := hK
  have hbl2 := hbl
  have hql2 := hql
  conv => arg 2; whnf
  dsimp only
  by_cases htT : t < T
  · have hnxt : a + bk ≤ lb := by
      have h1 : (t + 1) * bk ≤ T * bk := Nat.mul_le_mul_right _ htT
      rw [Nat.add_mul,Nat.one_mul,← hat,← HM.out.2.2.2] at h1
      exact h1
    have hiz : (a : Int) < (lb : Int) := by omega
    obtain ⟨a2,ha2⟩ : ∃ a2,a + bk = a2 := ⟨_,rfl⟩
    have wa : (a : Int) + (bk : Int) = (a2 : Int) := by omega
    have wab : (a2 : Int) ≤ 9223372036854775807 := by omega
    have HA2 := Lib.hid ha2
    rw [ha2] at hnxt
    have HC := Lib.hid (And.intro hC hat)
    clear hC hat ha2
    go_wp2_with (at_make; refine Rf.wpList_make rfl _ _ rfl rd rd rfl rfl (Nat.le_refl _) (by omega) ?_)
    have hw0 : Rf.Cel (w2.alloc (.cells (Hs.fn rd (fun _ => .int .u64 0)) 76)) w2.heap.size rd (fun _ => 0) := Rf.Cel.ofFn (heap_alloc_new _ _)
    have hB3 : Below w2.heap.size w2 (w2.alloc (.cells (Hs.fn rd (fun _ => .int .u64 0)) 76)) := (Below.refl _ _).alloc (Nat.le_refl _) _
    obtain ⟨gw,hgw⟩ : ∃ gw,w2.heap.size = gw := ⟨_,rfl⟩
    rw [hgw] at hw0 hB3 hbl2 hql2 ⊢
    have hgs2 : gs < gw := hgw ▸ HC.out.1.lt
    have hgK2 : gK < gw := hgw ▸ hK2.lt
    have HG := Lib.hid hgw
    generalize w2.alloc (.cells (Hs.fn rd (fun _ => .int .u64 0)) 76) = w3 at hw0 hB3 ⊢
    obtain ⟨B,hBd⟩ : ∃ B : Nat → Nat,B = fun j => (m.getD (a + j) 0).toNat := ⟨_,rfl⟩
    have hBl : ∀ j,B j < 256 := fun j => by rw [hBd]; exact UInt8.toNat_lt _
    have HBB := Lib.hid (And.intro hBd hBl)
    clear hBl c1 hgw
    refine Rf.l3 (n := n) (m := m) (B := B) (hBe := fun j => by rw [HBB.out.1]) (hn := H1.out.2.1) (hwd := H1.out.2.2) (hrd := hr) (hlb := by omega) (hat := by have := H1.out.1; have := HA2.out; omega) (hbw := by omega) (hbl := by have := hB3.size; omega) (hb := fun j hj => (hB3.cell (p := ⟨gb,j,none⟩) hbl2).trans (HB.out j hj)) (hf := hw0) (hk := ?_)
    intro v10 v11 v67 v68 v69 v70 v71 v72 v73 v74 v75 v76 v77 v78 v79 v80 v81 v82 v83 v84 v85 v86 v87 v88 v89 v90 v91 v92 v93 v94 v95 w4 hBut4 hC4
    have hB4 := hB3.trans (hBut4.toBelow (Nat.le_refl _) (Nat.le_trans (Nat.le_refl _) hB3.size |> fun h => by have := HG.out; omega))
    have hC4 := hC4.congr (f' := fun j => if j < 16 then (Hs.words (Hs.K κ) B).getD j 0 else 0) (fun j _ => by
      by_cases h : j < 16
      · rw [if_pos h,if_pos h,HM.out.2.2.1 B j h]
      · rw [if_neg h,if_neg h])
    have kb4 := (hB4.block q hql2).trans kb2
    clear hw0 hBut4 hBd
    go_wp2_with fail
    refine Rf.l5 (κ := κ) (hκ := hκ) (hn := hn) (hrd := hrd) (hkb := kb4) (hB := HBB.out.2) (hqw := by omega) (hf := hC4) (hk := ?_)
    intro v12 v13 v14 v96 v97 v98 v99 v100 v101 v102 v103 v104 v105 v106 v107 v108 v109 v110 v111 v112 v113 v114 v115 v116 v117 v118 v119 v120 v121 v122 v123 v124 v125 v126 v127 v128 v129 v130 v131 v132 v133 v134 v135 v136 v137 v138 v139 v140 v141 v142 v143 v144 v145 v146 v147 v148 v149 v150 v151 v152 v153 v154 v155 v156 v157 v158 v159 v160 v161 v162 v163 v164 v165 v166 v167 w5 hBut5 hC5
    have hB5 := hB4.trans (hBut5.toBelow (Nat.le_refl _) (by have := hB4.size; have := HG.out; omega))
    have kb5 := (hB5.block q hql2).trans kb2
    have hS5 := HC.out.1.to (hB5.block gs hgs2)
    have hz5 : gw ≤ w5.heap.size := by have := hB5.size; have := HG.out; omega
    clear kb4 hC4 hBut5
    obtain ⟨l,hl⟩ : ∃ l,Rf.l8 (Hs.after κ m t).get = l := ⟨_,rfl⟩
    have hnew := Rf.l8_new hS5.dig
    have hl8 : l.length = 8 := by rw [← hl]; simp [Rf.l8]
    rw [hl] at hnew
    have HN := Lib.hid (And.intro hnew (And.intro hl8 hl))
    clear hnew hl8 hl
    go_wp2_with (at_builtin; refine Rf.appendQ rfl _ _ rfl w5.heap.size _ [] rfl (Rf.OwnQ.empty _ _ (Nat.le_refl _)) ⟨gs,0,none⟩ cs l (by rw [HN.out.2.1]; rfl) (fun j u hu => (Rf.alloc_cell _ _ _ _ (HN.out.1 j u hu))) (by rw [HN.out.2.1]; simp) (by simp) ?_; intro v6 w6 O6 b6 z6)
    rw [List.nil_append] at O6
    obtain ⟨gv,cv,hv6,hgv⟩ := O6.at (by rw [HN.out.2.1]; decide)
    have hD6 : Rf.Dig w6 gv 8 (Hs.after κ m t).get := by
      rw [hv6] at O6
      rcases O6.cell with h | h
      · rw [HN.out.2.1] at h
        refine ⟨fun j hj => (h.cell j hj).trans ?_,h.lt⟩
        show some (Value.int IntKind.u64 ((l.getD j 0 : Nat) : Int)) = _
        rw [← HN.out.2.2,Rf.l8_get _ _ hj]
      · have := HN.out.2.1; rw [h] at this; simp at this
    rw [HN.out.2.1] at hv6
    subst hv6
    have hB6a : Below w5.heap.size w5 w6 := ((Below.refl _ _).alloc (Nat.le_refl _) _).trans b6
    have hB6 := hB5.trans (hB6a.mono hz5)
    have kb6 := (hB6.block q hql2).trans kb2
    have hgvs : gv ≠ gs := by omega
    have hz6 : gw ≤ w6.heap.size := by have := hB6.size; have := HG.out; omega
    have hC6 := hC5.below hB6a
    clear kb5 hC5 hS5 O6 b6 z6
    go_wp2_with fail
    refine Rf.l6 (κ := κ) (hκ := hκ) (hn := hn) (hrd := hrd) (cv := cv) (gs := gs) (V := Hs.after κ m t) (hkb := kb6) (hB := HBB.out.2) (hV := HM.out.1 t) (hv := hD6) (hf := hC6.dig) (hK := hK2.below hB6 hgK2) (hvs := hgvs) (hsl := by omega) (hk := ?_)
    intro v16 v17 v18 v19 v20 v171 v172 v173 v174 v175 v176 v177 v178 v179 v180 v181 v182 v183 v184 v185 v186 v187 v188 v189 v190 v191 v192 v193 v194 v195 v196 v197 v198 v199 v200 v201 v202 v203 v204 v205 v206 v207 v208 v209 v210 v211 v212 v213 v214 v215 v216 v217 v218 v219 v220 v221 v222 v223 v224 v225 v226 v227 v228 v229 v230 v231 v232 v233 v234 v235 v236 v237 v238 v239 v240 v241 v242 v243 v244 v245 v246 v247 v248 v249 v250 v251 v252 v253 v254 v255 v256 v257 v258 v259 v260 v261 v262 v263 v264 v265 v266 v267 v268 v269 v270 v271 v272 v273 v274 v275 v276 v277 v278 v279 v280 v281 v282 v283 v284 v285 v286 v287 v288 v289 v290 v291 v292 v293 v294 v295 v296 v297 v298 v299 v300 v301 v302 v303 gn cn w7 hB7a hgn hD7
    have hB7 := hB6.trans (hB7a.mono hz6)
    have kb7 := (hB7.block q hql2).trans kb2
    have hS7 := HC.out.1.to (hB7.block gs hgs2)
    clear kb6 hC6 hD6 hgvs
    go_wp2_with fail
    refine Rf.l7 (n := n) (hR := Rf.kc_size _ _ _) (hkb := kb7) (hn := hn ▸ Rf.n_or κ hκ) (h0 := by rw [← hn]; rfl) (hs := hS7) (hv := hD7) (hqs := hqs) (hvs := hgn) (hk := ?_)
    intro v21 v304 v305 v306 v307 v308 v309 v310 v311 v312 v313 v314 v315 v316 v317 v318 v319 v320 v321 w8 hBut8 hC8
    have hstep : ∀ j,((Hs.after κ m t).get j + (Hs.rounds (Hs.K κ) Hs.rk (Hs.words (Hs.K κ) B) (Hs.after κ m t)).get j) % 2 ^ n = (Hs.after κ m (t + 1)).get j := by
      intro j
      rw [Hs.after,Hs.step,Hs.plus_get,HM.out.2.1,← HC.out.2,← HBB.out.1,hn]
    have hC9 := hC8.congr (f' := (Hs.after κ m (t + 1)).get) (fun j _ => hstep j)
    have hBut9 := (Hs.But.ofBelow (b := gs) hB7 (by have := HG.out; omega)).trans hBut8
    have hat2 : a2 = (t + 1) * bk := by rw [← HA2.out,Nat.add_mul,Nat.one_mul,HC.out.2]
    have HA := Lib.hid hat2
    clear kb7 hS7 hD7 hC8 hstep hat2
    have w16c := H16.out.2.2
    have wd8 : (wd : Int) ≤ 8 := by have := H1.out.2.2; omega
    have wd0 : 0 ≤ (wd : Int) := by omega
    go_wp2_with fail
    exact HK.out htT _ _ _ _ _ _ _ _ _ _ _ _ _ _ _ _ _ _ _ _ _ _ _ _ _ _ _ _ _ _ _ _ _ _ _ _ _ _ _ _ _ _ _ _ _ _ _ _ _ _ _ _ _ _ _ _ _ _ _ _ _ _ _ _ _ _ _ _ _ _ _ _ _ _ _ _ _ _ _ _ _ _ _ _ _ _ _ _ _ _ _ _ _ _ _ _ _ _ _ _ _ _ _ _ _ _ _ _ _ _ _ _ _ _ _ _ _ _ _ _ _ _ _ _ _ _ _ _ _ _ _ _ _ _ _ _ _ _ _ _ _ _ _ _ _ _ _ _ _ _ _ _ _ _ _ _ _ _ _ _ _ _ _ _ _ _ _ _ _ _ _ _ _ _ _ _ _ _ _ _ _ _ _ _ _ _ _ _ _ _ _ _ _ _ _ _ _ _ _ _ _ _ _ _ _ _ _ _ _ _ _ _ _ _ _ _ _ _ _ _ _ _ _ _ _ _ _ _ _ _ _ _ _ _ _ _ _ _ _ _ _ _ _ _ _ _ _ _ _ _ _ _ _ _ _ _ _ _ _ _ _ _ _ _ _ _ _ _ _ _ _ _ _ _ _ _ _ _ _ a2 _ (by rw [HM.out.2.1]; exact HA.out) hBut9 hC9
  · have hie : t = T := by omega
    have hae : a = lb := by rw [hat,hie,HM.out.2.2.2]
    have hiz : ¬ (a : Int) < (lb : Int) := by omega
    clear hae hat
    go_wp2_with fail
    exact HE.out hie _ _ _ _
end
end
end
section
section
open Go.RowKit

set_option maxRecDepth 100000 in
theorem Rf.lit340 (f : Nat → Value) : (List.range 340).map f = [f 0,f 1,f 2,f 3,f 4,f 5,f 6,f 7,f 8,f 9,f 10,f 11,f 12,f 13,f 14,f 15,f 16,f 17,f 18,f 19,f 20,f 21,f 22,f 23,f 24,f 25,f 26,f 27,f 28,f 29,f 30,f 31,f 32,f 33,f 34,f 35,f 36,f 37,f 38,f 39,f 40,f 41,f 42,f 43,f 44,f 45,f 46,f 47,f 48,f 49,f 50,f 51,f 52,f 53,f 54,f 55,f 56,f 57,f 58,f 59,f 60,f 61,f 62,f 63,f 64,f 65,f 66,f 67,f 68,f 69,f 70,f 71,f 72,f 73,f 74,f 75,f 76,f 77,f 78,f 79,f 80,f 81,f 82,f 83,f 84,f 85,f 86,f 87,f 88,f 89,f 90,f 91,f 92,f 93,f 94,f 95,f 96,f 97,f 98,f 99,f 100,f 101,f 102,f 103,f 104,f 105,f 106,f 107,f 108,f 109,f 110,f 111,f 112,f 113,f 114,f 115,f 116,f 117,f 118,f 119,f 120,f 121,f 122,f 123,f 124,f 125,f 126,f 127,f 128,f 129,f 130,f 131,f 132,f 133,f 134,f 135,f 136,f 137,f 138,f 139,f 140,f 141,f 142,f 143,f 144,f 145,f 146,f 147,f 148,f 149,f 150,f 151,f 152,f 153,f 154,f 155,f 156,f 157,f 158,f 159,f 160,f 161,f 162,f 163,f 164,f 165,f 166,f 167,f 168,f 169,f 170,f 171,f 172,f 173,f 174,f 175,f 176,f 177,f 178,f 179,f 180,f 181,f 182,f 183,f 184,f 185,f 186,f 187,f 188,f 189,f 190,f 191,f 192,f 193,f 194,f 195,f 196,f 197,f 198,f 199,f 200,f 201,f 202,f 203,f 204,f 205,f 206,f 207,f 208,f 209,f 210,f 211,f 212,f 213,f 214,f 215,f 216,f 217,f 218,f 219,f 220,f 221,f 222,f 223,f 224,f 225,f 226,f 227,f 228,f 229,f 230,f 231,f 232,f 233,f 234,f 235,f 236,f 237,f 238,f 239,f 240,f 241,f 242,f 243,f 244,f 245,f 246,f 247,f 248,f 249,f 250,f 251,f 252,f 253,f 254,f 255,f 256,f 257,f 258,f 259,f 260,f 261,f 262,f 263,f 264,f 265,f 266,f 267,f 268,f 269,f 270,f 271,f 272,f 273,f 274,f 275,f 276,f 277,f 278,f 279,f 280,f 281,f 282,f 283,f 284,f 285,f 286,f 287,f 288,f 289,f 290,f 291,f 292,f 293,f 294,f 295,f 296,f 297,f 298,f 299,f 300,f 301,f 302,f 303,f 304,f 305,f 306,f 307,f 308,f 309,f 310,f 311,f 312,f 313,f 314,f 315,f 316,f 317,f 318,f 319,f 320,f 321,f 322,f 323,f 324,f 325,f 326,f 327,f 328,f 329,f 330,f 331,f 332,f 333,f 334,f 335,f 336,f 337,f 338,f 339] := by kernel_rfl
theorem Rf.list340 (l : List Value) (h : l.length = 340) : l = (List.range 340).map (fun k => l.getD k undef) := by
  refine List.ext_getElem (by simp [h]) fun k h1 h2 => ?_
  simp [List.getD_eq_getElem?_getD,List.getElem?_eq_getElem h1]
/-- A frame of the sum, in which five slots are known. -/
structure Rf.Fr (v2 v5 v6 v7 v8 : Value) (x : Act) : Prop where
  df : x.defers = []
  sz : x.tmps.toList.length = 340
  e2 : x.tmps.toList.getD 2 undef = v2
  e5 : x.tmps.toList.getD 5 undef = v5
  e6 : x.tmps.toList.getD 6 undef = v6
  e7 : x.tmps.toList.getD 7 undef = v7
  e8 : x.tmps.toList.getD 8 undef = v8
set_option maxRecDepth 100000 in
theorem Rf.Fr.open {v2 v5 v6 v7 v8 : Value} {x : Act} (h : Rf.Fr v2 v5 v6 v7 v8 x) : ∃ g : Nat → Value,x = ⟨#[g 0,g 1,v2,g 3,g 4,v5,v6,v7,v8,g 9,g 10,g 11,g 12,g 13,g 14,g 15,g 16,g 17,g 18,g 19,g 20,g 21,g 22,g 23,g 24,g 25,g 26,g 27,g 28,g 29,g 30,g 31,g 32,g 33,g 34,g 35,g 36,g 37,g 38,g 39,g 40,g 41,g 42,g 43,g 44,g 45,g 46,g 47,g 48,g 49,g 50,g 51,g 52,g 53,g 54,g 55,g 56,g 57,g 58,g 59,g 60,g 61,g 62,g 63,g 64,g 65,g 66,g 67,g 68,g 69,g 70,g 71,g 72,g 73,g 74,g 75,g 76,g 77,g 78,g 79,g 80,g 81,g 82,g 83,g 84,g 85,g 86,g 87,g 88,g 89,g 90,g 91,g 92,g 93,g 94,g 95,g 96,g 97,g 98,g 99,g 100,g 101,g 102,g 103,g 104,g 105,g 106,g 107,g 108,g 109,g 110,g 111,g 112,g 113,g 114,g 115,g 116,g 117,g 118,g 119,g 120,g 121,g 122,g 123,g 124,g 125,g 126,g 127,g 128,g 129,g 130,g 131,g 132,g 133,g 134,g 135,g 136,g 137,g 138,g 139,g 140,g 141,g 142,g 143,g 144,g 145,g 146,g 147,g 148,g 149,g 150,g 151,g 152,g 153,g 154,g 155,g 156,g 157,g 158,g 159,g 160,g 161,g 162,g 163,g 164,g 165,g 166,g 167,g 168,g 169,g 170,g 171,g 172,g 173,g 174,g 175,g 176,g 177,g 178,g 179,g 180,g 181,g 182,g 183,g 184,g 185,g 186,g 187,g 188,g 189,g 190,g 191,g 192,g 193,g 194,g 195,g 196,g 197,g 198,g 199,g 200,g 201,g 202,g 203,g 204,g 205,g 206,g 207,g 208,g 209,g 210,g 211,g 212,g 213,g 214,g 215,g 216,g 217,g 218,g 219,g 220,g 221,g 222,g 223,g 224,g 225,g 226,g 227,g 228,g 229,g 230,g 231,g 232,g 233,g 234,g 235,g 236,g 237,g 238,g 239,g 240,g 241,g 242,g 243,g 244,g 245,g 246,g 247,g 248,g 249,g 250,g 251,g 252,g 253,g 254,g 255,g 256,g 257,g 258,g 259,g 260,g 261,g 262,g 263,g 264,g 265,g 266,g 267,g 268,g 269,g 270,g 271,g 272,g 273,g 274,g 275,g 276,g 277,g 278,g 279,g 280,g 281,g 282,g 283,g 284,g 285,g 286,g 287,g 288,g 289,g 290,g 291,g 292,g 293,g 294,g 295,g 296,g 297,g 298,g 299,g 300,g 301,g 302,g 303,g 304,g 305,g 306,g 307,g 308,g 309,g 310,g 311,g 312,g 313,g 314,g 315,g 316,g 317,g 318,g 319,g 320,g 321,g 322,g 323,g 324,g 325,g 326,g 327,g 328,g 329,g 330,g 331,g 332,g 333,g 334,g 335,g 336,g 337,g 338,g 339],[]⟩ := by
  obtain ⟨h1,h2,e2,e5,e6,e7,e8⟩ := h
  obtain ⟨tm,df⟩ := x
  have h1 : df = [] := h1
  subst h1
  obtain ⟨l⟩ := tm
  have h2 : l.length = 340 := h2
  have hl := Rf.list340 l h2
  obtain ⟨g,hg⟩ : ∃ g : Nat → Value,(fun k => l.getD k undef) = g := ⟨_,rfl⟩
  rw [hg,Rf.lit340 g] at hl
  have f2 : g 2 = v2 := by rw [← hg]; exact e2
  have f5 : g 5 = v5 := by rw [← hg]; exact e5
  have f6 : g 6 = v6 := by rw [← hg]; exact e6
  have f7 : g 7 = v7 := by rw [← hg]; exact e7
  have f8 : g 8 = v8 := by rw [← hg]; exact e8
  rw [f2,f5,f6,f7,f8] at hl
  exact ⟨g,by rw [hl]⟩
set_option maxHeartbeats 1000000 in
set_option maxRecDepth 100000 in
theorem Rf.l2 (w : World) (κ : Nat) (hκ : κ < 2) (n rd wd : Nat) (hn : (Hs.K κ).n = n) (hrd : (Hs.K κ).rounds = rd) (hwd : (Hs.K κ).wb = wd) (q gK cK gb lb cb gs cs T : Nat) (vF : Value) {u0 u1 u3 u4 u9 u10 u11 u12 u13 u14 u15 u16 u17 u18 u19 u20 u21 u22 u23 u24 u25 u26 u27 u28 u29 u30 u31 u32 u33 u34 u35 u36 u37 u38 u39 u40 u41 u42 u43 u44 u45 u46 u47 u48 u49 u50 u51 u52 u53 u54 u55 u56 u57 u58 u59 u60 u61 u62 u63 u64 u65 u66 u67 u68 u69 u70 u71 u72 u73 u74 u75 u76 u77 u78 u79 u80 u81 u82 u83 u84 u85 u86 u87 u88 u89 u90 u91 u92 u93 u94 u95 u96 u97 u98 u99 u100 u101 u102 u103 u104 u105 u106 u107 u108 u109 u110 u111 u112 u113 u114 u115 u116 u117 u118 u119 u120 u121 u122 u123 u124 u125 u126 u127 u128 u129 u130 u131 u132 u133 u134 u135 u136 u137 u138 u139 u140 u141 u142 u143 u144 u145 u146 u147 u148 u149 u150 u151 u152 u153 u154 u155 u156 u157 u158 u159 u160 u161 u162 u163 u164 u165 u166 u167 u168 u169 u170 u171 u172 u173 u174 u175 u176 u177 u178 u179 u180 u181 u182 u183 u184 u185 u186 u187 u188 u189 u190 u191 u192 u193 u194 u195 u196 u197 u198 u199 u200 u201 u202 u203 u204 u205 u206 u207 u208 u209 u210 u211 u212 u213 u214 u215 u216 u217 u218 u219 u220 u221 u222 u223 u224 u225 u226 u227 u228 u229 u230 u231 u232 u233 u234 u235 u236 u237 u238 u239 u240 u241 u242 u243 u244 u245 u246 u247 u248 u249 u250 u251 u252 u253 u254 u255 u256 u257 u258 u259 u260 u261 u262 u263 u264 u265 u266 u267 u268 u269 u270 u271 u272 u273 u274 u275 u276 u277 u278 u279 u280 u281 u282 u283 u284 u285 u286 u287 u288 u289 u290 u291 u292 u293 u294 u295 u296 u297 u298 u299 u300 u301 u302 u303 u304 u305 u306 u307 u308 u309 u310 u311 u312 u313 u314 u315 u316 u317 u318 u319 u320 u321 u322 u323 u324 u325 u326 u327 u328 u329 u330 u331 u332 u333 u334 u335 u336 u337 u338 u339 : Value} (Q0 : Exit → Act → World → Prop) (m : List UInt8)
    (hkb : w.heap[q]? = some (.cells (Rf.kc κ (.slice (some ⟨gK,0,none⟩) rd cK) vF) 61 (0,0))) (hlb : lb ≤ 140737488355328) (hT : lb = T * Hs.blk κ) (hK : Rf.Dig w gK rd (Rf.kk κ)) (hb : ∀ j,j < lb → w.cell? ⟨gb,j,none⟩ = some (.int .u8 ((m.getD j 0).toNat : Int))) (hbl : gb < w.heap.size)
    (hs : Rf.Cel w gs 8 (Hs.first κ).get) (hqs : q ≠ gs) (hks : gK ≠ gs) (hbs : gb ≠ gs)
    (hk : ∀ (x : Act) (v8 : Value) (W : World),Rf.Fr (.pointer (some ⟨q,0,none⟩)) (.int .i64 (wd : Int)) (.slice (some ⟨gb,0,none⟩) lb cb) (.slice (some ⟨gs,0,none⟩) 8 cs) v8 x → Hs.But gs w W → Rf.Cel W gs 8 (Hs.after κ m T).get → Q0 (.exit 2) x W) : Code.wp Tryz.prog (Code.loop Rf.lp2) Q0 ⟨#[u0,u1,.pointer (some ⟨q,0,none⟩),u3,u4,.int .i64 (wd : Int),.slice (some ⟨gb,0,none⟩) lb cb,.slice (some ⟨gs,0,none⟩) 8 cs,.int .i64 0,u9,u10,u11,u12,u13,u14,u15,u16,u17,u18,u19,u20,u21,u22,u23,u24,u25,u26,u27,u28,u29,u30,u31,u32,u33,u34,u35,u36,u37,u38,u39,u40,u41,u42,u43,u44,u45,u46,u47,u48,u49,u50,u51,u52,u53,u54,u55,u56,u57,u58,u59,u60,u61,u62,u63,u64,u65,u66,u67,u68,u69,u70,u71,u72,u73,u74,u75,u76,u77,u78,u79,u80,u81,u82,u83,u84,u85,u86,u87,u88,u89,u90,u91,u92,u93,u94,u95,u96,u97,u98,u99,u100,u101,u102,u103,u104,u105,u106,u107,u108,u109,u110,u111,u112,u113,u114,u115,u116,u117,u118,u119,u120,u121,u122,u123,u124,u125,u126,u127,u128,u129,u130,u131,u132,u133,u134,u135,u136,u137,u138,u139,u140,u141,u142,u143,u144,u145,u146,u147,u148,u149,u150,u151,u152,u153,u154,u155,u156,u157,u158,u159,u160,u161,u162,u163,u164,u165,u166,u167,u168,u169,u170,u171,u172,u173,u174,u175,u176,u177,u178,u179,u180,u181,u182,u183,u184,u185,u186,u187,u188,u189,u190,u191,u192,u193,u194,u195,u196,u197,u198,u199,u200,u201,u202,u203,u204,u205,u206,u207,u208,u209,u210,u211,u212,u213,u214,u215,u216,u217,u218,u219,u220,u221,u222,u223,u224,u225,u226,u227,u228,u229,u230,u231,u232,u233,u234,u235,u236,u237,u238,u239,u240,u241,u242,u243,u244,u245,u246,u247,u248,u249,u250,u251,u252,u253,u254,u255,u256,u257,u258,u259,u260,u261,u262,u263,u264,u265,u266,u267,u268,u269,u270,u271,u272,u273,u274,u275,u276,u277,u278,u279,u280,u281,u282,u283,u284,u285,u286,u287,u288,u289,u290,u291,u292,u293,u294,u295,u296,u297,u298,u299,u300,u301,u302,u303,u304,u305,u306,u307,u308,u309,u310,u311,u312,u313,u314,u315,u316,u317,u318,u319,u320,u321,u322,u323,u324,u325,u326,u327,u328,u329,u330,u331,u332,u333,u334,u335,u336,u337,u338,u339],[]⟩ w := by
  have hql : q < w.heap.size := (Array.getElem?_eq_some_iff.1 hkb).1
  have hbp := Hs.blk_pos κ
  obtain ⟨I,hI⟩ : ∃ I : Act → World → Prop,I = fun x W => ∃ t,t ≤ T ∧ Rf.Fr (.pointer (some ⟨q,0,none⟩)) (.int .i64 (wd : Int)) (.slice (some ⟨gb,0,none⟩) lb cb) (.slice (some ⟨gs,0,none⟩) 8 cs) (.int .i64 ((t * Hs.blk κ : Nat) : Int)) x ∧ Hs.But gs w W ∧ Rf.Cel W gs 8 (Hs.after κ m t).get := ⟨_,rfl⟩
  obtain ⟨μ,hμ⟩ : ∃ μ : Act → World → Nat,μ = fun x _ => lb - (intOf (x.tmps.toList.getD 8 undef)).toNat := ⟨_,rfl⟩
  refine wp_loop I μ ?_ ?_
  · rw [hI]
    exact ⟨0,Nat.zero_le _,⟨rfl,rfl,rfl,rfl,rfl,rfl,by rw [Nat.zero_mul]; rfl⟩,Hs.But.refl _ _,hs⟩
  · intro x W hx
    have hx0 := hx
    rw [hI] at hx0
    obtain ⟨t,ht,hF,hBut,hC⟩ := hx0
    have hmu : μ x W = lb - t * Hs.blk κ := by rw [hμ]; show lb - (intOf (x.tmps.toList.getD 8 undef)).toNat = _; rw [hF.e8]; rfl
    rw [hmu]
    obtain ⟨g,rfl⟩ := hF.open
    clear hF hx hmu
    have kbW := (hBut.block q hql hqs).trans hkb
    obtain ⟨a,ha⟩ : ∃ a,t * Hs.blk κ = a := ⟨_,rfl⟩
    rw [ha]
    refine Rf.l2b (κ := κ) (hκ := hκ) (hn := hn) (hrd := hrd) (hwd := hwd) (T := T) (m := m) (hkb := kbW) (hlb := hlb) (hT := hT) (hK := hK.but hBut hks) (hb := fun j hj => (Rf.cell_eq (hBut.block gb hbl hbs)).trans (hb j hj)) (hbl := Nat.lt_of_lt_of_le hbl hBut.size) (hqs := hqs) (t := t) (ht := ht) (hat := ha.symm) (hC := hC) (hk := ?_) (he := ?_)
    · intro htT v9 v10 v11 v12 v13 v14 v15 v16 v17 v18 v19 v20 v21 v56 v57 v58 v59 v60 v61 v62 v63 v64 v65 v66 v67 v68 v69 v70 v71 v72 v73 v74 v75 v76 v77 v78 v79 v80 v81 v82 v83 v84 v85 v86 v87 v88 v89 v90 v91 v92 v93 v94 v95 v96 v97 v98 v99 v100 v101 v102 v103 v104 v105 v106 v107 v108 v109 v110 v111 v112 v113 v114 v115 v116 v117 v118 v119 v120 v121 v122 v123 v124 v125 v126 v127 v128 v129 v130 v131 v132 v133 v134 v135 v136 v137 v138 v139 v140 v141 v142 v143 v144 v145 v146 v147 v148 v149 v150 v151 v152 v153 v154 v155 v156 v157 v158 v159 v160 v161 v162 v163 v164 v165 v166 v167 v168 v169 v170 v171 v172 v173 v174 v175 v176 v177 v178 v179 v180 v181 v182 v183 v184 v185 v186 v187 v188 v189 v190 v191 v192 v193 v194 v195 v196 v197 v198 v199 v200 v201 v202 v203 v204 v205 v206 v207 v208 v209 v210 v211 v212 v213 v214 v215 v216 v217 v218 v219 v220 v221 v222 v223 v224 v225 v226 v227 v228 v229 v230 v231 v232 v233 v234 v235 v236 v237 v238 v239 v240 v241 v242 v243 v244 v245 v246 v247 v248 v249 v250 v251 v252 v253 v254 v255 v256 v257 v258 v259 v260 v261 v262 v263 v264 v265 v266 v267 v268 v269 v270 v271 v272 v273 v274 v275 v276 v277 v278 v279 v280 v281 v282 v283 v284 v285 v286 v287 v288 v289 v290 v291 v292 v293 v294 v295 v296 v297 v298 v299 v300 v301 v302 v303 v304 v305 v306 v307 v308 v309 v310 v311 v312 v313 v314 v315 v316 v317 v318 v319 v320 v321 a2 W2 ha2 hBut2 hC2
      refine ⟨?_,?_⟩
      · rw [hI]
        exact ⟨t + 1,htT,⟨rfl,rfl,rfl,rfl,rfl,rfl,by rw [← ha2]; rfl⟩,hBut.trans hBut2,hC2⟩
      · rw [hμ]
        show lb - (intOf (Value.int IntKind.i64 (a2 : Int))).toNat < _
        have h1 : (t + 1) * Hs.blk κ ≤ T * Hs.blk κ := Nat.mul_le_mul_right _ htT
        rw [← hT,← ha2] at h1
        have h2 : a2 = a + Hs.blk κ := by rw [ha2,Nat.add_mul,Nat.one_mul,ha]
        show lb - a2 < lb - a
        omega
    · intro htT v56 v57 v58 v59
      rw [htT] at hC
      exact hk _ (.int .i64 (a : Int)) W ⟨rfl,rfl,rfl,rfl,rfl,rfl,rfl⟩ hBut hC
end
section
section
open Go.RowKit

/-- Slice value v holds the bytes l at the head of a row of the call's own, from block B on; none of its cells is frozen. -/
def Rf.OwnB (w : World) (B : Nat) (v : Value) (l : List UInt8) : Prop :=
  ∃ g cap,v = .slice (some ⟨g,0,none⟩) l.length cap ∧ B ≤ g ∧ g < w.heap.size ∧ l.length ≤ cap ∧ (∀ j u,(l.map Tx.bv)[j]? = some u → w.cell? ⟨g,j,none⟩ = some u) ∧ (∀ j,j < cap → (w.cell? ⟨g,j,none⟩).isSome = true ∧ w.frozen? ⟨g,j,none⟩ = false)
theorem Rf.OwnB.ofOwn {w : World} {B : Nat} {v : Value} {l : List UInt8} (h : w.ownsRow B 5 1 v l.length (l.map Tx.bv)) (hl : 0 < l.length) : Rf.OwnB w B v l := by
  rcases h.2 with ⟨_,hn⟩ | ⟨g,cap,cur,rfl,hg,hgg,hle,_,hsz,hcur⟩
  · omega
  · refine ⟨g,cap,rfl,hg,(Array.getElem?_eq_some_iff.1 hgg).1,hle,fun j u hu => ?_,fun j hj => ⟨?_,Rf.frozen_of hgg⟩⟩
    · rw [cell_of_row w g j _ _ _ hgg]
      rw [← hcur,List.getElem?_take] at hu
      split at hu
      · simpa using hu
      · cases hu
    · rw [cell_of_row w g j _ _ _ hgg,Array.getElem?_eq_getElem (by omega)]
      rfl
theorem Rf.OwnB.to {w w' : World} {B g n c : Nat} {l : List UInt8} (h : Rf.OwnB w B (.slice (some ⟨g,0,none⟩) n c) l) (e : w'.heap[g]? = w.heap[g]?) : Rf.OwnB w' B (.slice (some ⟨g,0,none⟩) n c) l := by
  obtain ⟨g',cap,hv,hB,hlt,hle,hc,hf⟩ := h
  simp only [Value.slice.injEq,Option.some.injEq,Addr.mk.injEq] at hv
  obtain ⟨⟨rfl,_⟩,rfl,rfl⟩ := hv
  exact ⟨g,c,rfl,hB,Rf.lt_eq e hlt,hle,fun j u hu => (Rf.cell_eq e).trans (hc j u hu),fun j hj => by rw [Rf.cell_eq e,Rf.fro_eq e]; exact hf j hj⟩
theorem Rf.OwnB.below {w w' : World} {B : Nat} {v : Value} {l : List UInt8} (h : Rf.OwnB w B v l) (hb : Below w.heap.size w w') : Rf.OwnB w' B v l := by
  obtain ⟨g,cap,rfl,hB,hlt,r⟩ := h
  exact Rf.OwnB.to ⟨g,cap,rfl,hB,hlt,r⟩ (hb.block g hlt)
theorem Rf.OwnB.cell {w : World} {B g n c : Nat} {l : List UInt8} (h : Rf.OwnB w B (.slice (some ⟨g,0,none⟩) n c) l) : ∀ j,j < l.length → w.cell? ⟨g,j,none⟩ = some (.int .u8 ((l.getD j 0).toNat : Int)) := by
  obtain ⟨g',cap,hv,hB,hlt,hle,hc,hf⟩ := h
  simp only [Value.slice.injEq,Option.some.injEq,Addr.mk.injEq] at hv
  obtain ⟨⟨rfl,_⟩,rfl,rfl⟩ := hv
  intro j hj
  exact hc j _ (by simp [hj,Tx.bv])
/-- The text's bytes. -/
theorem Rf.OwnB.ofText (w : World) (s : ByteArray) : Rf.OwnB (Lib.bytesWorld w 5 s) w.heap.size (.slice (some ⟨w.heap.size,0,none⟩) s.size (grownCap w s.size 0 5)) s.data.toList ∧ Below w.heap.size w (Lib.bytesWorld w 5 s) := by
  have hge := grownCap_ge w s.size 0 5
  have hat := Lib.bytesWorld_at_new w 5 s
  have hsz : (Lib.bytesCells w 5 s).size = grownCap w s.size 0 5 := by
    simp only [Lib.bytesCells,Array.size_append,Array.size_map,Array.size_replicate,ByteArray.size_data]
    omega
  refine ⟨⟨w.heap.size,grownCap w s.size 0 5,by simp,Nat.le_refl _,by rw [Lib.bytesWorld_size]; omega,by simpa using hge,fun j u hu => ?_,fun j hj => ⟨?_,?_⟩⟩,⟨rfl,rfl,rfl,by rw [Lib.bytesWorld_size]; omega,fun k hk => Lib.bytesWorld_at_old w _ s k hk⟩⟩
  · have hj : j < s.size := by have := (List.getElem?_eq_some_iff.1 hu).1; simpa using this
    rw [Lib.bytesWorld_cell w _ s j hj,← hu]
    simp [hj,Tx.bv]
  · rw [cell_of_row _ _ j _ _ _ hat,Array.getElem?_eq_getElem (by omega)]
    rfl
  · simp only [World.frozen?,hat]
    simp
    omega
section
variable {w : World} {ops : Array Oper} {rest : List Oper} {o : Oper} {a : Act} {Q : Exit → Act → World → Prop}
theorem Rf.appendB (hg : o.guard = none) (s x : Operand) (hop : o.op = .call { callee := .builtin .append,args := #[s,x],argTypes := #[36,36] }) (B : Nat) (v : Value) (l : List UInt8) (hs : a.eval s = v) (hown : Rf.OwnB w B v l)
    (ad : Addr) (c : Nat) (bs : List UInt8) (hx : a.eval x = .slice (some ad) bs.length c) (hnew : ∀ j u,(bs.map Tx.bv)[j]? = some u → w.cell? (ad.add j) = some u) (hp : 0 < bs.length) (hlen : l.length + bs.length ≤ 140737488355328) (hB : B ≤ w.heap.size)
    (hK : ∀ v' w',Rf.OwnB w' B v' (l ++ bs) → Below B w w' → wpList Tryz.prog ops Q rest (a.put o.dst v') w') : wpList Tryz.prog ops Q (o :: rest) a w := by
  obtain ⟨i0,hi,hz0,hz1,hz2⟩ := info_parts Tx.info8
  obtain ⟨g,cap,rfl,hBg,hlt,hle,hc,hf⟩ := hown
  refine wpList_append_arg w hg s x 36 hop 5 i0 (.int .u8 0) 1 1 Tryz.underlying36 hi hz0 hz1 hz2 rfl (by decide) g 0 l.length cap (l.map Tx.bv) hs (by simp) (fun j u hu => by rw [Nat.zero_add]; exact hc j u hu) ad bs.length c (bs.map Tx.bv) hx (by simp) hnew (by intro u hu; obtain ⟨b,_,rfl⟩ := List.mem_map.1 hu; rfl) ?_ (by unfold maxLen; omega) (by omega) ?_ ?_
  · intro hr j hj
    rw [List.length_map] at hj
    have := hf (0 + l.length * 1 + j) (by omega)
    exact this
  · intro hr
    have e0 : 0 + l.length * 1 = l.length := by omega
    rw [e0]
    have hin : ∀ j,j < (bs.map Tx.bv).length → (w.cell? ⟨g,l.length + j,none⟩).isSome = true := fun j hj => by
      rw [List.length_map] at hj
      exact (hf _ (by omega)).1
    have e1 : (l ++ bs).length = l.length + bs.length := List.length_append
    rw [← e1]
    refine hK _ _ ⟨g,cap,rfl,hBg,?_,by omega,fun j u hu => ?_,fun j hj => ?_⟩ ((Hs.But.setCells _ _ w).toBelow hBg hB)
    · exact Nat.lt_of_lt_of_le hlt (Hs.But.setCells (b := g) (bs.map Tx.bv) l.length w).size
    · rw [List.map_append] at hu
      by_cases h : j < l.length
      · rw [List.getElem?_append_left (by simpa using h)] at hu
        rw [World.cell?_setCells_out g _ _ w ⟨g,j,none⟩ (fun _ _ => .inl h)]
        exact hc j u hu
      · rw [List.getElem?_append_right (by simpa using Nat.le_of_not_lt h),List.length_map] at hu
        have hj := (List.getElem?_eq_some_iff.1 hu).1
        have := World.cell?_setCells_in g (bs.map Tx.bv) l.length w hin (j - l.length) hj
        rw [show l.length + (j - l.length) = j by omega] at this
        rw [this,← (List.getElem?_eq_some_iff.1 hu).2]
    · rw [World.frozen?_setCells]
      refine ⟨?_,(hf j hj).2⟩
      by_cases h : l.length ≤ j ∧ j < l.length + bs.length
      · have := World.cell?_setCells_in g (bs.map Tx.bv) l.length w hin (j - l.length) (by rw [List.length_map]; omega)
        rw [show l.length + (j - l.length) = j by omega] at this
        rw [this]; rfl
      · rw [World.cell?_setCells_out g _ _ w ⟨g,j,none⟩ (fun _ _ => by rw [List.length_map]; show j < _ ∨ _ ≤ j; omega)]
        exact (hf j hj).1
  · intro hr v' w' h1 h2
    refine hK v' w' ?_ (((Below.refl _ _).grown h2 (Nat.le_refl _) (by simp)).mono hB)
    have h3 := Rf.OwnB.ofOwn (B := w.heap.size) (l := l ++ bs) (by simpa using h1) (by simp; omega)
    obtain ⟨g',cap',hv,hB',r⟩ := h3
    exact ⟨g',cap',hv,Nat.le_trans hB hB',r⟩
end
theorem Rf.Own.news {w : World} {B g n c : Nat} {l : List UInt8} (h : Tx.Own w B (.slice (some ⟨g,0,none⟩) n c) l) : ∀ j u,(l.map Tx.bv)[j]? = some u → w.cell? ((⟨g,0,none⟩ : Addr).add j) = some u := by
  intro j u hu
  have e : ((⟨g,0,none⟩ : Addr).add j) = ⟨g,j,none⟩ := by unfold Addr.add; split <;> simp_all
  rw [e]
  have hl : 0 < l.length := by have := (List.getElem?_eq_some_iff.1 hu).1; rw [List.length_map] at this; omega
  obtain ⟨g',cap,hv,_,_,_,hc,_⟩ := Rf.OwnB.ofOwn h hl
  simp only [Value.slice.injEq,Option.some.injEq,Addr.mk.injEq] at hv
  obtain ⟨⟨rfl,_⟩,rfl,rfl⟩ := hv
  exact hc j u hu
theorem Rf.Own.form {w : World} {B : Nat} {v : Value} {l : List UInt8} (h : Tx.Own w B v l) (hl : 0 < l.length) : ∃ g c,v = .slice (some ⟨g,0,none⟩) l.length c := by
  obtain ⟨g,c,hv,_⟩ := Rf.OwnB.ofOwn h hl
  exact ⟨g,c,hv⟩
end
section
open Go.RowKit

theorem Rf.ofNat_mod (x : Nat) : UInt8.ofNat (x % 256) = UInt8.ofNat x := by
  apply UInt8.toNat_inj.1
  rw [UInt8.toNat_ofNat',UInt8.toNat_ofNat']
  omega
theorem Rf.at8_eq (v b : Nat) (hv : v < 18446744073709551616) : Rf.at8 v b = UInt8.ofNat (v / 2 ^ (8 * b)) := by
  unfold Rf.at8
  split
  · have : v / 2 ^ (8 * b) = 0 := by
      apply Nat.div_eq_of_lt
      exact Nat.lt_of_lt_of_le hv (show (2 : Nat) ^ 64 ≤ 2 ^ (8 * b) from Nat.pow_le_pow_right (by decide) (by omega))
    rw [this]; rfl
  · exact Rf.ofNat_mod _
theorem Rf.be_eq (v : Nat) (hv : v < 18446744073709551616) : ∀ N,Rf.be v N = (List.range N).map fun i => UInt8.ofNat (v / 2 ^ (8 * (N - 1 - i)))
  | 0 => rfl
  | N + 1 => by
    rw [Rf.be,Rf.be_eq v hv N,List.range_succ_eq_map,List.map_cons,List.map_map,Rf.at8_eq v N hv]
    congr 1
    apply List.map_congr_left
    intro i hi
    have hi2 := List.mem_range.1 hi
    show _ = UInt8.ofNat (v / 2 ^ (8 * (N + 1 - 1 - (i + 1))))
    rw [show N + 1 - 1 - (i + 1) = N - 1 - i by omega]
theorem Rf.be_get (v N j : Nat) (hv : v < 18446744073709551616) (hj : j < N) : (Rf.be v N)[j]? = some (UInt8.ofNat (v / 2 ^ (8 * (N - 1 - j)))) := by
  rw [Rf.be_eq v hv N]
  simp [hj]
/-- What is told, number by number. -/
def Rf.outs (f : Nat → Nat) (wb : Nat) : Nat → List UInt8
  | 0 => []
  | k + 1 => Rf.outs f wb k ++ Rf.be (f k) wb
theorem Rf.outs_len (f : Nat → Nat) (wb : Nat) : ∀ k,(Rf.outs f wb k).length = k * wb
  | 0 => by simp [Rf.outs]
  | k + 1 => by rw [Rf.outs,List.length_append,Rf.outs_len f wb k,Rf.be_len,Nat.add_mul,Nat.one_mul]
theorem Rf.outs_get (f : Nat → Nat) (wb : Nat) (hw : 0 < wb) (hf : ∀ j,f j < 18446744073709551616) : ∀ k i,i < k * wb → (Rf.outs f wb k)[i]? = some (UInt8.ofNat (f (i / wb) / 2 ^ (8 * (wb - 1 - i % wb))))
  | 0,i,h => by omega
  | k + 1,i,h => by
    rw [Rf.outs]
    by_cases hi : i < k * wb
    · rw [List.getElem?_append_left (by rw [Rf.outs_len]; exact hi)]
      exact Rf.outs_get f wb hw hf k i hi
    · rw [List.getElem?_append_right (by rw [Rf.outs_len]; omega),Rf.outs_len]
      rw [Nat.add_mul,Nat.one_mul] at h
      have e1 : i / wb = k := by
        rw [show i = wb * k + (i - k * wb) by rw [Nat.mul_comm]; omega,Nat.mul_add_div hw,Nat.div_eq_of_lt (by omega)]
        rfl
      have e2 : i % wb = i - k * wb := by
        have := Nat.div_add_mod i wb
        rw [e1,Nat.mul_comm] at this
        omega
      rw [Rf.be_get _ _ _ (hf k) (by omega),e1,e2]
theorem Rf.tell_eq (κ : Nat) (hκ : κ < 2) (v : Hs.V8) (hv : v.lt (Hs.K κ).n) : (Rf.outs v.get (Hs.K κ).wb 8).take ((Hs.K κ).nn * (Hs.K κ).wb) = Hs.tell κ v := by
  obtain ⟨_,h2,h3⟩ := Rf.blk_eq κ hκ
  have hnn : (Hs.K κ).nn ≤ 8 := by rcases Rf.kκ κ hκ with rfl | rfl <;> decide
  have hle : (Hs.K κ).nn * (Hs.K κ).wb ≤ 8 * (Hs.K κ).wb := Nat.mul_le_mul_right _ hnn
  have hg : ∀ j,v.get j < 18446744073709551616 := by
    intro j
    have hn : (Hs.K κ).n ≤ 64 := by omega
    refine Nat.lt_of_lt_of_le (?_ : v.get j < 2 ^ (Hs.K κ).n) (Nat.pow_le_pow_right (n := 2) (by decide) hn)
    exact Hs.V8.all (p := fun x => x < 2 ^ (Hs.K κ).n) ⟨hv 0 (by omega),hv 1 (by omega),hv 2 (by omega),hv 3 (by omega),hv 4 (by omega),hv 5 (by omega),hv 6 (by omega),hv 7 (by omega)⟩ j
  unfold Hs.tell
  refine List.ext_getElem? fun i => ?_
  by_cases hi : i < (Hs.K κ).nn * (Hs.K κ).wb
  · rw [List.getElem?_take,if_pos hi,Rf.outs_get _ _ (by omega) hg 8 i (by omega)]
    simp [hi]
  · rw [List.getElem?_eq_none (by rw [List.length_take,Rf.outs_len]; omega),List.getElem?_eq_none (by simp; omega)]
theorem Rf.OwnQ.cel {w : World} {B g n c : Nat} {l : List Nat} (h : Rf.OwnQ w B (.slice (some ⟨g,0,none⟩) n c) l) (hl : 0 < l.length) : Rf.Cel w g l.length (fun j => l.getD j 0) := by
  rcases h.cell with hd | hd
  · refine ⟨hd.cell,fun j => ?_,hd.lt⟩
    rcases h.2 with ⟨hv,_⟩ | ⟨g',cap,cur,hv,hg,hgg,_⟩
    · simp at hv
    · simp only [Value.slice.injEq,Option.some.injEq,Addr.mk.injEq] at hv
      obtain ⟨⟨rfl,_⟩,_,_⟩ := hv
      exact Rf.frozen_of hgg
  · rw [hd] at hl; simp at hl
theorem Rf.l8_cel {w : World} {B g n c : Nat} {f : Nat → Nat} (h : Rf.OwnQ w B (.slice (some ⟨g,0,none⟩) n c) (Rf.l8 f)) : Rf.Cel w g 8 f := by
  have h1 := h.cel (by simp [Rf.l8])
  have e : (Rf.l8 f).length = 8 := by simp [Rf.l8]
  rw [e] at h1
  exact h1.congr (fun j hj => Rf.l8_get f j hj)
end
end
end
end Go.Proofs.YthlecdggkolgmaaGreatDoor
