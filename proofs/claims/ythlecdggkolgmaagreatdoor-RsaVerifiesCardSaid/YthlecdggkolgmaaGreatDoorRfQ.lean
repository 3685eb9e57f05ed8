/- The reference of a sum: what a block adds to the state. -/
import Derived.Test.YthlecdggkolgmaaGreatDoorRfM
namespace Go.Proofs.YthlecdggkolgmaaGreatDoor
section
section
section
open Go.RowKit

set_option maxHeartbeats 1000000 in
set_option maxRecDepth 100000 in
theorem Rf.r29 (w : World) (q gv cv n e : Nat) (R : Array Value) (hR : R.size = 17) (g : Nat → Nat) (c0 c1 c2 : Nat) {u0 u1 u3 u4 u5 u6 u7 u8 u9 u10 u11 u12 u13 u14 u16 u17 u19 u20 u21 u22 u23 u24 u25 u26 u27 u28 u29 u30 u31 u32 u33 u34 u35 u36 u37 u38 u39 u40 u41 u42 u43 u44 u45 u46 u47 u48 u49 u50 u51 u52 u53 u54 u55 u56 u57 u58 u59 u60 u61 u62 u63 u64 u65 u66 u67 u68 u69 u70 u71 u72 u73 u74 u75 u76 u77 u78 u79 u80 u81 u82 u83 u84 u85 u86 u87 u88 u89 u90 u91 u92 u93 u94 u95 u96 u97 u98 u99 u100 u101 u102 u103 u104 u105 u106 u107 u108 u109 u110 u111 u112 u113 u114 u115 u116 u117 u118 u119 u120 u121 u122 u123 u124 u125 u126 u127 u128 u129 u130 u131 u132 u133 u134 u135 u136 u137 u138 u139 u140 u141 u142 u143 u144 u145 u146 u147 u148 u149 u150 u151 u152 u153 u154 u155 u156 u157 u158 u159 u160 u161 u162 u163 u164 u165 u166 u167 u168 u169 u170 u171 u172 u173 u174 u175 u176 u177 u178 u179 u180 u181 u182 u183 u184 u185 u186 u187 u188 u189 u190 u191 u192 u193 u194 u195 u196 u197 u198 u199 u200 u201 u202 u203 u204 u205 u206 u207 u208 u209 u210 u211 u212 u213 u214 u215 u216 u217 u218 u219 u220 u221 u222 u223 u224 u225 u226 u227 u228 u229 u230 u231 u232 u233 u234 u235 u236 u237 u238 u239 u240 u241 u242 u243 u244 u245 u246 u247 u248 u249 u250 u251 u252 u253 u254 u255 u256 u257 u258 u259 u260 u261 u262 u263 u264 u265 u266 u267 u268 u269 u270 u271 u272 u273 u274 u275 u276 u277 u278 u279 u280 u281 u282 u283 u284 u285 u286 u287 u288 u289 u290 u291 u292 u293 u294 u295 u296 u297 u298 u299 u300 u301 u302 u303 u304 u305 u306 u307 u308 u309 u310 u311 u312 u313 u314 u315 u316 u317 u318 u319 u320 u321 u322 u323 u324 u325 u326 u327 u328 u329 u330 u331 u332 u333 u334 u335 u336 u337 u338 u339 : Value} (Q0 : Exit → Act → World → Prop)
    (hkb : w.heap[q]? = some (.cells R 61 (0,0))) (hn : n = 32 ∨ n = 64) (h0 : R[0]? = some (.int .i64 (n : Int)))
    (r12 : R[12]? = some (.int .i64 (c0 : Int))) (r13 : R[13]? = some (.int .i64 (c1 : Int))) (r14 : R[14]? = some (.int .i64 (c2 : Int))) (hc : (0 < c0 ∧ c0 < n) ∧ (0 < c1 ∧ c1 < n) ∧ 0 < c2 ∧ c2 < n)
    (hv : ∀ j,j < 8 → w.cell? ⟨gv,j,none⟩ = some (.int .u64 (g j : Int))) (hvl : ∀ j,j < 8 → g j < 2 ^ n) (he : e = g 0)
    (hk : ∀ (v233 v234 v235 v236 v237 v238 v239 v240 v241 v242 v243 v244 v245 v246 v247 v248 v249 v250 v251 v252 v253 v254 v255 v256 v257 v258 v259 v260 v261 v262 v263 v264 v265 v266 v267 v268 v269 v270 v271 v272 : Value) (t : Nat) (W : World),Below w.heap.size w W → t < 18446744073709551616 → t % 2 ^ n = Hs.uu n c0 c1 c2 g → Q0 .normal ⟨#[u0,u1,.pointer (some ⟨q,0,none⟩),u3,u4,u5,u6,u7,u8,u9,u10,u11,u12,u13,u14,.slice (some ⟨gv,0,none⟩) 8 cv,u16,u17,.int .u64 (e : Int),u19,.int .u64 (t : Int),u21,u22,u23,u24,u25,u26,u27,u28,u29,u30,u31,u32,u33,u34,u35,u36,u37,u38,u39,u40,u41,u42,u43,u44,u45,u46,u47,u48,u49,u50,u51,u52,u53,u54,u55,u56,u57,u58,u59,u60,u61,u62,u63,u64,u65,u66,u67,u68,u69,u70,u71,u72,u73,u74,u75,u76,u77,u78,u79,u80,u81,u82,u83,u84,u85,u86,u87,u88,u89,u90,u91,u92,u93,u94,u95,u96,u97,u98,u99,u100,u101,u102,u103,u104,u105,u106,u107,u108,u109,u110,u111,u112,u113,u114,u115,u116,u117,u118,u119,u120,u121,u122,u123,u124,u125,u126,u127,u128,u129,u130,u131,u132,u133,u134,u135,u136,u137,u138,u139,u140,u141,u142,u143,u144,u145,u146,u147,u148,u149,u150,u151,u152,u153,u154,u155,u156,u157,u158,u159,u160,u161,u162,u163,u164,u165,u166,u167,u168,u169,u170,u171,u172,u173,u174,u175,u176,u177,u178,u179,u180,u181,u182,u183,u184,u185,u186,u187,u188,u189,u190,u191,u192,u193,u194,u195,u196,u197,u198,u199,u200,u201,u202,u203,u204,u205,u206,u207,u208,u209,u210,u211,u212,u213,u214,u215,u216,u217,u218,u219,u220,u221,u222,u223,u224,u225,u226,u227,u228,u229,u230,u231,u232,v233,v234,v235,v236,v237,v238,v239,v240,v241,v242,v243,v244,v245,v246,v247,v248,v249,v250,v251,v252,v253,v254,v255,v256,v257,v258,v259,v260,v261,v262,v263,v264,v265,v266,v267,v268,v269,v270,v271,v272,u273,u274,u275,u276,u277,u278,u279,u280,u281,u282,u283,u284,u285,u286,u287,u288,u289,u290,u291,u292,u293,u294,u295,u296,u297,u298,u299,u300,u301,u302,u303,u304,u305,u306,u307,u308,u309,u310,u311,u312,u313,u314,u315,u316,u317,u318,u319,u320,u321,u322,u323,u324,u325,u326,u327,u328,u329,u330,u331,u332,u333,u334,u335,u336,u337,u338,u339],[]⟩ W) :
    Code.wp Tryz.prog (Rf.reg 29) Q0 ⟨#[u0,u1,.pointer (some ⟨q,0,none⟩),u3,u4,u5,u6,u7,u8,u9,u10,u11,u12,u13,u14,.slice (some ⟨gv,0,none⟩) 8 cv,u16,u17,.int .u64 (e : Int),u19,u20,u21,u22,u23,u24,u25,u26,u27,u28,u29,u30,u31,u32,u33,u34,u35,u36,u37,u38,u39,u40,u41,u42,u43,u44,u45,u46,u47,u48,u49,u50,u51,u52,u53,u54,u55,u56,u57,u58,u59,u60,u61,u62,u63,u64,u65,u66,u67,u68,u69,u70,u71,u72,u73,u74,u75,u76,u77,u78,u79,u80,u81,u82,u83,u84,u85,u86,u87,u88,u89,u90,u91,u92,u93,u94,u95,u96,u97,u98,u99,u100,u101,u102,u103,u104,u105,u106,u107,u108,u109,u110,u111,u112,u113,u114,u115,u116,u117,u118,u119,u120,u121,u122,u123,u124,u125,u126,u127,u128,u129,u130,u131,u132,u133,u134,u135,u136,u137,u138,u139,u140,u141,u142,u143,u144,u145,u146,u147,u148,u149,u150,u151,u152,u153,u154,u155,u156,u157,u158,u159,u160,u161,u162,u163,u164,u165,u166,u167,u168,u169,u170,u171,u172,u173,u174,u175,u176,u177,u178,u179,u180,u181,u182,u183,u184,u185,u186,u187,u188,u189,u190,u191,u192,u193,u194,u195,u196,u197,u198,u199,u200,u201,u202,u203,u204,u205,u206,u207,u208,u209,u210,u211,u212,u213,u214,u215,u216,u217,u218,u219,u220,u221,u222,u223,u224,u225,u226,u227,u228,u229,u230,u231,u232,u233,u234,u235,u236,u237,u238,u239,u240,u241,u242,u243,u244,u245,u246,u247,u248,u249,u250,u251,u252,u253,u254,u255,u256,u257,u258,u259,u260,u261,u262,u263,u264,u265,u266,u267,u268,u269,u270,u271,u272,u273,u274,u275,u276,u277,u278,u279,u280,u281,u282,u283,u284,u285,u286,u287,u288,u289,u290,u291,u292,u293,u294,u295,u296,u297,u298,u299,u300,u301,u302,u303,u304,u305,u306,u307,u308,u309,u310,u311,u312,u313,u314,u315,u316,u317,u318,u319,u320,u321,u322,u323,u324,u325,u326,u327,u328,u329,u330,u331,u332,u333,u334,u335,u336,u337,u338,u339],[]⟩ w := by
  have le : e < 2 ^ n := by rw [he]; exact hvl 0 (by omega)
  have l64 := Rf.two_le n hn
  have k12 := fun p => Rg.cell ((cell_of_row w q 12 R _ _ hkb).trans r12) p
  have k13 := fun p => Rg.cell ((cell_of_row w q 13 R _ _ hkb).trans r13) p
  have k14 := fun p => Rg.cell ((cell_of_row w q 14 R _ _ hkb).trans r14) p
  have cg1 := fun p => Rg.cell (hv 1 (by omega)) p
  have pg1 := hvl 1 (by omega)
  have cg2 := fun p => Rg.cell (hv 2 (by omega)) p
  have pg2 := hvl 2 (by omega)
  have C0 := Lib.hid (fun W => Rf.ror_any W R n e c0 hR h0 hn le hc.1.1 hc.1.2)
  have C1 := Lib.hid (fun W => Rf.ror_any W R n e c1 hR h0 hn le hc.2.1.1 hc.2.1.2)
  have C2 := Lib.hid (fun W => Rf.ror_any W R n e c2 hR h0 hn le hc.2.2.1 hc.2.2.2)
  have p0 := Hs.ror_lt n e c0 le
  have p1 := Hs.ror_lt n e c1 le
  have p2 := Hs.ror_lt n e c2 le
  have hz : Hs.uu n c0 c1 c2 g = ((Hs.ror n e c0 ^^^ Hs.ror n e c1 ^^^ Hs.ror n e c2) + ((e &&& g 1) ^^^ (e &&& g 2) ^^^ (g 1 &&& g 2))) % 2 ^ n := by rw [he]; rfl
  obtain ⟨r0,en_r0⟩ : ∃ z,Hs.ror n e c0 = z := ⟨_,rfl⟩
  rw [en_r0] at C0
  rw [en_r0] at p0
  rw [en_r0] at hz
  obtain ⟨r1,en_r1⟩ : ∃ z,Hs.ror n e c1 = z := ⟨_,rfl⟩
  rw [en_r1] at C1
  rw [en_r1] at p1
  rw [en_r1] at hz
  obtain ⟨r2,en_r2⟩ : ∃ z,Hs.ror n e c2 = z := ⟨_,rfl⟩
  rw [en_r2] at C2
  rw [en_r2] at p2
  rw [en_r2] at hz
  obtain ⟨g1,en_g1⟩ : ∃ z,g 1 = z := ⟨_,rfl⟩
  rw [en_g1] at cg1
  rw [en_g1] at pg1
  rw [en_g1] at hz
  obtain ⟨g2,en_g2⟩ : ∃ z,g 2 = z := ⟨_,rfl⟩
  rw [en_g2] at cg2
  rw [en_g2] at pg2
  rw [en_g2] at hz
  have x1 := Rf.xor64 r0 r1 (l64 _ p0) (l64 _ p1)
  have x1l := Nat.xor_lt_two_pow p0 p1
  obtain ⟨xa,en_xa⟩ : ∃ z,r0 ^^^ r1 = z := ⟨_,rfl⟩
  rw [en_xa] at x1
  rw [en_xa] at x1l
  rw [en_xa] at hz
  have x2 := Rf.xor64 xa r2 (l64 _ x1l) (l64 _ p2)
  obtain ⟨xb,en_xb⟩ : ∃ z,xa ^^^ r2 = z := ⟨_,rfl⟩
  rw [en_xb] at x2
  rw [en_xb] at hz
  have qan := Rf.and64 e g1 (l64 _ le) (l64 _ pg1)
  have lan := Nat.lt_of_le_of_lt (Nat.and_le_left (n := e) (m := g1)) le
  obtain ⟨an,en_an⟩ : ∃ z,e &&& g1 = z := ⟨_,rfl⟩
  rw [en_an] at qan
  rw [en_an] at lan
  rw [en_an] at hz
  have qam := Rf.and64 e g2 (l64 _ le) (l64 _ pg2)
  have lam := Nat.lt_of_le_of_lt (Nat.and_le_left (n := e) (m := g2)) le
  obtain ⟨am,en_am⟩ : ∃ z,e &&& g2 = z := ⟨_,rfl⟩
  rw [en_am] at qam
  rw [en_am] at lam
  rw [en_am] at hz
  have qao := Rf.and64 g1 g2 (l64 _ pg1) (l64 _ pg2)
  have lao := Nat.lt_of_le_of_lt (Nat.and_le_left (n := g1) (m := g2)) pg1
  obtain ⟨ao,en_ao⟩ : ∃ z,g1 &&& g2 = z := ⟨_,rfl⟩
  rw [en_ao] at qao
  rw [en_ao] at lao
  rw [en_ao] at hz
  have x3 := Rf.xor64 an am (l64 _ lan) (l64 _ lam)
  have x3l := Nat.xor_lt_two_pow lan lam
  obtain ⟨xc,en_xc⟩ : ∃ z,an ^^^ am = z := ⟨_,rfl⟩
  rw [en_xc] at x3
  rw [en_xc] at x3l
  rw [en_xc] at hz
  have x4 := Rf.xor64 xc ao (l64 _ x3l) (l64 _ lao)
  obtain ⟨mj,en_mj⟩ : ∃ z,xc ^^^ ao = z := ⟨_,rfl⟩
  rw [en_mj] at x4
  rw [en_mj] at hz
  have y1 := Rf.add64 xb mj
  obtain ⟨t,en_t⟩ : ∃ z,(xb + mj) % 18446744073709551616 = z := ⟨_,rfl⟩
  rw [en_t] at y1
  have hts : t % 2 ^ n = Hs.uu n c0 c1 c2 g := by
    rw [hz,← en_t]
    rcases hn with rfl | rfl <;> omega
  have htl : t < 18446744073709551616 := by rw [← en_t]; exact Nat.mod_lt _ (by decide)
  have HK := Lib.hid (fun v233 v234 v235 v236 v237 v238 v239 v240 v241 v242 v243 v244 v245 v246 v247 v248 v249 v250 v251 v252 v253 v254 v255 v256 v257 v258 v259 v260 v261 v262 v263 v264 v265 v266 v267 v268 v269 v270 v271 v272 W hB => hk v233 v234 v235 v236 v237 v238 v239 v240 v241 v242 v243 v244 v245 v246 v247 v248 v249 v250 v251 v252 v253 v254 v255 v256 v257 v258 v259 v260 v261 v262 v263 v264 v265 v266 v267 v268 v269 v270 v271 v272 t W hB htl hts)
  have hsz : (Tryz.prog.info? 61).map (·.size) = some R.size := by rw [hR]; exact Rf.infoKd
  clear hk htl hts en_t en_mj en_xc en_ao en_am en_an en_xb en_xa en_g1 en_g2 en_r0 en_r1 en_r2 hz lan lam lao x1l x3l p0 p1 p2 pg1 pg2 le l64 he hvl hv hc r12 r13 r14 hn h0 hR
  conv => arg 2; whnf
  refine Rg.quiet (by kernel_rfl) (by kernel_rfl) ?_
  dsimp only
  repeat (first | (go_big_quiet_want; refine Rg.load_row _ 61 rfl q rfl 61 R (0,0) _ hkb Tryz.underlying61 rfl hsz _ (by simp only [Act.put,List.setIfInBounds_toArray,List.set_cons_zero,List.set_cons_succ]; exact rfl) ?_; go_big_quiet_on) | go_big_quiet_step ((first | (go_at_call 54; first | with_reducible exact Rg.call (C0.out _) | with_reducible exact Rg.call (C1.out _) | with_reducible exact Rg.call (C2.out _)))))
  refine wpQuiet_nil ?_
  intro w' hw'
  obtain ⟨p,rfl⟩ := hw'
  exact HK.out _ _ _ _ _ _ _ _ _ _ _ _ _ _ _ _ _ _ _ _ _ _ _ _ _ _ _ _ _ _ _ _ _ _ _ _ _ _ _ _ _ (Rg.below w p)
end
section
open Go.RowKit

theorem Rf.dig8 (W : World) (b x0 x1 x2 x3 x4 x5 x6 x7 : Nat) (h : W.heap[b]? = some (.cells #[.int .u64 (x0 : Int),.int .u64 (x1 : Int),.int .u64 (x2 : Int),.int .u64 (x3 : Int),.int .u64 (x4 : Int),.int .u64 (x5 : Int),.int .u64 (x6 : Int),.int .u64 (x7 : Int)] 76 (0,0))) : Rf.Dig W b 8 (Hs.V8.get ⟨x0,x1,x2,x3,x4,x5,x6,x7⟩) := by
  refine ⟨fun j hj => ?_,(Array.getElem?_eq_some_iff.1 h).1⟩
  rw [cell_of_row W b j _ _ _ h]
  match j,hj with
  | 0,_ => rfl
  | 1,_ => rfl
  | 2,_ => rfl
  | 3,_ => rfl
  | 4,_ => rfl
  | 5,_ => rfl
  | 6,_ => rfl
  | 7,_ => rfl
set_option maxHeartbeats 1000000 in
set_option maxRecDepth 100000 in
theorem Rf.r30 (w : World) (q gv cv n t u : Nat) (R : Array Value) (hR : R.size = 17) (g : Nat → Nat) {u0 u1 u3 u4 u5 u6 u7 u8 u9 u10 u11 u12 u13 u14 u16 u17 u18 u21 u22 u23 u24 u25 u26 u27 u28 u29 u30 u31 u32 u33 u34 u35 u36 u37 u38 u39 u40 u41 u42 u43 u44 u45 u46 u47 u48 u49 u50 u51 u52 u53 u54 u55 u56 u57 u58 u59 u60 u61 u62 u63 u64 u65 u66 u67 u68 u69 u70 u71 u72 u73 u74 u75 u76 u77 u78 u79 u80 u81 u82 u83 u84 u85 u86 u87 u88 u89 u90 u91 u92 u93 u94 u95 u96 u97 u98 u99 u100 u101 u102 u103 u104 u105 u106 u107 u108 u109 u110 u111 u112 u113 u114 u115 u116 u117 u118 u119 u120 u121 u122 u123 u124 u125 u126 u127 u128 u129 u130 u131 u132 u133 u134 u135 u136 u137 u138 u139 u140 u141 u142 u143 u144 u145 u146 u147 u148 u149 u150 u151 u152 u153 u154 u155 u156 u157 u158 u159 u160 u161 u162 u163 u164 u165 u166 u167 u168 u169 u170 u171 u172 u173 u174 u175 u176 u177 u178 u179 u180 u181 u182 u183 u184 u185 u186 u187 u188 u189 u190 u191 u192 u193 u194 u195 u196 u197 u198 u199 u200 u201 u202 u203 u204 u205 u206 u207 u208 u209 u210 u211 u212 u213 u214 u215 u216 u217 u218 u219 u220 u221 u222 u223 u224 u225 u226 u227 u228 u229 u230 u231 u232 u233 u234 u235 u236 u237 u238 u239 u240 u241 u242 u243 u244 u245 u246 u247 u248 u249 u250 u251 u252 u253 u254 u255 u256 u257 u258 u259 u260 u261 u262 u263 u264 u265 u266 u267 u268 u269 u270 u271 u272 u273 u274 u275 u276 u277 u278 u279 u280 u281 u282 u283 u284 u285 u286 u287 u288 u289 u290 u291 u292 u293 u294 u295 u296 u297 u298 u299 u300 u301 u302 u303 u304 u305 u306 u307 u308 u309 u310 u311 u312 u313 u314 u315 u316 u317 u318 u319 u320 u321 u322 u323 u324 u325 u326 u327 u328 u329 u330 u331 u332 u333 u334 u335 u336 u337 u338 u339 : Value} (Q0 : Exit → Act → World → Prop)
    (hkb : w.heap[q]? = some (.cells R 61 (0,0))) (hn : n = 32 ∨ n = 64) (h0 : R[0]? = some (.int .i64 (n : Int))) (hv : ∀ j,j < 8 → w.cell? ⟨gv,j,none⟩ = some (.int .u64 (g j : Int))) (hvl : ∀ j,j < 8 → g j < 2 ^ n)
    (hk : ∀ (v273 v274 v275 v276 v277 v278 v279 v280 v281 v282 v283 v284 v285 v286 v287 v288 v289 v290 v291 v292 v293 v294 v295 v296 v297 v298 v299 v300 v301 v302 v303 : Value) (gn : Nat) (W : World),w.heap.size ≤ gn → Below w.heap.size w W → Rf.Dig W gn 8 (Hs.V8.get ⟨(t + u) % 2 ^ n,g 0,g 1,g 2,(g 3 + t) % 2 ^ n,g 4,g 5,g 6⟩) → Q0 .normal ⟨#[u0,u1,.pointer (some ⟨q,0,none⟩),u3,u4,u5,u6,u7,u8,u9,u10,u11,u12,u13,u14,.slice (some ⟨gn,0,none⟩) 8 8,u16,u17,u18,.int .u64 (t : Int),.int .u64 (u : Int),u21,u22,u23,u24,u25,u26,u27,u28,u29,u30,u31,u32,u33,u34,u35,u36,u37,u38,u39,u40,u41,u42,u43,u44,u45,u46,u47,u48,u49,u50,u51,u52,u53,u54,u55,u56,u57,u58,u59,u60,u61,u62,u63,u64,u65,u66,u67,u68,u69,u70,u71,u72,u73,u74,u75,u76,u77,u78,u79,u80,u81,u82,u83,u84,u85,u86,u87,u88,u89,u90,u91,u92,u93,u94,u95,u96,u97,u98,u99,u100,u101,u102,u103,u104,u105,u106,u107,u108,u109,u110,u111,u112,u113,u114,u115,u116,u117,u118,u119,u120,u121,u122,u123,u124,u125,u126,u127,u128,u129,u130,u131,u132,u133,u134,u135,u136,u137,u138,u139,u140,u141,u142,u143,u144,u145,u146,u147,u148,u149,u150,u151,u152,u153,u154,u155,u156,u157,u158,u159,u160,u161,u162,u163,u164,u165,u166,u167,u168,u169,u170,u171,u172,u173,u174,u175,u176,u177,u178,u179,u180,u181,u182,u183,u184,u185,u186,u187,u188,u189,u190,u191,u192,u193,u194,u195,u196,u197,u198,u199,u200,u201,u202,u203,u204,u205,u206,u207,u208,u209,u210,u211,u212,u213,u214,u215,u216,u217,u218,u219,u220,u221,u222,u223,u224,u225,u226,u227,u228,u229,u230,u231,u232,u233,u234,u235,u236,u237,u238,u239,u240,u241,u242,u243,u244,u245,u246,u247,u248,u249,u250,u251,u252,u253,u254,u255,u256,u257,u258,u259,u260,u261,u262,u263,u264,u265,u266,u267,u268,u269,u270,u271,u272,v273,v274,v275,v276,v277,v278,v279,v280,v281,v282,v283,v284,v285,v286,v287,v288,v289,v290,v291,v292,v293,v294,v295,v296,v297,v298,v299,v300,v301,v302,v303,u304,u305,u306,u307,u308,u309,u310,u311,u312,u313,u314,u315,u316,u317,u318,u319,u320,u321,u322,u323,u324,u325,u326,u327,u328,u329,u330,u331,u332,u333,u334,u335,u336,u337,u338,u339],[]⟩ W) :
    Code.wp Tryz.prog (Rf.reg 30) Q0 ⟨#[u0,u1,.pointer (some ⟨q,0,none⟩),u3,u4,u5,u6,u7,u8,u9,u10,u11,u12,u13,u14,.slice (some ⟨gv,0,none⟩) 8 cv,u16,u17,u18,.int .u64 (t : Int),.int .u64 (u : Int),u21,u22,u23,u24,u25,u26,u27,u28,u29,u30,u31,u32,u33,u34,u35,u36,u37,u38,u39,u40,u41,u42,u43,u44,u45,u46,u47,u48,u49,u50,u51,u52,u53,u54,u55,u56,u57,u58,u59,u60,u61,u62,u63,u64,u65,u66,u67,u68,u69,u70,u71,u72,u73,u74,u75,u76,u77,u78,u79,u80,u81,u82,u83,u84,u85,u86,u87,u88,u89,u90,u91,u92,u93,u94,u95,u96,u97,u98,u99,u100,u101,u102,u103,u104,u105,u106,u107,u108,u109,u110,u111,u112,u113,u114,u115,u116,u117,u118,u119,u120,u121,u122,u123,u124,u125,u126,u127,u128,u129,u130,u131,u132,u133,u134,u135,u136,u137,u138,u139,u140,u141,u142,u143,u144,u145,u146,u147,u148,u149,u150,u151,u152,u153,u154,u155,u156,u157,u158,u159,u160,u161,u162,u163,u164,u165,u166,u167,u168,u169,u170,u171,u172,u173,u174,u175,u176,u177,u178,u179,u180,u181,u182,u183,u184,u185,u186,u187,u188,u189,u190,u191,u192,u193,u194,u195,u196,u197,u198,u199,u200,u201,u202,u203,u204,u205,u206,u207,u208,u209,u210,u211,u212,u213,u214,u215,u216,u217,u218,u219,u220,u221,u222,u223,u224,u225,u226,u227,u228,u229,u230,u231,u232,u233,u234,u235,u236,u237,u238,u239,u240,u241,u242,u243,u244,u245,u246,u247,u248,u249,u250,u251,u252,u253,u254,u255,u256,u257,u258,u259,u260,u261,u262,u263,u264,u265,u266,u267,u268,u269,u270,u271,u272,u273,u274,u275,u276,u277,u278,u279,u280,u281,u282,u283,u284,u285,u286,u287,u288,u289,u290,u291,u292,u293,u294,u295,u296,u297,u298,u299,u300,u301,u302,u303,u304,u305,u306,u307,u308,u309,u310,u311,u312,u313,u314,u315,u316,u317,u318,u319,u320,u321,u322,u323,u324,u325,u326,u327,u328,u329,u330,u331,u332,u333,u334,u335,u336,u337,u338,u339],[]⟩ w := by
  have cg0 := fun p => Rg.cell (hv 0 (by omega)) p
  have pg0 := hvl 0 (by omega)
  have cg1 := fun p => Rg.cell (hv 1 (by omega)) p
  have pg1 := hvl 1 (by omega)
  have cg2 := fun p => Rg.cell (hv 2 (by omega)) p
  have pg2 := hvl 2 (by omega)
  have cg3 := fun p => Rg.cell (hv 3 (by omega)) p
  have pg3 := hvl 3 (by omega)
  have cg4 := fun p => Rg.cell (hv 4 (by omega)) p
  have pg4 := hvl 4 (by omega)
  have cg5 := fun p => Rg.cell (hv 5 (by omega)) p
  have pg5 := hvl 5 (by omega)
  have cg6 := fun p => Rg.cell (hv 6 (by omega)) p
  have pg6 := hvl 6 (by omega)
  have y1 := Rf.add64 t u
  obtain ⟨a,en_a⟩ : ∃ z,(t + u) % 18446744073709551616 = z := ⟨_,rfl⟩
  rw [en_a] at y1
  have y2 := Rf.add64 (g 3) t
  obtain ⟨b,en_b⟩ : ∃ z,(g 3 + t) % 18446744073709551616 = z := ⟨_,rfl⟩
  rw [en_b] at y2
  have la : a < 18446744073709551616 := by rw [← en_a]; exact Nat.mod_lt _ (by decide)
  have lb : b < 18446744073709551616 := by rw [← en_b]; exact Nat.mod_lt _ (by decide)
  have ea : a % 2 ^ n = (t + u) % 2 ^ n := by rw [← en_a]; rcases hn with rfl | rfl <;> omega
  have eb : b % 2 ^ n = (g 3 + t) % 2 ^ n := by rw [← en_b]; rcases hn with rfl | rfl <;> omega
  have CA := Lib.hid (fun W => Rf.cut_any W R n a h0 hn la)
  have CB := Lib.hid (fun W => Rf.cut_any W R n b h0 hn lb)
  rw [ea] at CA
  rw [eb] at CB
  obtain ⟨g0,en_g0⟩ : ∃ z,g 0 = z := ⟨_,rfl⟩
  rw [en_g0] at cg0
  rw [en_g0] at pg0
  rw [en_g0] at hk
  obtain ⟨g1,en_g1⟩ : ∃ z,g 1 = z := ⟨_,rfl⟩
  rw [en_g1] at cg1
  rw [en_g1] at pg1
  rw [en_g1] at hk
  obtain ⟨g2,en_g2⟩ : ∃ z,g 2 = z := ⟨_,rfl⟩
  rw [en_g2] at cg2
  rw [en_g2] at pg2
  rw [en_g2] at hk
  obtain ⟨g3,en_g3⟩ : ∃ z,g 3 = z := ⟨_,rfl⟩
  rw [en_g3] at cg3
  rw [en_g3] at pg3
  rw [en_g3] at hk
  rw [en_g3] at y2
  rw [en_g3] at CB
  obtain ⟨g4,en_g4⟩ : ∃ z,g 4 = z := ⟨_,rfl⟩
  rw [en_g4] at cg4
  rw [en_g4] at pg4
  rw [en_g4] at hk
  obtain ⟨g5,en_g5⟩ : ∃ z,g 5 = z := ⟨_,rfl⟩
  rw [en_g5] at cg5
  rw [en_g5] at pg5
  rw [en_g5] at hk
  obtain ⟨g6,en_g6⟩ : ∃ z,g 6 = z := ⟨_,rfl⟩
  rw [en_g6] at cg6
  rw [en_g6] at pg6
  rw [en_g6] at hk
  obtain ⟨ca,en_ca⟩ : ∃ z,(t + u) % 2 ^ n = z := ⟨_,rfl⟩
  rw [en_ca] at CA
  rw [en_ca] at hk
  obtain ⟨cb,en_cb⟩ : ∃ z,(g3 + t) % 2 ^ n = z := ⟨_,rfl⟩
  rw [en_cb] at CB
  rw [en_cb] at hk
  have HK := Lib.hid hk
  have hsz : (Tryz.prog.info? 61).map (·.size) = some R.size := by rw [hR]; exact Rf.infoKd
  clear hk en_a en_b en_ca en_cb ea eb la lb pg0 pg1 pg2 pg3 pg4 pg5 pg6 en_g0 en_g1 en_g2 en_g3 en_g4 en_g5 en_g6 hvl hv hn h0 hR
  conv => arg 2; whnf
  refine Rg.tail 30 (by kernel_rfl) (by kernel_rfl) ?_
  simp only [List.take_succ_cons,List.take_zero,List.drop_succ_cons,List.drop_zero]
  repeat (first | (go_big_quiet_want; refine Rg.load_row _ 61 rfl q rfl 61 R (0,0) _ hkb Tryz.underlying61 rfl hsz _ (by simp only [Act.put,List.setIfInBounds_toArray,List.set_cons_zero,List.set_cons_succ]; exact rfl) ?_; go_big_quiet_on) | go_big_quiet_step ((first | (go_at_call 53; first | with_reducible exact Rg.call (CA.out _) | with_reducible exact Rg.call (CB.out _)))))
  refine wpQuiet_nil ?_
  intro w' hw'
  obtain ⟨p,rfl⟩ := hw'
  have hB := Rg.below w p
  clear cg0 cg1 cg2 cg3 cg4 cg5 cg6
  generalize Rg.w w p = w1 at hB ⊢
  go_wp2_with fail
  exact HK.out _ _ _ _ _ _ _ _ _ _ _ _ _ _ _ _ _ _ _ _ _ _ _ _ _ _ _ _ _ _ _ w1.heap.size _ hB.size (hB.trans (((Below.refl _ _).alloc (Nat.le_refl _) _).mono hB.size)) (Rf.dig8 _ _ _ _ _ _ _ _ _ _ (heap_alloc_new _ _))
end
end
section
open Go.RowKit

set_option maxHeartbeats 1000000 in
set_option maxRecDepth 100000 in
theorem Rf.r34 (w : World) (q gs cs gv cv n i x y : Nat) (R : Array Value) (hR : R.size = 17) {u0 u1 u3 u4 u5 u6 u8 u9 u10 u11 u12 u13 u14 u16 u17 u18 u19 u20 u22 u23 u24 u25 u26 u27 u28 u29 u30 u31 u32 u33 u34 u35 u36 u37 u38 u39 u40 u41 u42 u43 u44 u45 u46 u47 u48 u49 u50 u51 u52 u53 u54 u55 u56 u57 u58 u59 u60 u61 u62 u63 u64 u65 u66 u67 u68 u69 u70 u71 u72 u73 u74 u75 u76 u77 u78 u79 u80 u81 u82 u83 u84 u85 u86 u87 u88 u89 u90 u91 u92 u93 u94 u95 u96 u97 u98 u99 u100 u101 u102 u103 u104 u105 u106 u107 u108 u109 u110 u111 u112 u113 u114 u115 u116 u117 u118 u119 u120 u121 u122 u123 u124 u125 u126 u127 u128 u129 u130 u131 u132 u133 u134 u135 u136 u137 u138 u139 u140 u141 u142 u143 u144 u145 u146 u147 u148 u149 u150 u151 u152 u153 u154 u155 u156 u157 u158 u159 u160 u161 u162 u163 u164 u165 u166 u167 u168 u169 u170 u171 u172 u173 u174 u175 u176 u177 u178 u179 u180 u181 u182 u183 u184 u185 u186 u187 u188 u189 u190 u191 u192 u193 u194 u195 u196 u197 u198 u199 u200 u201 u202 u203 u204 u205 u206 u207 u208 u209 u210 u211 u212 u213 u214 u215 u216 u217 u218 u219 u220 u221 u222 u223 u224 u225 u226 u227 u228 u229 u230 u231 u232 u233 u234 u235 u236 u237 u238 u239 u240 u241 u242 u243 u244 u245 u246 u247 u248 u249 u250 u251 u252 u253 u254 u255 u256 u257 u258 u259 u260 u261 u262 u263 u264 u265 u266 u267 u268 u269 u270 u271 u272 u273 u274 u275 u276 u277 u278 u279 u280 u281 u282 u283 u284 u285 u286 u287 u288 u289 u290 u291 u292 u293 u294 u295 u296 u297 u298 u299 u300 u301 u302 u303 u304 u305 u306 u307 u308 u309 u310 u311 u312 u313 u314 u315 u316 u317 u318 u319 u320 u321 u322 u323 u324 u325 u326 u327 u328 u329 u330 u331 u332 u333 u334 u335 u336 u337 u338 u339 : Value} (Q0 : Exit → Act → World → Prop)
    (hkb : w.heap[q]? = some (.cells R 61 (0,0))) (hn : n = 32 ∨ n = 64) (h0 : R[0]? = some (.int .i64 (n : Int))) (hi : i < 8) (hx : w.cell? ⟨gs,i,none⟩ = some (.int .u64 (x : Int))) (hfx : w.frozen? ⟨gs,i,none⟩ = false) (hy : w.cell? ⟨gv,i,none⟩ = some (.int .u64 (y : Int)))
    (hk : ∀ (v308 v309 v310 v311 v312 v313 v314 v315 v316 v317 v318 v319 v320 v321 : Value) (W : World),Below w.heap.size w W → Q0 .normal ⟨#[u0,u1,.pointer (some ⟨q,0,none⟩),u3,u4,u5,u6,.slice (some ⟨gs,0,none⟩) 8 cs,u8,u9,u10,u11,u12,u13,u14,.slice (some ⟨gv,0,none⟩) 8 cv,u16,u17,u18,u19,u20,.int .i64 (i : Int),u22,u23,u24,u25,u26,u27,u28,u29,u30,u31,u32,u33,u34,u35,u36,u37,u38,u39,u40,u41,u42,u43,u44,u45,u46,u47,u48,u49,u50,u51,u52,u53,u54,u55,u56,u57,u58,u59,u60,u61,u62,u63,u64,u65,u66,u67,u68,u69,u70,u71,u72,u73,u74,u75,u76,u77,u78,u79,u80,u81,u82,u83,u84,u85,u86,u87,u88,u89,u90,u91,u92,u93,u94,u95,u96,u97,u98,u99,u100,u101,u102,u103,u104,u105,u106,u107,u108,u109,u110,u111,u112,u113,u114,u115,u116,u117,u118,u119,u120,u121,u122,u123,u124,u125,u126,u127,u128,u129,u130,u131,u132,u133,u134,u135,u136,u137,u138,u139,u140,u141,u142,u143,u144,u145,u146,u147,u148,u149,u150,u151,u152,u153,u154,u155,u156,u157,u158,u159,u160,u161,u162,u163,u164,u165,u166,u167,u168,u169,u170,u171,u172,u173,u174,u175,u176,u177,u178,u179,u180,u181,u182,u183,u184,u185,u186,u187,u188,u189,u190,u191,u192,u193,u194,u195,u196,u197,u198,u199,u200,u201,u202,u203,u204,u205,u206,u207,u208,u209,u210,u211,u212,u213,u214,u215,u216,u217,u218,u219,u220,u221,u222,u223,u224,u225,u226,u227,u228,u229,u230,u231,u232,u233,u234,u235,u236,u237,u238,u239,u240,u241,u242,u243,u244,u245,u246,u247,u248,u249,u250,u251,u252,u253,u254,u255,u256,u257,u258,u259,u260,u261,u262,u263,u264,u265,u266,u267,u268,u269,u270,u271,u272,u273,u274,u275,u276,u277,u278,u279,u280,u281,u282,u283,u284,u285,u286,u287,u288,u289,u290,u291,u292,u293,u294,u295,u296,u297,u298,u299,u300,u301,u302,u303,u304,u305,u306,u307,v308,v309,v310,v311,v312,v313,v314,v315,v316,v317,v318,v319,v320,v321,u322,u323,u324,u325,u326,u327,u328,u329,u330,u331,u332,u333,u334,u335,u336,u337,u338,u339],[]⟩ (W.setCell ⟨gs,i,none⟩ (.int .u64 (((x + y) % 2 ^ n : Nat) : Int)))) :
    Code.wp Tryz.prog (Rf.reg 34) Q0 ⟨#[u0,u1,.pointer (some ⟨q,0,none⟩),u3,u4,u5,u6,.slice (some ⟨gs,0,none⟩) 8 cs,u8,u9,u10,u11,u12,u13,u14,.slice (some ⟨gv,0,none⟩) 8 cv,u16,u17,u18,u19,u20,.int .i64 (i : Int),u22,u23,u24,u25,u26,u27,u28,u29,u30,u31,u32,u33,u34,u35,u36,u37,u38,u39,u40,u41,u42,u43,u44,u45,u46,u47,u48,u49,u50,u51,u52,u53,u54,u55,u56,u57,u58,u59,u60,u61,u62,u63,u64,u65,u66,u67,u68,u69,u70,u71,u72,u73,u74,u75,u76,u77,u78,u79,u80,u81,u82,u83,u84,u85,u86,u87,u88,u89,u90,u91,u92,u93,u94,u95,u96,u97,u98,u99,u100,u101,u102,u103,u104,u105,u106,u107,u108,u109,u110,u111,u112,u113,u114,u115,u116,u117,u118,u119,u120,u121,u122,u123,u124,u125,u126,u127,u128,u129,u130,u131,u132,u133,u134,u135,u136,u137,u138,u139,u140,u141,u142,u143,u144,u145,u146,u147,u148,u149,u150,u151,u152,u153,u154,u155,u156,u157,u158,u159,u160,u161,u162,u163,u164,u165,u166,u167,u168,u169,u170,u171,u172,u173,u174,u175,u176,u177,u178,u179,u180,u181,u182,u183,u184,u185,u186,u187,u188,u189,u190,u191,u192,u193,u194,u195,u196,u197,u198,u199,u200,u201,u202,u203,u204,u205,u206,u207,u208,u209,u210,u211,u212,u213,u214,u215,u216,u217,u218,u219,u220,u221,u222,u223,u224,u225,u226,u227,u228,u229,u230,u231,u232,u233,u234,u235,u236,u237,u238,u239,u240,u241,u242,u243,u244,u245,u246,u247,u248,u249,u250,u251,u252,u253,u254,u255,u256,u257,u258,u259,u260,u261,u262,u263,u264,u265,u266,u267,u268,u269,u270,u271,u272,u273,u274,u275,u276,u277,u278,u279,u280,u281,u282,u283,u284,u285,u286,u287,u288,u289,u290,u291,u292,u293,u294,u295,u296,u297,u298,u299,u300,u301,u302,u303,u304,u305,u306,u307,u308,u309,u310,u311,u312,u313,u314,u315,u316,u317,u318,u319,u320,u321,u322,u323,u324,u325,u326,u327,u328,u329,u330,u331,u332,u333,u334,u335,u336,u337,u338,u339],[]⟩ w := by
  have cx := fun p => Rg.cell hx p
  have cy := fun p => Rg.cell hy p
  have ci := fun W (hB : Below w.heap.size w W) => (hB.cell (p := ⟨gs,i,none⟩) (block_lt_of_cell hx)).trans hx
  have fi := fun W (hB : Below w.heap.size w W) => (hB.frozen (p := ⟨gs,i,none⟩) (block_lt_of_cell hx)).trans hfx
  have bi : (i : Int) < 8 := by omega
  have bi0 : 0 ≤ (i : Int) := by omega
  have y1 := Rf.add64 x y
  obtain ⟨a,en_a⟩ : ∃ z,(x + y) % 18446744073709551616 = z := ⟨_,rfl⟩
  rw [en_a] at y1
  have la : a < 18446744073709551616 := by rw [← en_a]; exact Nat.mod_lt _ (by decide)
  have ea : a % 2 ^ n = (x + y) % 2 ^ n := by rw [← en_a]; rcases hn with rfl | rfl <;> omega
  have CA := Lib.hid (fun W => Rf.cut_any W R n a h0 hn la)
  rw [ea] at CA
  obtain ⟨z,en_z⟩ : ∃ z,(x + y) % 2 ^ n = z := ⟨_,rfl⟩
  rw [en_z] at CA
  rw [en_z] at hk
  have HK := Lib.hid hk
  have hsz : (Tryz.prog.info? 61).map (·.size) = some R.size := by rw [hR]; exact Rf.infoKd
  clear hk en_a en_z ea la hi hx hfx hy hn h0 hR
  conv => arg 2; whnf
  refine Rg.tail 13 (by kernel_rfl) (by kernel_rfl) ?_
  simp only [List.take_succ_cons,List.take_zero,List.drop_succ_cons,List.drop_zero]
  repeat (first | (go_big_quiet_want; refine Rg.load_row _ 61 rfl q rfl 61 R (0,0) _ hkb Tryz.underlying61 rfl hsz _ (by simp only [Act.put,List.setIfInBounds_toArray,List.set_cons_zero,List.set_cons_succ]; exact rfl) ?_; go_big_quiet_on) | go_big_quiet_step ((first | (go_at_call 53; first | with_reducible exact Rg.call (CA.out _)))))
  refine wpQuiet_nil ?_
  intro w' hw'
  obtain ⟨p,rfl⟩ := hw'
  have hB := Rg.below w p
  have ci2 := ci _ hB
  have fi2 := fi _ hB
  clear ci fi cx cy
  generalize Rg.w w p = w1 at hB ci2 fi2 ⊢
  go_wp2_with fail
  exact HK.out _ _ _ _ _ _ _ _ _ _ _ _ _ _ w1 hB
set_option maxHeartbeats 1000000 in
set_option maxRecDepth 100000 in
theorem Rf.r17 (w : World) (wd gb lb cb at_ gw rd i k x : Nat) (c : UInt8) {u0 u1 u2 u3 u4 u7 u12 u13 u14 u15 u16 u17 u18 u19 u20 u21 u22 u23 u24 u25 u26 u27 u28 u29 u30 u31 u32 u33 u34 u35 u36 u37 u38 u39 u40 u41 u42 u43 u44 u45 u46 u47 u48 u49 u50 u51 u52 u53 u54 u55 u56 u57 u58 u59 u60 u61 u62 u63 u64 u65 u66 u67 u68 u69 u70 u71 u72 u73 u74 u75 u76 u77 u78 u79 u80 u81 u82 u83 u84 u85 u86 u87 u88 u89 u90 u91 u92 u93 u94 u95 u96 u97 u98 u99 u100 u101 u102 u103 u104 u105 u106 u107 u108 u109 u110 u111 u112 u113 u114 u115 u116 u117 u118 u119 u120 u121 u122 u123 u124 u125 u126 u127 u128 u129 u130 u131 u132 u133 u134 u135 u136 u137 u138 u139 u140 u141 u142 u143 u144 u145 u146 u147 u148 u149 u150 u151 u152 u153 u154 u155 u156 u157 u158 u159 u160 u161 u162 u163 u164 u165 u166 u167 u168 u169 u170 u171 u172 u173 u174 u175 u176 u177 u178 u179 u180 u181 u182 u183 u184 u185 u186 u187 u188 u189 u190 u191 u192 u193 u194 u195 u196 u197 u198 u199 u200 u201 u202 u203 u204 u205 u206 u207 u208 u209 u210 u211 u212 u213 u214 u215 u216 u217 u218 u219 u220 u221 u222 u223 u224 u225 u226 u227 u228 u229 u230 u231 u232 u233 u234 u235 u236 u237 u238 u239 u240 u241 u242 u243 u244 u245 u246 u247 u248 u249 u250 u251 u252 u253 u254 u255 u256 u257 u258 u259 u260 u261 u262 u263 u264 u265 u266 u267 u268 u269 u270 u271 u272 u273 u274 u275 u276 u277 u278 u279 u280 u281 u282 u283 u284 u285 u286 u287 u288 u289 u290 u291 u292 u293 u294 u295 u296 u297 u298 u299 u300 u301 u302 u303 u304 u305 u306 u307 u308 u309 u310 u311 u312 u313 u314 u315 u316 u317 u318 u319 u320 u321 u322 u323 u324 u325 u326 u327 u328 u329 u330 u331 u332 u333 u334 u335 u336 u337 u338 u339 : Value} (Q0 : Exit → Act → World → Prop)
    (hi : i < rd) (hrd : rd ≤ 80) (hwd : wd ≤ 8) (hk8 : k ≤ 8) (hj : at_ + wd * i + k < lb) (hlb : lb ≤ 9223372036854775807) (hx : w.cell? ⟨gw,i,none⟩ = some (.int .u64 (x : Int))) (hfx : w.frozen? ⟨gw,i,none⟩ = false) (hxl : x * 256 < 18446744073709551616) (hc : w.cell? ⟨gb,at_ + wd * i + k,none⟩ = some (.int .u8 (c.toNat : Int)))
    (hk : ∀ (v76 v77 v78 v79 v80 v81 v82 v83 v84 v85 v86 v87 v88 v89 v90 v91 v92 v93 v94 v95 : Value) (W : World),Below w.heap.size w W → Q0 .normal ⟨#[u0,u1,u2,u3,u4,.int .i64 (wd : Int),.slice (some ⟨gb,0,none⟩) lb cb,u7,.int .i64 (at_ : Int),.slice (some ⟨gw,0,none⟩) rd rd,.int .i64 (i : Int),.int .i64 (k : Int),u12,u13,u14,u15,u16,u17,u18,u19,u20,u21,u22,u23,u24,u25,u26,u27,u28,u29,u30,u31,u32,u33,u34,u35,u36,u37,u38,u39,u40,u41,u42,u43,u44,u45,u46,u47,u48,u49,u50,u51,u52,u53,u54,u55,u56,u57,u58,u59,u60,u61,u62,u63,u64,u65,u66,u67,u68,u69,u70,u71,u72,u73,u74,u75,v76,v77,v78,v79,v80,v81,v82,v83,v84,v85,v86,v87,v88,v89,v90,v91,v92,v93,v94,v95,u96,u97,u98,u99,u100,u101,u102,u103,u104,u105,u106,u107,u108,u109,u110,u111,u112,u113,u114,u115,u116,u117,u118,u119,u120,u121,u122,u123,u124,u125,u126,u127,u128,u129,u130,u131,u132,u133,u134,u135,u136,u137,u138,u139,u140,u141,u142,u143,u144,u145,u146,u147,u148,u149,u150,u151,u152,u153,u154,u155,u156,u157,u158,u159,u160,u161,u162,u163,u164,u165,u166,u167,u168,u169,u170,u171,u172,u173,u174,u175,u176,u177,u178,u179,u180,u181,u182,u183,u184,u185,u186,u187,u188,u189,u190,u191,u192,u193,u194,u195,u196,u197,u198,u199,u200,u201,u202,u203,u204,u205,u206,u207,u208,u209,u210,u211,u212,u213,u214,u215,u216,u217,u218,u219,u220,u221,u222,u223,u224,u225,u226,u227,u228,u229,u230,u231,u232,u233,u234,u235,u236,u237,u238,u239,u240,u241,u242,u243,u244,u245,u246,u247,u248,u249,u250,u251,u252,u253,u254,u255,u256,u257,u258,u259,u260,u261,u262,u263,u264,u265,u266,u267,u268,u269,u270,u271,u272,u273,u274,u275,u276,u277,u278,u279,u280,u281,u282,u283,u284,u285,u286,u287,u288,u289,u290,u291,u292,u293,u294,u295,u296,u297,u298,u299,u300,u301,u302,u303,u304,u305,u306,u307,u308,u309,u310,u311,u312,u313,u314,u315,u316,u317,u318,u319,u320,u321,u322,u323,u324,u325,u326,u327,u328,u329,u330,u331,u332,u333,u334,u335,u336,u337,u338,u339],[]⟩ (W.setCell ⟨gw,i,none⟩ (.int .u64 ((x * 256 ||| c.toNat : Nat) : Int)))) :
    Code.wp Tryz.prog (Rf.reg 17) Q0 ⟨#[u0,u1,u2,u3,u4,.int .i64 (wd : Int),.slice (some ⟨gb,0,none⟩) lb cb,u7,.int .i64 (at_ : Int),.slice (some ⟨gw,0,none⟩) rd rd,.int .i64 (i : Int),.int .i64 (k : Int),u12,u13,u14,u15,u16,u17,u18,u19,u20,u21,u22,u23,u24,u25,u26,u27,u28,u29,u30,u31,u32,u33,u34,u35,u36,u37,u38,u39,u40,u41,u42,u43,u44,u45,u46,u47,u48,u49,u50,u51,u52,u53,u54,u55,u56,u57,u58,u59,u60,u61,u62,u63,u64,u65,u66,u67,u68,u69,u70,u71,u72,u73,u74,u75,u76,u77,u78,u79,u80,u81,u82,u83,u84,u85,u86,u87,u88,u89,u90,u91,u92,u93,u94,u95,u96,u97,u98,u99,u100,u101,u102,u103,u104,u105,u106,u107,u108,u109,u110,u111,u112,u113,u114,u115,u116,u117,u118,u119,u120,u121,u122,u123,u124,u125,u126,u127,u128,u129,u130,u131,u132,u133,u134,u135,u136,u137,u138,u139,u140,u141,u142,u143,u144,u145,u146,u147,u148,u149,u150,u151,u152,u153,u154,u155,u156,u157,u158,u159,u160,u161,u162,u163,u164,u165,u166,u167,u168,u169,u170,u171,u172,u173,u174,u175,u176,u177,u178,u179,u180,u181,u182,u183,u184,u185,u186,u187,u188,u189,u190,u191,u192,u193,u194,u195,u196,u197,u198,u199,u200,u201,u202,u203,u204,u205,u206,u207,u208,u209,u210,u211,u212,u213,u214,u215,u216,u217,u218,u219,u220,u221,u222,u223,u224,u225,u226,u227,u228,u229,u230,u231,u232,u233,u234,u235,u236,u237,u238,u239,u240,u241,u242,u243,u244,u245,u246,u247,u248,u249,u250,u251,u252,u253,u254,u255,u256,u257,u258,u259,u260,u261,u262,u263,u264,u265,u266,u267,u268,u269,u270,u271,u272,u273,u274,u275,u276,u277,u278,u279,u280,u281,u282,u283,u284,u285,u286,u287,u288,u289,u290,u291,u292,u293,u294,u295,u296,u297,u298,u299,u300,u301,u302,u303,u304,u305,u306,u307,u308,u309,u310,u311,u312,u313,u314,u315,u316,u317,u318,u319,u320,u321,u322,u323,u324,u325,u326,u327,u328,u329,u330,u331,u332,u333,u334,u335,u336,u337,u338,u339],[]⟩ w := by
  have cx := fun p => Rg.cell hx p
  have cc := fun p => Rg.cell hc p
  have ci := fun W (hB : Below w.heap.size w W) => (hB.cell (p := ⟨gw,i,none⟩) (block_lt_of_cell hx)).trans hx
  have fi := fun W (hB : Below w.heap.size w W) => (hB.frozen (p := ⟨gw,i,none⟩) (block_lt_of_cell hx)).trans hfx
  have bi : (i : Int) < (rd : Int) := by omega
  have bi0 : 0 ≤ (i : Int) := by omega
  have w1 : IntKind.i64.wrap ((wd : Int) * (i : Int)) = ((wd * i : Nat) : Int) := by
    have h1 : wd * i ≤ 8 * 80 := Nat.mul_le_mul hwd (by omega)
    rw [show (wd : Int) * (i : Int) = ((wd * i : Nat) : Int) by simp,IntWalk.i64_in _ (by omega)]
  obtain ⟨m,en_m⟩ : ∃ z,wd * i = z := ⟨_,rfl⟩
  rw [en_m] at w1 cc hj
  have w2 : IntKind.i64.wrap ((at_ : Int) + (m : Int)) = ((at_ + m : Nat) : Int) := by rw [IntWalk.i64_in _ (by omega)]; omega
  obtain ⟨m2,en_m2⟩ : ∃ z,at_ + m = z := ⟨_,rfl⟩
  rw [en_m2] at w2 cc hj
  have w3 : IntKind.i64.wrap ((m2 : Int) + (k : Int)) = ((m2 + k : Nat) : Int) := by rw [IntWalk.i64_in _ (by omega)]; omega
  obtain ⟨m3,en_m3⟩ : ∃ z,m2 + k = z := ⟨_,rfl⟩
  rw [en_m3] at w3 cc hj
  have bm : (m3 : Int) < (lb : Int) := by omega
  have bm0 : 0 ≤ (m3 : Int) := by omega
  have y1 : IntKind.u64.wrap ((x : Int) * 256) = ((x * 256 : Nat) : Int) := by rw [IntWalk.u64_in _ (by omega)]; omega
  have cl := c.toNat_lt
  have y2 : bits .or .u64 ((x * 256 : Nat) : Int) ((c.toNat : Nat) : Int) = ((x * 256 ||| c.toNat : Nat) : Int) := u64_or_nat _ _ hxl (by omega)
  obtain ⟨x8,en_x8⟩ : ∃ z,x * 256 = z := ⟨_,rfl⟩
  rw [en_x8] at y1 y2 hk
  obtain ⟨cn,en_cn⟩ : ∃ z,c.toNat = z := ⟨_,rfl⟩
  rw [en_cn] at y2 hk cc cl
  have cn1 : (cn : Int) % 18446744073709551616 = (cn : Int) := by omega
  have cn2 : IntKind.u64.wrap (cn : Int) = (cn : Int) := IntWalk.u64_in _ (by omega)
  obtain ⟨z,en_z⟩ : ∃ z,x8 ||| cn = z := ⟨_,rfl⟩
  rw [en_z] at y2 hk
  have HK := Lib.hid hk
  clear hk en_m en_m2 en_m3 en_x8 en_cn en_z hi hrd hwd hk8 hj hlb hx hfx hxl hc cl
  conv => arg 2; whnf
  refine Rg.tail 19 (by kernel_rfl) (by kernel_rfl) ?_
  simp only [List.take_succ_cons,List.take_zero,List.drop_succ_cons,List.drop_zero]
  repeat (first | go_big_quiet_step (fail))
  refine wpQuiet_nil ?_
  intro w' hw'
  obtain ⟨p,rfl⟩ := hw'
  have hB := Rg.below w p
  have ci2 := ci _ hB
  have fi2 := fi _ hB
  clear ci fi cx cc
  generalize Rg.w w p = w1 at hB ci2 fi2 ⊢
  go_wp2_with fail
  exact HK.out _ _ _ _ _ _ _ _ _ _ _ _ _ _ _ _ _ _ _ _ w1 hB
set_option maxHeartbeats 1000000 in
set_option maxRecDepth 100000 in
theorem Rf.r21 (w : World) (gw rd i x y : Nat) {u0 u1 u2 u3 u4 u5 u6 u7 u8 u10 u11 u13 u14 u15 u16 u17 u18 u19 u20 u21 u22 u23 u24 u25 u26 u27 u28 u29 u30 u31 u32 u33 u34 u35 u36 u37 u38 u39 u40 u41 u42 u43 u44 u45 u46 u47 u48 u49 u50 u51 u52 u53 u54 u55 u56 u57 u58 u59 u60 u61 u62 u63 u64 u65 u66 u67 u68 u69 u70 u71 u72 u73 u74 u75 u76 u77 u78 u79 u80 u81 u82 u83 u84 u85 u86 u87 u88 u89 u90 u91 u92 u93 u94 u95 u96 u97 u98 u99 u100 u101 u102 u103 u104 u105 u106 u107 u108 u109 u110 u111 u112 u113 u114 u115 u116 u117 u118 u119 u120 u121 u122 u123 u124 u125 u126 u127 u128 u129 u130 u131 u132 u133 u134 u135 u136 u137 u138 u139 u140 u141 u142 u143 u144 u145 u146 u147 u148 u149 u150 u151 u152 u153 u154 u155 u156 u157 u158 u159 u160 u161 u162 u163 u164 u165 u166 u167 u168 u169 u170 u171 u172 u173 u174 u175 u176 u177 u178 u179 u180 u181 u182 u183 u184 u185 u186 u187 u188 u189 u190 u191 u192 u193 u194 u195 u196 u197 u198 u199 u200 u201 u202 u203 u204 u205 u206 u207 u208 u209 u210 u211 u212 u213 u214 u215 u216 u217 u218 u219 u220 u221 u222 u223 u224 u225 u226 u227 u228 u229 u230 u231 u232 u233 u234 u235 u236 u237 u238 u239 u240 u241 u242 u243 u244 u245 u246 u247 u248 u249 u250 u251 u252 u253 u254 u255 u256 u257 u258 u259 u260 u261 u262 u263 u264 u265 u266 u267 u268 u269 u270 u271 u272 u273 u274 u275 u276 u277 u278 u279 u280 u281 u282 u283 u284 u285 u286 u287 u288 u289 u290 u291 u292 u293 u294 u295 u296 u297 u298 u299 u300 u301 u302 u303 u304 u305 u306 u307 u308 u309 u310 u311 u312 u313 u314 u315 u316 u317 u318 u319 u320 u321 u322 u323 u324 u325 u326 u327 u328 u329 u330 u331 u332 u333 u334 u335 u336 u337 u338 u339 : Value} (Q0 : Exit → Act → World → Prop)
    (hi : 16 ≤ i) (hi2 : i < rd) (hrd : rd ≤ 80) (hx : w.cell? ⟨gw,i - 15,none⟩ = some (.int .u64 (x : Int))) (hy : w.cell? ⟨gw,i - 2,none⟩ = some (.int .u64 (y : Int)))
    (hk : ∀ (v102 v103 v104 v105 v106 v107 v108 v109 v110 v111 : Value) (W : World),Below w.heap.size w W → Q0 .normal ⟨#[u0,u1,u2,u3,u4,u5,u6,u7,u8,.slice (some ⟨gw,0,none⟩) rd rd,u10,u11,.int .i64 (i : Int),.int .u64 (x : Int),.int .u64 (y : Int),u15,u16,u17,u18,u19,u20,u21,u22,u23,u24,u25,u26,u27,u28,u29,u30,u31,u32,u33,u34,u35,u36,u37,u38,u39,u40,u41,u42,u43,u44,u45,u46,u47,u48,u49,u50,u51,u52,u53,u54,u55,u56,u57,u58,u59,u60,u61,u62,u63,u64,u65,u66,u67,u68,u69,u70,u71,u72,u73,u74,u75,u76,u77,u78,u79,u80,u81,u82,u83,u84,u85,u86,u87,u88,u89,u90,u91,u92,u93,u94,u95,u96,u97,u98,u99,u100,u101,v102,v103,v104,v105,v106,v107,v108,v109,v110,v111,u112,u113,u114,u115,u116,u117,u118,u119,u120,u121,u122,u123,u124,u125,u126,u127,u128,u129,u130,u131,u132,u133,u134,u135,u136,u137,u138,u139,u140,u141,u142,u143,u144,u145,u146,u147,u148,u149,u150,u151,u152,u153,u154,u155,u156,u157,u158,u159,u160,u161,u162,u163,u164,u165,u166,u167,u168,u169,u170,u171,u172,u173,u174,u175,u176,u177,u178,u179,u180,u181,u182,u183,u184,u185,u186,u187,u188,u189,u190,u191,u192,u193,u194,u195,u196,u197,u198,u199,u200,u201,u202,u203,u204,u205,u206,u207,u208,u209,u210,u211,u212,u213,u214,u215,u216,u217,u218,u219,u220,u221,u222,u223,u224,u225,u226,u227,u228,u229,u230,u231,u232,u233,u234,u235,u236,u237,u238,u239,u240,u241,u242,u243,u244,u245,u246,u247,u248,u249,u250,u251,u252,u253,u254,u255,u256,u257,u258,u259,u260,u261,u262,u263,u264,u265,u266,u267,u268,u269,u270,u271,u272,u273,u274,u275,u276,u277,u278,u279,u280,u281,u282,u283,u284,u285,u286,u287,u288,u289,u290,u291,u292,u293,u294,u295,u296,u297,u298,u299,u300,u301,u302,u303,u304,u305,u306,u307,u308,u309,u310,u311,u312,u313,u314,u315,u316,u317,u318,u319,u320,u321,u322,u323,u324,u325,u326,u327,u328,u329,u330,u331,u332,u333,u334,u335,u336,u337,u338,u339],[]⟩ W) :
    Code.wp Tryz.prog (Rf.reg 21) Q0 ⟨#[u0,u1,u2,u3,u4,u5,u6,u7,u8,.slice (some ⟨gw,0,none⟩) rd rd,u10,u11,.int .i64 (i : Int),u13,u14,u15,u16,u17,u18,u19,u20,u21,u22,u23,u24,u25,u26,u27,u28,u29,u30,u31,u32,u33,u34,u35,u36,u37,u38,u39,u40,u41,u42,u43,u44,u45,u46,u47,u48,u49,u50,u51,u52,u53,u54,u55,u56,u57,u58,u59,u60,u61,u62,u63,u64,u65,u66,u67,u68,u69,u70,u71,u72,u73,u74,u75,u76,u77,u78,u79,u80,u81,u82,u83,u84,u85,u86,u87,u88,u89,u90,u91,u92,u93,u94,u95,u96,u97,u98,u99,u100,u101,u102,u103,u104,u105,u106,u107,u108,u109,u110,u111,u112,u113,u114,u115,u116,u117,u118,u119,u120,u121,u122,u123,u124,u125,u126,u127,u128,u129,u130,u131,u132,u133,u134,u135,u136,u137,u138,u139,u140,u141,u142,u143,u144,u145,u146,u147,u148,u149,u150,u151,u152,u153,u154,u155,u156,u157,u158,u159,u160,u161,u162,u163,u164,u165,u166,u167,u168,u169,u170,u171,u172,u173,u174,u175,u176,u177,u178,u179,u180,u181,u182,u183,u184,u185,u186,u187,u188,u189,u190,u191,u192,u193,u194,u195,u196,u197,u198,u199,u200,u201,u202,u203,u204,u205,u206,u207,u208,u209,u210,u211,u212,u213,u214,u215,u216,u217,u218,u219,u220,u221,u222,u223,u224,u225,u226,u227,u228,u229,u230,u231,u232,u233,u234,u235,u236,u237,u238,u239,u240,u241,u242,u243,u244,u245,u246,u247,u248,u249,u250,u251,u252,u253,u254,u255,u256,u257,u258,u259,u260,u261,u262,u263,u264,u265,u266,u267,u268,u269,u270,u271,u272,u273,u274,u275,u276,u277,u278,u279,u280,u281,u282,u283,u284,u285,u286,u287,u288,u289,u290,u291,u292,u293,u294,u295,u296,u297,u298,u299,u300,u301,u302,u303,u304,u305,u306,u307,u308,u309,u310,u311,u312,u313,u314,u315,u316,u317,u318,u319,u320,u321,u322,u323,u324,u325,u326,u327,u328,u329,u330,u331,u332,u333,u334,u335,u336,u337,u338,u339],[]⟩ w := by
  have cx := fun p => Rg.cell hx p
  have cy := fun p => Rg.cell hy p
  have w15 : IntKind.i64.wrap ((i : Int) - 15) = ((i - 15 : Nat) : Int) := by rw [IntWalk.i64_in _ (by omega)]; omega
  have w2 : IntKind.i64.wrap ((i : Int) - 2) = ((i - 2 : Nat) : Int) := by rw [IntWalk.i64_in _ (by omega)]; omega
  have b15 : ((i - 15 : Nat) : Int) < (rd : Int) := by omega
  have b2 : ((i - 2 : Nat) : Int) < (rd : Int) := by omega
  obtain ⟨j15,e15⟩ : ∃ v,i - 15 = v := ⟨_,rfl⟩
  obtain ⟨j2,e2⟩ : ∃ v,i - 2 = v := ⟨_,rfl⟩
  rw [e15] at cx w15 b15
  rw [e2] at cy w2 b2
  have HK := Lib.hid hk
  clear hk e15 e2 hi hi2 hrd hx hy
  conv => arg 2; whnf
  refine Rg.quiet (by kernel_rfl) (by kernel_rfl) ?_
  dsimp only
  repeat (first | go_big_quiet_step (fail))
  refine wpQuiet_nil ?_
  intro w' hw'
  obtain ⟨p,rfl⟩ := hw'
  exact HK.out _ _ _ _ _ _ _ _ _ _ _ (Rg.below w p)
set_option maxHeartbeats 1000000 in
set_option maxRecDepth 100000 in
theorem Rf.r27 (w : World) (gv cv x y : Nat) {u0 u1 u2 u3 u4 u5 u6 u7 u8 u9 u10 u11 u12 u13 u14 u16 u17 u18 u19 u20 u21 u22 u23 u24 u25 u26 u27 u28 u29 u30 u31 u32 u33 u34 u35 u36 u37 u38 u39 u40 u41 u42 u43 u44 u45 u46 u47 u48 u49 u50 u51 u52 u53 u54 u55 u56 u57 u58 u59 u60 u61 u62 u63 u64 u65 u66 u67 u68 u69 u70 u71 u72 u73 u74 u75 u76 u77 u78 u79 u80 u81 u82 u83 u84 u85 u86 u87 u88 u89 u90 u91 u92 u93 u94 u95 u96 u97 u98 u99 u100 u101 u102 u103 u104 u105 u106 u107 u108 u109 u110 u111 u112 u113 u114 u115 u116 u117 u118 u119 u120 u121 u122 u123 u124 u125 u126 u127 u128 u129 u130 u131 u132 u133 u134 u135 u136 u137 u138 u139 u140 u141 u142 u143 u144 u145 u146 u147 u148 u149 u150 u151 u152 u153 u154 u155 u156 u157 u158 u159 u160 u161 u162 u163 u164 u165 u166 u167 u168 u169 u170 u171 u172 u173 u174 u175 u176 u177 u178 u179 u180 u181 u182 u183 u184 u185 u186 u187 u188 u189 u190 u191 u192 u193 u194 u195 u196 u197 u198 u199 u200 u201 u202 u203 u204 u205 u206 u207 u208 u209 u210 u211 u212 u213 u214 u215 u216 u217 u218 u219 u220 u221 u222 u223 u224 u225 u226 u227 u228 u229 u230 u231 u232 u233 u234 u235 u236 u237 u238 u239 u240 u241 u242 u243 u244 u245 u246 u247 u248 u249 u250 u251 u252 u253 u254 u255 u256 u257 u258 u259 u260 u261 u262 u263 u264 u265 u266 u267 u268 u269 u270 u271 u272 u273 u274 u275 u276 u277 u278 u279 u280 u281 u282 u283 u284 u285 u286 u287 u288 u289 u290 u291 u292 u293 u294 u295 u296 u297 u298 u299 u300 u301 u302 u303 u304 u305 u306 u307 u308 u309 u310 u311 u312 u313 u314 u315 u316 u317 u318 u319 u320 u321 u322 u323 u324 u325 u326 u327 u328 u329 u330 u331 u332 u333 u334 u335 u336 u337 u338 u339 : Value} (Q0 : Exit → Act → World → Prop)
    (hx : w.cell? ⟨gv,4,none⟩ = some (.int .u64 (x : Int))) (hy : w.cell? ⟨gv,0,none⟩ = some (.int .u64 (y : Int)))
    (hk : ∀ (v177 v178 v179 v180 v181 v182 : Value) (W : World),Below w.heap.size w W → Q0 .normal ⟨#[u0,u1,u2,u3,u4,u5,u6,u7,u8,u9,u10,u11,u12,u13,u14,.slice (some ⟨gv,0,none⟩) 8 cv,u16,.int .u64 (x : Int),.int .u64 (y : Int),u19,u20,u21,u22,u23,u24,u25,u26,u27,u28,u29,u30,u31,u32,u33,u34,u35,u36,u37,u38,u39,u40,u41,u42,u43,u44,u45,u46,u47,u48,u49,u50,u51,u52,u53,u54,u55,u56,u57,u58,u59,u60,u61,u62,u63,u64,u65,u66,u67,u68,u69,u70,u71,u72,u73,u74,u75,u76,u77,u78,u79,u80,u81,u82,u83,u84,u85,u86,u87,u88,u89,u90,u91,u92,u93,u94,u95,u96,u97,u98,u99,u100,u101,u102,u103,u104,u105,u106,u107,u108,u109,u110,u111,u112,u113,u114,u115,u116,u117,u118,u119,u120,u121,u122,u123,u124,u125,u126,u127,u128,u129,u130,u131,u132,u133,u134,u135,u136,u137,u138,u139,u140,u141,u142,u143,u144,u145,u146,u147,u148,u149,u150,u151,u152,u153,u154,u155,u156,u157,u158,u159,u160,u161,u162,u163,u164,u165,u166,u167,u168,u169,u170,u171,u172,u173,u174,u175,u176,v177,v178,v179,v180,v181,v182,u183,u184,u185,u186,u187,u188,u189,u190,u191,u192,u193,u194,u195,u196,u197,u198,u199,u200,u201,u202,u203,u204,u205,u206,u207,u208,u209,u210,u211,u212,u213,u214,u215,u216,u217,u218,u219,u220,u221,u222,u223,u224,u225,u226,u227,u228,u229,u230,u231,u232,u233,u234,u235,u236,u237,u238,u239,u240,u241,u242,u243,u244,u245,u246,u247,u248,u249,u250,u251,u252,u253,u254,u255,u256,u257,u258,u259,u260,u261,u262,u263,u264,u265,u266,u267,u268,u269,u270,u271,u272,u273,u274,u275,u276,u277,u278,u279,u280,u281,u282,u283,u284,u285,u286,u287,u288,u289,u290,u291,u292,u293,u294,u295,u296,u297,u298,u299,u300,u301,u302,u303,u304,u305,u306,u307,u308,u309,u310,u311,u312,u313,u314,u315,u316,u317,u318,u319,u320,u321,u322,u323,u324,u325,u326,u327,u328,u329,u330,u331,u332,u333,u334,u335,u336,u337,u338,u339],[]⟩ W) :
    Code.wp Tryz.prog (Rf.reg 27) Q0 ⟨#[u0,u1,u2,u3,u4,u5,u6,u7,u8,u9,u10,u11,u12,u13,u14,.slice (some ⟨gv,0,none⟩) 8 cv,u16,u17,u18,u19,u20,u21,u22,u23,u24,u25,u26,u27,u28,u29,u30,u31,u32,u33,u34,u35,u36,u37,u38,u39,u40,u41,u42,u43,u44,u45,u46,u47,u48,u49,u50,u51,u52,u53,u54,u55,u56,u57,u58,u59,u60,u61,u62,u63,u64,u65,u66,u67,u68,u69,u70,u71,u72,u73,u74,u75,u76,u77,u78,u79,u80,u81,u82,u83,u84,u85,u86,u87,u88,u89,u90,u91,u92,u93,u94,u95,u96,u97,u98,u99,u100,u101,u102,u103,u104,u105,u106,u107,u108,u109,u110,u111,u112,u113,u114,u115,u116,u117,u118,u119,u120,u121,u122,u123,u124,u125,u126,u127,u128,u129,u130,u131,u132,u133,u134,u135,u136,u137,u138,u139,u140,u141,u142,u143,u144,u145,u146,u147,u148,u149,u150,u151,u152,u153,u154,u155,u156,u157,u158,u159,u160,u161,u162,u163,u164,u165,u166,u167,u168,u169,u170,u171,u172,u173,u174,u175,u176,u177,u178,u179,u180,u181,u182,u183,u184,u185,u186,u187,u188,u189,u190,u191,u192,u193,u194,u195,u196,u197,u198,u199,u200,u201,u202,u203,u204,u205,u206,u207,u208,u209,u210,u211,u212,u213,u214,u215,u216,u217,u218,u219,u220,u221,u222,u223,u224,u225,u226,u227,u228,u229,u230,u231,u232,u233,u234,u235,u236,u237,u238,u239,u240,u241,u242,u243,u244,u245,u246,u247,u248,u249,u250,u251,u252,u253,u254,u255,u256,u257,u258,u259,u260,u261,u262,u263,u264,u265,u266,u267,u268,u269,u270,u271,u272,u273,u274,u275,u276,u277,u278,u279,u280,u281,u282,u283,u284,u285,u286,u287,u288,u289,u290,u291,u292,u293,u294,u295,u296,u297,u298,u299,u300,u301,u302,u303,u304,u305,u306,u307,u308,u309,u310,u311,u312,u313,u314,u315,u316,u317,u318,u319,u320,u321,u322,u323,u324,u325,u326,u327,u328,u329,u330,u331,u332,u333,u334,u335,u336,u337,u338,u339],[]⟩ w := by
  have cx := fun p => Rg.cell hx p
  have cy := fun p => Rg.cell hy p
  have HK := Lib.hid hk
  clear hk hx hy
  conv => arg 2; whnf
  refine Rg.quiet (by kernel_rfl) (by kernel_rfl) ?_
  dsimp only
  repeat (first | go_big_quiet_step (fail))
  refine wpQuiet_nil ?_
  intro w' hw'
  obtain ⟨p,rfl⟩ := hw'
  exact HK.out _ _ _ _ _ _ _ (Rg.below w p)
end
end
section
open Go.RowKit

/-- The bodies of the sum's loops. -/
noncomputable def Rf.lp2 : Code := (((Tryz.f30.body.map Rf.loops).getD []).getD 1 .skip)
noncomputable def Rf.lp3 : Code := (Rf.loops Rf.lp2).getD 0 .skip
noncomputable def Rf.lp4 : Code := (Rf.loops Rf.lp3).getD 0 .skip
noncomputable def Rf.lp5 : Code := (Rf.loops Rf.lp2).getD 1 .skip
noncomputable def Rf.lp6 : Code := (Rf.loops Rf.lp2).getD 2 .skip
noncomputable def Rf.lp7 : Code := (Rf.loops Rf.lp2).getD 3 .skip
/-- n numbers of 64 bits at the head of block g, which may be written. -/
structure Rf.Cel (W : World) (g n : Nat) (f : Nat → Nat) : Prop where
  cell : ∀ j,j < n → W.cell? ⟨g,j,none⟩ = some (.int .u64 (f j : Int))
  fro : ∀ j,W.frozen? ⟨g,j,none⟩ = false
  lt : g < W.heap.size
theorem Rf.Cel.congr {W : World} {g n : Nat} {f f' : Nat → Nat} (h : Rf.Cel W g n f) (e : ∀ j,j < n → f j = f' j) : Rf.Cel W g n f' := ⟨fun j hj => (e j hj) ▸ h.cell j hj,h.fro,h.lt⟩
theorem Rf.cell_eq {w w' : World} {b j : Nat} (e : w'.heap[b]? = w.heap[b]?) : w'.cell? ⟨b,j,none⟩ = w.cell? ⟨b,j,none⟩ := by simp only [World.cell?,e]
theorem Rf.fro_eq {w w' : World} {b j : Nat} (e : w'.heap[b]? = w.heap[b]?) : w'.frozen? ⟨b,j,none⟩ = w.frozen? ⟨b,j,none⟩ := by simp only [World.frozen?,e]
theorem Rf.lt_eq {w w' : World} {b : Nat} (e : w'.heap[b]? = w.heap[b]?) (h1 : b < w.heap.size) : b < w'.heap.size := by
  rcases Nat.lt_or_ge b w'.heap.size with h2 | h2
  · exact h2
  · rw [Array.getElem?_eq_none h2,Array.getElem?_eq_getElem h1] at e
    simp at e
theorem Rf.Cel.to {w w' : World} {g n : Nat} {f : Nat → Nat} (h : Rf.Cel w g n f) (e : w'.heap[g]? = w.heap[g]?) : Rf.Cel w' g n f :=
  ⟨fun j hj => (Rf.cell_eq e).trans (h.cell j hj),fun j => (Rf.fro_eq e).trans (h.fro j),Rf.lt_eq e h.lt⟩
theorem Rf.Cel.below {w w' : World} {g n : Nat} {f : Nat → Nat} (h : Rf.Cel w g n f) (hb : Below w.heap.size w w') : Rf.Cel w' g n f := h.to (hb.block g h.lt)
theorem Rf.Cel.dig {w : World} {g n : Nat} {f : Nat → Nat} (h : Rf.Cel w g n f) : Rf.Dig w g n f := ⟨h.cell,h.lt⟩
theorem Rf.Cel.set {w : World} {g n : Nat} {f : Nat → Nat} (h : Rf.Cel w g n f) (i x : Nat) (hi : i < n) : Rf.Cel (w.setCell ⟨g,i,none⟩ (.int .u64 (x : Int))) g n (fun j => if j = i then x else f j) := by
  refine ⟨fun j hj => ?_,fun j => ?_,by simpa [World.setCell] using h.lt⟩
  · by_cases e : j = i
    · subst e
      rw [if_pos rfl]
      exact World.cell?_setCell_same _ _ _ (h.cell j hj)
    · rw [if_neg e,World.cell?_setCell_other _ _ _ _ (fun c => e (by simpa using (congrArg Addr.off c).symm))]
      exact h.cell j hj
  · rw [World.frozen?_setCell]
    exact h.fro j
theorem Rf.Dig.but {w w' : World} {b g n : Nat} {f : Nat → Nat} (h : Rf.Dig w g n f) (hb : Hs.But b w w') (hg : g ≠ b) : Rf.Dig w' g n f := h.to (hb.block g h.lt hg)
theorem Rf.Dig.bel {w w' : World} {g n : Nat} {f : Nat → Nat} (h : Rf.Dig w g n f) (hb : Below w.heap.size w w') : Rf.Dig w' g n f := h.to (hb.block g h.lt)
set_option maxHeartbeats 1000000 in
set_option maxRecDepth 100000 in
theorem Rf.l7 (w : World) (q gs cs gv cv n : Nat) (R : Array Value) (hR : R.size = 17) {u0 u1 u3 u4 u5 u6 u8 u9 u10 u11 u12 u13 u14 u16 u17 u18 u19 u20 u22 u23 u24 u25 u26 u27 u28 u29 u30 u31 u32 u33 u34 u35 u36 u37 u38 u39 u40 u41 u42 u43 u44 u45 u46 u47 u48 u49 u50 u51 u52 u53 u54 u55 u56 u57 u58 u59 u60 u61 u62 u63 u64 u65 u66 u67 u68 u69 u70 u71 u72 u73 u74 u75 u76 u77 u78 u79 u80 u81 u82 u83 u84 u85 u86 u87 u88 u89 u90 u91 u92 u93 u94 u95 u96 u97 u98 u99 u100 u101 u102 u103 u104 u105 u106 u107 u108 u109 u110 u111 u112 u113 u114 u115 u116 u117 u118 u119 u120 u121 u122 u123 u124 u125 u126 u127 u128 u129 u130 u131 u132 u133 u134 u135 u136 u137 u138 u139 u140 u141 u142 u143 u144 u145 u146 u147 u148 u149 u150 u151 u152 u153 u154 u155 u156 u157 u158 u159 u160 u161 u162 u163 u164 u165 u166 u167 u168 u169 u170 u171 u172 u173 u174 u175 u176 u177 u178 u179 u180 u181 u182 u183 u184 u185 u186 u187 u188 u189 u190 u191 u192 u193 u194 u195 u196 u197 u198 u199 u200 u201 u202 u203 u204 u205 u206 u207 u208 u209 u210 u211 u212 u213 u214 u215 u216 u217 u218 u219 u220 u221 u222 u223 u224 u225 u226 u227 u228 u229 u230 u231 u232 u233 u234 u235 u236 u237 u238 u239 u240 u241 u242 u243 u244 u245 u246 u247 u248 u249 u250 u251 u252 u253 u254 u255 u256 u257 u258 u259 u260 u261 u262 u263 u264 u265 u266 u267 u268 u269 u270 u271 u272 u273 u274 u275 u276 u277 u278 u279 u280 u281 u282 u283 u284 u285 u286 u287 u288 u289 u290 u291 u292 u293 u294 u295 u296 u297 u298 u299 u300 u301 u302 u303 u304 u305 u306 u307 u308 u309 u310 u311 u312 u313 u314 u315 u316 u317 u318 u319 u320 u321 u322 u323 u324 u325 u326 u327 u328 u329 u330 u331 u332 u333 u334 u335 u336 u337 u338 u339 : Value} (Q0 : Exit → Act → World → Prop) (f g : Nat → Nat)
    (hkb : w.heap[q]? = some (.cells R 61 (0,0))) (hn : n = 32 ∨ n = 64) (h0 : R[0]? = some (.int .i64 (n : Int))) (hs : Rf.Cel w gs 8 f) (hv : Rf.Dig w gv 8 g) (hqs : q ≠ gs) (hvs : gv ≠ gs)
    (hk : ∀ (v21 v304 v305 v306 v307 v308 v309 v310 v311 v312 v313 v314 v315 v316 v317 v318 v319 v320 v321 : Value) (W : World),Hs.But gs w W → Rf.Cel W gs 8 (fun j => (f j + g j) % 2 ^ n) → Q0 (.exit 12) ⟨#[u0,u1,.pointer (some ⟨q,0,none⟩),u3,u4,u5,u6,.slice (some ⟨gs,0,none⟩) 8 cs,u8,u9,u10,u11,u12,u13,u14,.slice (some ⟨gv,0,none⟩) 8 cv,u16,u17,u18,u19,u20,v21,u22,u23,u24,u25,u26,u27,u28,u29,u30,u31,u32,u33,u34,u35,u36,u37,u38,u39,u40,u41,u42,u43,u44,u45,u46,u47,u48,u49,u50,u51,u52,u53,u54,u55,u56,u57,u58,u59,u60,u61,u62,u63,u64,u65,u66,u67,u68,u69,u70,u71,u72,u73,u74,u75,u76,u77,u78,u79,u80,u81,u82,u83,u84,u85,u86,u87,u88,u89,u90,u91,u92,u93,u94,u95,u96,u97,u98,u99,u100,u101,u102,u103,u104,u105,u106,u107,u108,u109,u110,u111,u112,u113,u114,u115,u116,u117,u118,u119,u120,u121,u122,u123,u124,u125,u126,u127,u128,u129,u130,u131,u132,u133,u134,u135,u136,u137,u138,u139,u140,u141,u142,u143,u144,u145,u146,u147,u148,u149,u150,u151,u152,u153,u154,u155,u156,u157,u158,u159,u160,u161,u162,u163,u164,u165,u166,u167,u168,u169,u170,u171,u172,u173,u174,u175,u176,u177,u178,u179,u180,u181,u182,u183,u184,u185,u186,u187,u188,u189,u190,u191,u192,u193,u194,u195,u196,u197,u198,u199,u200,u201,u202,u203,u204,u205,u206,u207,u208,u209,u210,u211,u212,u213,u214,u215,u216,u217,u218,u219,u220,u221,u222,u223,u224,u225,u226,u227,u228,u229,u230,u231,u232,u233,u234,u235,u236,u237,u238,u239,u240,u241,u242,u243,u244,u245,u246,u247,u248,u249,u250,u251,u252,u253,u254,u255,u256,u257,u258,u259,u260,u261,u262,u263,u264,u265,u266,u267,u268,u269,u270,u271,u272,u273,u274,u275,u276,u277,u278,u279,u280,u281,u282,u283,u284,u285,u286,u287,u288,u289,u290,u291,u292,u293,u294,u295,u296,u297,u298,u299,u300,u301,u302,u303,v304,v305,v306,v307,v308,v309,v310,v311,v312,v313,v314,v315,v316,v317,v318,v319,v320,v321,u322,u323,u324,u325,u326,u327,u328,u329,u330,u331,u332,u333,u334,u335,u336,u337,u338,u339],[]⟩ W) : Code.wp Tryz.prog (Code.loop Rf.lp7) Q0 ⟨#[u0,u1,.pointer (some ⟨q,0,none⟩),u3,u4,u5,u6,.slice (some ⟨gs,0,none⟩) 8 cs,u8,u9,u10,u11,u12,u13,u14,.slice (some ⟨gv,0,none⟩) 8 cv,u16,u17,u18,u19,u20,.int .i64 0,u22,u23,u24,u25,u26,u27,u28,u29,u30,u31,u32,u33,u34,u35,u36,u37,u38,u39,u40,u41,u42,u43,u44,u45,u46,u47,u48,u49,u50,u51,u52,u53,u54,u55,u56,u57,u58,u59,u60,u61,u62,u63,u64,u65,u66,u67,u68,u69,u70,u71,u72,u73,u74,u75,u76,u77,u78,u79,u80,u81,u82,u83,u84,u85,u86,u87,u88,u89,u90,u91,u92,u93,u94,u95,u96,u97,u98,u99,u100,u101,u102,u103,u104,u105,u106,u107,u108,u109,u110,u111,u112,u113,u114,u115,u116,u117,u118,u119,u120,u121,u122,u123,u124,u125,u126,u127,u128,u129,u130,u131,u132,u133,u134,u135,u136,u137,u138,u139,u140,u141,u142,u143,u144,u145,u146,u147,u148,u149,u150,u151,u152,u153,u154,u155,u156,u157,u158,u159,u160,u161,u162,u163,u164,u165,u166,u167,u168,u169,u170,u171,u172,u173,u174,u175,u176,u177,u178,u179,u180,u181,u182,u183,u184,u185,u186,u187,u188,u189,u190,u191,u192,u193,u194,u195,u196,u197,u198,u199,u200,u201,u202,u203,u204,u205,u206,u207,u208,u209,u210,u211,u212,u213,u214,u215,u216,u217,u218,u219,u220,u221,u222,u223,u224,u225,u226,u227,u228,u229,u230,u231,u232,u233,u234,u235,u236,u237,u238,u239,u240,u241,u242,u243,u244,u245,u246,u247,u248,u249,u250,u251,u252,u253,u254,u255,u256,u257,u258,u259,u260,u261,u262,u263,u264,u265,u266,u267,u268,u269,u270,u271,u272,u273,u274,u275,u276,u277,u278,u279,u280,u281,u282,u283,u284,u285,u286,u287,u288,u289,u290,u291,u292,u293,u294,u295,u296,u297,u298,u299,u300,u301,u302,u303,u304,u305,u306,u307,u308,u309,u310,u311,u312,u313,u314,u315,u316,u317,u318,u319,u320,u321,u322,u323,u324,u325,u326,u327,u328,u329,u330,u331,u332,u333,u334,u335,u336,u337,u338,u339],[]⟩ w := by
  have HK := Lib.hid hk
  have hql : q < w.heap.size := (Array.getElem?_eq_some_iff.1 hkb).1
  clear hk
  conv => arg 2; arg 1; whnf
  dsimp only
  go_loopw [21] (fun iv wr => ∃ (i : Nat),i ≤ 8 ∧ iv = .int .i64 (i : Int) ∧ Hs.But gs w wr ∧ Rf.Cel wr gs 8 (fun j => if j < i then (f j + g j) % 2 ^ n else f j)) (fun iv _ => 8 - (intOf iv).toNat)
  case atStart => exact ⟨0,by omega,rfl,Hs.But.refl _ _,hs.congr (fun j _ => by rw [if_neg (by omega)])⟩
  case round =>
  obtain ⟨i,hi,rfl,hBut,hC⟩ := hrel
  obtain ⟨w2,rfl⟩ : ∃ w2,w2 = wr := ⟨_,rfl⟩
  by_cases hi8 : i < 8
  · have hiz : (i : Int) < 8 := by omega
    have kb2 := (hBut.block q hql hqs).trans hkb
    have hx := hC.cell i hi8
    rw [if_neg (by omega)] at hx
    have hy := (hv.but hBut hvs).cell i hi8
    have hfx := hC.fro i
    have HC := Lib.hid hC
    clear hC
    go_upto_region 34 with fail
    refine Rf.r34 (hR := hR) (hkb := kb2) (hn := hn) (h0 := h0) (hi := hi8) (hx := hx) (hfx := hfx) (hy := hy) (hk := ?_)
    intro v308 v309 v310 v311 v312 v313 v314 v315 v316 v317 v318 v319 v320 v321 w3 hB3
    clear hx hy hfx kb2
    have hC3 := ((HC.out.below hB3).set i ((f i + g i) % 2 ^ n) hi8).congr (f' := fun j => if j < i + 1 then (f j + g j) % 2 ^ n else f j) (fun j hj => by
      by_cases e : j = i
      · subst e; rw [if_pos rfl,if_pos (by omega)]
      · rw [if_neg e]
        by_cases h : j < i
        · rw [if_pos h,if_pos (by omega)]
        · rw [if_neg h,if_neg (by omega)])
    have hBut3 := hBut.trans ((Hs.But.ofBelow (b := gs) hB3 (Nat.le_refl _)).trans (Hs.But.set _ i (.int .u64 (((f i + g i) % 2 ^ n : Nat) : Int))))
    go_wp2_with fail
    exact ⟨⟨i + 1,by omega,by go_num,hBut3,hC3⟩,by simp [intOf]; omega⟩
  · have hie : i = 8 := by omega
    have hiz : ¬ (i : Int) < 8 := by omega
    have hC8 := hC.congr (f' := fun j => (f j + g j) % 2 ^ n) (fun j hj => by rw [if_pos (by omega)])
    clear hC hie
    go_wp2_with fail
    exact HK.out _ _ _ _ _ _ _ _ _ _ _ _ _ _ _ _ _ _ _ _ hBut hC8
end
end Go.Proofs.YthlecdggkolgmaaGreatDoor
