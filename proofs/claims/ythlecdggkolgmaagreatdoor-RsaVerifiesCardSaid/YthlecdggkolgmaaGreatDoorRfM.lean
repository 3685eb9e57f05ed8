/- The reference of a sum: a round's first number. -/
import Derived.Test.YthlecdggkolgmaaGreatDoorRfKb
import Derived.Test.YthlecdggkolgmaaGreatDoorReg
namespace Go.Proofs.YthlecdggkolgmaaGreatDoor
section
open Go.RowKit

def Rf.loops : Code → List Code
  | .loop c => [c]
  | .seq a b => Rf.loops a ++ Rf.loops b
  | .block _ c => Rf.loops c
  | .scope c => Rf.loops c
  | .cond _ a b => Rf.loops a ++ Rf.loops b
  | _ => []
def Rf.regs : Code → List Code
  | .region i o d => [.region i o d]
  | .loop c => Rf.regs c
  | .seq a b => Rf.regs a ++ Rf.regs b
  | .block _ c => Rf.regs c
  | .scope c => Rf.regs c
  | .cond _ a b => Rf.regs a ++ Rf.regs b
  | _ => []
def Rf.isReg (n : Nat) : Code → Bool
  | .region i _ _ => i == n
  | _ => false
/-- The n-th region of the reference's sum. -/
noncomputable def Rf.reg (n : Nat) : Code := (((Tryz.f30.body.map Rf.regs).getD []).find? (Rf.isReg n)).getD .skip
theorem Rf.xor64 (a b : Nat) (ha : a < 18446744073709551616) (hb : b < 18446744073709551616) : bits .xor .u64 (a : Int) (b : Int) = ((a ^^^ b : Nat) : Int) := u64_xor_nat a b ha hb
theorem Rf.add64 (a b : Nat) : IntKind.u64.wrap ((a : Int) + (b : Int)) = (((a + b) % 18446744073709551616 : Nat) : Int) := by
  have e : (a : Int) + (b : Int) = ((a + b : Nat) : Int) := by omega
  rw [e]
  unfold IntKind.wrap
  simp [IntKind.bits,IntKind.signed]
theorem Rf.shr64 (x s : Nat) : (x : Int) / 2 ^ s = ((x / 2 ^ s : Nat) : Int) := by simp
theorem Rf.two_le (n : Nat) (hn : n = 32 ∨ n = 64) (v : Nat) (h : v < 2 ^ n) : v < 18446744073709551616 := by rcases hn with rfl | rfl <;> omega
set_option maxHeartbeats 1000000 in
set_option maxRecDepth 100000 in
theorem Rf.r22 (w : World) (q gw rd i n x y : Nat) (R : Array Value) (hR : R.size = 17) (f : Nat → Nat) (a0 a1 a2 b0 b1 b2 : Nat) {u0 u1 u3 u4 u5 u6 u7 u8 u10 u11 u15 u16 u17 u18 u19 u20 u21 u22 u23 u24 u25 u26 u27 u28 u29 u30 u31 u32 u33 u34 u35 u36 u37 u38 u39 u40 u41 u42 u43 u44 u45 u46 u47 u48 u49 u50 u51 u52 u53 u54 u55 u56 u57 u58 u59 u60 u61 u62 u63 u64 u65 u66 u67 u68 u69 u70 u71 u72 u73 u74 u75 u76 u77 u78 u79 u80 u81 u82 u83 u84 u85 u86 u87 u88 u89 u90 u91 u92 u93 u94 u95 u96 u97 u98 u99 u100 u101 u102 u103 u104 u105 u106 u107 u108 u109 u110 u111 u112 u113 u114 u115 u116 u117 u118 u119 u120 u121 u122 u123 u124 u125 u126 u127 u128 u129 u130 u131 u132 u133 u134 u135 u136 u137 u138 u139 u140 u141 u142 u143 u144 u145 u146 u147 u148 u149 u150 u151 u152 u153 u154 u155 u156 u157 u158 u159 u160 u161 u162 u163 u164 u165 u166 u167 u168 u169 u170 u171 u172 u173 u174 u175 u176 u177 u178 u179 u180 u181 u182 u183 u184 u185 u186 u187 u188 u189 u190 u191 u192 u193 u194 u195 u196 u197 u198 u199 u200 u201 u202 u203 u204 u205 u206 u207 u208 u209 u210 u211 u212 u213 u214 u215 u216 u217 u218 u219 u220 u221 u222 u223 u224 u225 u226 u227 u228 u229 u230 u231 u232 u233 u234 u235 u236 u237 u238 u239 u240 u241 u242 u243 u244 u245 u246 u247 u248 u249 u250 u251 u252 u253 u254 u255 u256 u257 u258 u259 u260 u261 u262 u263 u264 u265 u266 u267 u268 u269 u270 u271 u272 u273 u274 u275 u276 u277 u278 u279 u280 u281 u282 u283 u284 u285 u286 u287 u288 u289 u290 u291 u292 u293 u294 u295 u296 u297 u298 u299 u300 u301 u302 u303 u304 u305 u306 u307 u308 u309 u310 u311 u312 u313 u314 u315 u316 u317 u318 u319 u320 u321 u322 u323 u324 u325 u326 u327 u328 u329 u330 u331 u332 u333 u334 u335 u336 u337 u338 u339 : Value} (Q0 : Exit → Act → World → Prop)
    (hkb : w.heap[q]? = some (.cells R 61 (0,0))) (hn : n = 32 ∨ n = 64) (h0 : R[0]? = some (.int .i64 (n : Int))) (r3 : R[3]? = some (.int .i64 (a0 : Int))) (r4 : R[4]? = some (.int .i64 (a1 : Int))) (r5 : R[5]? = some (.int .i64 (a2 : Int))) (r6 : R[6]? = some (.int .i64 (b0 : Int))) (r7 : R[7]? = some (.int .i64 (b1 : Int))) (r8 : R[8]? = some (.int .i64 (b2 : Int)))
    (ha : (0 < a0 ∧ a0 < n) ∧ (0 < a1 ∧ a1 < n) ∧ a2 < n) (hb : (0 < b0 ∧ b0 < n) ∧ (0 < b1 ∧ b1 < n) ∧ b2 < n)
    (hi : 16 ≤ i) (hi2 : i < rd) (hrd : rd ≤ 80) (hf : ∀ j,j < rd → w.cell? ⟨gw,j,none⟩ = some (.int .u64 (f j : Int))) (hfr : ∀ j,w.frozen? ⟨gw,j,none⟩ = false) (hlt : ∀ j,f j < 2 ^ n) (hx : x = f (i - 15)) (hy : y = f (i - 2))
    (hk : ∀ (v112 v113 v114 v115 v116 v117 v118 v119 v120 v121 v122 v123 v124 v125 v126 v127 v128 v129 v130 v131 v132 v133 v134 v135 v136 v137 v138 v139 v140 v141 v142 v143 v144 v145 v146 v147 v148 v149 v150 v151 v152 v153 v154 v155 v156 v157 v158 v159 v160 v161 v162 v163 v164 v165 v166 v167 : Value) (W : World),Below w.heap.size w W → Q0 .normal ⟨#[u0,u1,.pointer (some ⟨q,0,none⟩),u3,u4,u5,u6,u7,u8,.slice (some ⟨gw,0,none⟩) rd rd,u10,u11,.int .i64 (i : Int),.int .u64 (x : Int),.int .u64 (y : Int),u15,u16,u17,u18,u19,u20,u21,u22,u23,u24,u25,u26,u27,u28,u29,u30,u31,u32,u33,u34,u35,u36,u37,u38,u39,u40,u41,u42,u43,u44,u45,u46,u47,u48,u49,u50,u51,u52,u53,u54,u55,u56,u57,u58,u59,u60,u61,u62,u63,u64,u65,u66,u67,u68,u69,u70,u71,u72,u73,u74,u75,u76,u77,u78,u79,u80,u81,u82,u83,u84,u85,u86,u87,u88,u89,u90,u91,u92,u93,u94,u95,u96,u97,u98,u99,u100,u101,u102,u103,u104,u105,u106,u107,u108,u109,u110,u111,v112,v113,v114,v115,v116,v117,v118,v119,v120,v121,v122,v123,v124,v125,v126,v127,v128,v129,v130,v131,v132,v133,v134,v135,v136,v137,v138,v139,v140,v141,v142,v143,v144,v145,v146,v147,v148,v149,v150,v151,v152,v153,v154,v155,v156,v157,v158,v159,v160,v161,v162,v163,v164,v165,v166,v167,u168,u169,u170,u171,u172,u173,u174,u175,u176,u177,u178,u179,u180,u181,u182,u183,u184,u185,u186,u187,u188,u189,u190,u191,u192,u193,u194,u195,u196,u197,u198,u199,u200,u201,u202,u203,u204,u205,u206,u207,u208,u209,u210,u211,u212,u213,u214,u215,u216,u217,u218,u219,u220,u221,u222,u223,u224,u225,u226,u227,u228,u229,u230,u231,u232,u233,u234,u235,u236,u237,u238,u239,u240,u241,u242,u243,u244,u245,u246,u247,u248,u249,u250,u251,u252,u253,u254,u255,u256,u257,u258,u259,u260,u261,u262,u263,u264,u265,u266,u267,u268,u269,u270,u271,u272,u273,u274,u275,u276,u277,u278,u279,u280,u281,u282,u283,u284,u285,u286,u287,u288,u289,u290,u291,u292,u293,u294,u295,u296,u297,u298,u299,u300,u301,u302,u303,u304,u305,u306,u307,u308,u309,u310,u311,u312,u313,u314,u315,u316,u317,u318,u319,u320,u321,u322,u323,u324,u325,u326,u327,u328,u329,u330,u331,u332,u333,u334,u335,u336,u337,u338,u339],[]⟩ (W.setCell ⟨gw,i,none⟩ (.int .u64 ((Hs.sched n a0 a1 a2 b0 b1 b2 f i : Nat) : Int)))) :
    Code.wp Tryz.prog (Rf.reg 22) Q0 ⟨#[u0,u1,.pointer (some ⟨q,0,none⟩),u3,u4,u5,u6,u7,u8,.slice (some ⟨gw,0,none⟩) rd rd,u10,u11,.int .i64 (i : Int),.int .u64 (x : Int),.int .u64 (y : Int),u15,u16,u17,u18,u19,u20,u21,u22,u23,u24,u25,u26,u27,u28,u29,u30,u31,u32,u33,u34,u35,u36,u37,u38,u39,u40,u41,u42,u43,u44,u45,u46,u47,u48,u49,u50,u51,u52,u53,u54,u55,u56,u57,u58,u59,u60,u61,u62,u63,u64,u65,u66,u67,u68,u69,u70,u71,u72,u73,u74,u75,u76,u77,u78,u79,u80,u81,u82,u83,u84,u85,u86,u87,u88,u89,u90,u91,u92,u93,u94,u95,u96,u97,u98,u99,u100,u101,u102,u103,u104,u105,u106,u107,u108,u109,u110,u111,u112,u113,u114,u115,u116,u117,u118,u119,u120,u121,u122,u123,u124,u125,u126,u127,u128,u129,u130,u131,u132,u133,u134,u135,u136,u137,u138,u139,u140,u141,u142,u143,u144,u145,u146,u147,u148,u149,u150,u151,u152,u153,u154,u155,u156,u157,u158,u159,u160,u161,u162,u163,u164,u165,u166,u167,u168,u169,u170,u171,u172,u173,u174,u175,u176,u177,u178,u179,u180,u181,u182,u183,u184,u185,u186,u187,u188,u189,u190,u191,u192,u193,u194,u195,u196,u197,u198,u199,u200,u201,u202,u203,u204,u205,u206,u207,u208,u209,u210,u211,u212,u213,u214,u215,u216,u217,u218,u219,u220,u221,u222,u223,u224,u225,u226,u227,u228,u229,u230,u231,u232,u233,u234,u235,u236,u237,u238,u239,u240,u241,u242,u243,u244,u245,u246,u247,u248,u249,u250,u251,u252,u253,u254,u255,u256,u257,u258,u259,u260,u261,u262,u263,u264,u265,u266,u267,u268,u269,u270,u271,u272,u273,u274,u275,u276,u277,u278,u279,u280,u281,u282,u283,u284,u285,u286,u287,u288,u289,u290,u291,u292,u293,u294,u295,u296,u297,u298,u299,u300,u301,u302,u303,u304,u305,u306,u307,u308,u309,u310,u311,u312,u313,u314,u315,u316,u317,u318,u319,u320,u321,u322,u323,u324,u325,u326,u327,u328,u329,u330,u331,u332,u333,u334,u335,u336,u337,u338,u339],[]⟩ w := by
  have lx : x < 2 ^ n := by rw [hx]; exact hlt _
  have ly : y < 2 ^ n := by rw [hy]; exact hlt _
  have l64 := Rf.two_le n hn
  have c16 := fun p => Rg.cell (hf (i - 16) (by omega)) p
  have c7 := fun p => Rg.cell (hf (i - 7) (by omega)) p
  have ci := fun W (hB : Below w.heap.size w W) => (hB.cell (p := ⟨gw,i,none⟩) (block_lt_of_cell (hf i hi2))).trans (hf i hi2)
  have fi := fun W (hB : Below w.heap.size w W) => (hB.frozen (p := ⟨gw,i,none⟩) (block_lt_of_cell (hf i hi2))).trans (hfr i)
  have k3 := fun p => Rg.cell ((cell_of_row w q 3 R _ _ hkb).trans r3) p
  have k4 := fun p => Rg.cell ((cell_of_row w q 4 R _ _ hkb).trans r4) p
  have k5 := fun p => Rg.cell ((cell_of_row w q 5 R _ _ hkb).trans r5) p
  have k6 := fun p => Rg.cell ((cell_of_row w q 6 R _ _ hkb).trans r6) p
  have k7 := fun p => Rg.cell ((cell_of_row w q 7 R _ _ hkb).trans r7) p
  have k8 := fun p => Rg.cell ((cell_of_row w q 8 R _ _ hkb).trans r8) p
  have w16 : IntKind.i64.wrap ((i : Int) - 16) = ((i - 16 : Nat) : Int) := by rw [IntWalk.i64_in _ (by omega)]; omega
  have w7 : IntKind.i64.wrap ((i : Int) - 7) = ((i - 7 : Nat) : Int) := by rw [IntWalk.i64_in _ (by omega)]; omega
  have b16 : ((i - 16 : Nat) : Int) < (rd : Int) := by omega
  have b7 : ((i - 7 : Nat) : Int) < (rd : Int) := by omega
  have bi : (i : Int) < (rd : Int) := by omega
  have bi0 : 0 ≤ (i : Int) := by omega
  have ta2 : ¬ (a2 : Int) < 0 := by omega
  have tb2 : ¬ (b2 : Int) < 0 := by omega
  have hn64 : n ≤ 64 := by omega
  have ma2 : min a2 64 = a2 := Nat.min_eq_left (by omega)
  have mb2 : min b2 64 = b2 := Nat.min_eq_left (by omega)
  have CA0 := Lib.hid (fun W => Rf.ror_any W R n x a0 hR h0 hn lx ha.1.1 ha.1.2)
  have CA1 := Lib.hid (fun W => Rf.ror_any W R n x a1 hR h0 hn lx ha.2.1.1 ha.2.1.2)
  have CB0 := Lib.hid (fun W => Rf.ror_any W R n y b0 hR h0 hn ly hb.1.1 hb.1.2)
  have CB1 := Lib.hid (fun W => Rf.ror_any W R n y b1 hR h0 hn ly hb.2.1.1 hb.2.1.2)
  have pa0 := Hs.ror_lt n x a0 lx
  have pa1 := Hs.ror_lt n x a1 lx
  have pb0 := Hs.ror_lt n y b0 ly
  have pb1 := Hs.ror_lt n y b1 ly
  have pa2 : x / 2 ^ a2 < 2 ^ n := Nat.lt_of_le_of_lt (Nat.div_le_self _ _) lx
  have pb2 : y / 2 ^ b2 < 2 ^ n := Nat.lt_of_le_of_lt (Nat.div_le_self _ _) ly
  have p16 := hlt (i - 16)
  have p7 := hlt (i - 7)
  have hz : Hs.sched n a0 a1 a2 b0 b1 b2 f i = (f (i - 16) + (Hs.ror n x a0 ^^^ Hs.ror n x a1 ^^^ x / 2 ^ a2) + f (i - 7) + (Hs.ror n y b0 ^^^ Hs.ror n y b1 ^^^ y / 2 ^ b2)) % 2 ^ n := by rw [hx,hy]; rfl
  obtain ⟨g16,hg16⟩ : ∃ v,f (i - 16) = v := ⟨_,rfl⟩
  obtain ⟨g7,hg7⟩ : ∃ v,f (i - 7) = v := ⟨_,rfl⟩
  obtain ⟨j16,hj16⟩ : ∃ v,i - 16 = v := ⟨_,rfl⟩
  obtain ⟨j7,hj7⟩ : ∃ v,i - 7 = v := ⟨_,rfl⟩
  rw [hg16] at c16 p16 hz
  rw [hg7] at c7 p7 hz
  rw [hj16] at c16 w16 b16
  rw [hj7] at c7 w7 b7
  obtain ⟨ra0,e1⟩ : ∃ v,Hs.ror n x a0 = v := ⟨_,rfl⟩
  obtain ⟨ra1,e2⟩ : ∃ v,Hs.ror n x a1 = v := ⟨_,rfl⟩
  obtain ⟨rb0,e3⟩ : ∃ v,Hs.ror n y b0 = v := ⟨_,rfl⟩
  obtain ⟨rb1,e4⟩ : ∃ v,Hs.ror n y b1 = v := ⟨_,rfl⟩
  have sa := Rf.shr64 x a2
  have sb := Rf.shr64 y b2
  obtain ⟨sa2,e5⟩ : ∃ v,x / 2 ^ a2 = v := ⟨_,rfl⟩
  obtain ⟨sb2,e6⟩ : ∃ v,y / 2 ^ b2 = v := ⟨_,rfl⟩
  rw [e1] at CA0 pa0 hz
  rw [e2] at CA1 pa1 hz
  rw [e3] at CB0 pb0 hz
  rw [e4] at CB1 pb1 hz
  rw [e5] at sa pa2 hz
  rw [e6] at sb pb2 hz
  have x1 := Rf.xor64 ra0 ra1 (l64 _ pa0) (l64 _ pa1)
  have x1l := Nat.xor_lt_two_pow pa0 pa1
  obtain ⟨xa,e7⟩ : ∃ v,ra0 ^^^ ra1 = v := ⟨_,rfl⟩
  rw [e7] at x1 x1l hz
  have x2 := Rf.xor64 xa sa2 (l64 _ x1l) (l64 _ pa2)
  obtain ⟨sma,e8⟩ : ∃ v,xa ^^^ sa2 = v := ⟨_,rfl⟩
  rw [e8] at x2 hz
  have x3 := Rf.xor64 rb0 rb1 (l64 _ pb0) (l64 _ pb1)
  have x3l := Nat.xor_lt_two_pow pb0 pb1
  obtain ⟨xb,e9⟩ : ∃ v,rb0 ^^^ rb1 = v := ⟨_,rfl⟩
  rw [e9] at x3 x3l hz
  have x4 := Rf.xor64 xb sb2 (l64 _ x3l) (l64 _ pb2)
  obtain ⟨smb,e10⟩ : ∃ v,xb ^^^ sb2 = v := ⟨_,rfl⟩
  rw [e10] at x4 hz
  have y1 := Rf.add64 g16 sma
  obtain ⟨t1,e11⟩ : ∃ v,(g16 + sma) % 18446744073709551616 = v := ⟨_,rfl⟩
  rw [e11] at y1
  have y2 := Rf.add64 t1 g7
  obtain ⟨t2,e12⟩ : ∃ v,(t1 + g7) % 18446744073709551616 = v := ⟨_,rfl⟩
  rw [e12] at y2
  have y3 := Rf.add64 t2 smb
  obtain ⟨t3,e13⟩ : ∃ v,(t2 + smb) % 18446744073709551616 = v := ⟨_,rfl⟩
  rw [e13] at y3
  have l3 : t3 < 18446744073709551616 := by rw [← e13]; exact Nat.mod_lt _ (by decide)
  have hz2 : Hs.sched n a0 a1 a2 b0 b1 b2 f i = t3 % 2 ^ n := by
    rw [hz,← e13,← e12,← e11]
    rcases hn with rfl | rfl <;> omega
  have CC := Lib.hid (fun W => Rf.cut_any W R n t3 h0 hn l3)
  rw [← hz2] at CC
  obtain ⟨z,hzz⟩ : ∃ v,Hs.sched n a0 a1 a2 b0 b1 b2 f i = v := ⟨_,rfl⟩
  rw [hzz] at CC hk
  have HK := Lib.hid hk
  have hsz : (Tryz.prog.info? 61).map (·.size) = some R.size := by rw [hR]; exact Rf.infoKd
  clear hk hzz hz2 l3 e1 e2 e3 e4 e5 e6 e7 e8 e9 e10 e11 e12 e13 hz hg16 hg7 hj16 hj7 p16 p7 pa0 pa1 pa2 pb0 pb1 pb2 x1l x3l lx ly l64 hx hy hlt hf hfr ha hb hi hi2 hrd hn h0 r3 r4 r5 r6 r7 r8 hR hn64
  conv => arg 2; whnf
  refine Rg.tail 55 (by kernel_rfl) (by kernel_rfl) ?_
  simp only [List.take_succ_cons,List.take_zero,List.drop_succ_cons,List.drop_zero]
  repeat (first | (go_big_quiet_want; refine Rg.load_row _ 61 rfl q rfl 61 R (0,0) _ hkb Tryz.underlying61 rfl hsz _ (by simp only [Act.put,List.setIfInBounds_toArray,List.set_cons_zero,List.set_cons_succ]; exact rfl) ?_; go_big_quiet_on) | go_big_quiet_step ((first | (go_at_call 54; first | with_reducible exact Rg.call (CA0.out _) | with_reducible exact Rg.call (CA1.out _) | with_reducible exact Rg.call (CB0.out _) | with_reducible exact Rg.call (CB1.out _)) | (go_at_call 53; with_reducible exact Rg.call (CC.out _)))))
  refine wpQuiet_nil ?_
  intro w' hw'
  obtain ⟨p,rfl⟩ := hw'
  have hB := Rg.below w p
  have ci2 := ci _ hB
  have fi2 := fi _ hB
  clear ci fi c16 c7 k3 k4 k5 k6 k7 k8
  generalize Rg.w w p = w1 at hB ci2 fi2 ⊢
  go_wp2_with fail
  exact HK.out _ _ _ _ _ _ _ _ _ _ _ _ _ _ _ _ _ _ _ _ _ _ _ _ _ _ _ _ _ _ _ _ _ _ _ _ _ _ _ _ _ _ _ _ _ _ _ _ _ _ _ _ _ _ _ _ w1 hB
end
section
open Go.RowKit

theorem Rf.and64 (a b : Nat) (ha : a < 18446744073709551616) (hb : b < 18446744073709551616) : bits .and .u64 (a : Int) (b : Int) = ((a &&& b : Nat) : Int) := u64_and_nat a b ha hb
set_option maxHeartbeats 1000000 in
set_option maxRecDepth 100000 in
theorem Rf.r28 (w : World) (q gw gv gK cK cv rd i n e : Nat) (R : Array Value) (hR : R.size = 17) (f g kk : Nat → Nat) (c0 c1 c2 : Nat) {u0 u1 u3 u4 u5 u6 u7 u8 u10 u11 u12 u13 u14 u18 u19 u20 u21 u22 u23 u24 u25 u26 u27 u28 u29 u30 u31 u32 u33 u34 u35 u36 u37 u38 u39 u40 u41 u42 u43 u44 u45 u46 u47 u48 u49 u50 u51 u52 u53 u54 u55 u56 u57 u58 u59 u60 u61 u62 u63 u64 u65 u66 u67 u68 u69 u70 u71 u72 u73 u74 u75 u76 u77 u78 u79 u80 u81 u82 u83 u84 u85 u86 u87 u88 u89 u90 u91 u92 u93 u94 u95 u96 u97 u98 u99 u100 u101 u102 u103 u104 u105 u106 u107 u108 u109 u110 u111 u112 u113 u114 u115 u116 u117 u118 u119 u120 u121 u122 u123 u124 u125 u126 u127 u128 u129 u130 u131 u132 u133 u134 u135 u136 u137 u138 u139 u140 u141 u142 u143 u144 u145 u146 u147 u148 u149 u150 u151 u152 u153 u154 u155 u156 u157 u158 u159 u160 u161 u162 u163 u164 u165 u166 u167 u168 u169 u170 u171 u172 u173 u174 u175 u176 u177 u178 u179 u180 u181 u182 u183 u184 u185 u186 u187 u188 u189 u190 u191 u192 u193 u194 u195 u196 u197 u198 u199 u200 u201 u202 u203 u204 u205 u206 u207 u208 u209 u210 u211 u212 u213 u214 u215 u216 u217 u218 u219 u220 u221 u222 u223 u224 u225 u226 u227 u228 u229 u230 u231 u232 u233 u234 u235 u236 u237 u238 u239 u240 u241 u242 u243 u244 u245 u246 u247 u248 u249 u250 u251 u252 u253 u254 u255 u256 u257 u258 u259 u260 u261 u262 u263 u264 u265 u266 u267 u268 u269 u270 u271 u272 u273 u274 u275 u276 u277 u278 u279 u280 u281 u282 u283 u284 u285 u286 u287 u288 u289 u290 u291 u292 u293 u294 u295 u296 u297 u298 u299 u300 u301 u302 u303 u304 u305 u306 u307 u308 u309 u310 u311 u312 u313 u314 u315 u316 u317 u318 u319 u320 u321 u322 u323 u324 u325 u326 u327 u328 u329 u330 u331 u332 u333 u334 u335 u336 u337 u338 u339 : Value} (Q0 : Exit → Act → World → Prop)
    (hkb : w.heap[q]? = some (.cells R 61 (0,0))) (hn : n = 32 ∨ n = 64) (h0 : R[0]? = some (.int .i64 (n : Int)))
    (r9 : R[9]? = some (.int .i64 (c0 : Int))) (r10 : R[10]? = some (.int .i64 (c1 : Int))) (r11 : R[11]? = some (.int .i64 (c2 : Int))) (r15 : R[15]? = some (.slice (some ⟨gK,0,none⟩) rd cK)) (hc : (0 < c0 ∧ c0 < n) ∧ (0 < c1 ∧ c1 < n) ∧ 0 < c2 ∧ c2 < n) (hi2 : i < rd)
    (hf : ∀ j,j < rd → w.cell? ⟨gw,j,none⟩ = some (.int .u64 (f j : Int))) (hlt : ∀ j,j < rd → f j < 2 ^ n) (hK : ∀ j,j < rd → w.cell? ⟨gK,j,none⟩ = some (.int .u64 (kk j : Int))) (hKl : ∀ j,j < rd → kk j < 2 ^ n) (hv : ∀ j,j < 8 → w.cell? ⟨gv,j,none⟩ = some (.int .u64 (g j : Int))) (hvl : ∀ j,j < 8 → g j < 2 ^ n) (he : e = g 4)
    (hk : ∀ (v183 v184 v185 v186 v187 v188 v189 v190 v191 v192 v193 v194 v195 v196 v197 v198 v199 v200 v201 v202 v203 v204 v205 v206 v207 v208 v209 v210 v211 v212 v213 v214 v215 v216 v217 v218 v219 v220 v221 v222 v223 v224 v225 v226 v227 v228 v229 v230 v231 v232 : Value) (t : Nat) (W : World),Below w.heap.size w W → t < 18446744073709551616 → t % 2 ^ n = Hs.tt n c0 c1 c2 g (kk i) (f i) → Q0 .normal ⟨#[u0,u1,.pointer (some ⟨q,0,none⟩),u3,u4,u5,u6,u7,u8,.slice (some ⟨gw,0,none⟩) rd rd,u10,u11,u12,u13,u14,.slice (some ⟨gv,0,none⟩) 8 cv,.int .i64 (i : Int),.int .u64 (e : Int),u18,.int .u64 (t : Int),u20,u21,u22,u23,u24,u25,u26,u27,u28,u29,u30,u31,u32,u33,u34,u35,u36,u37,u38,u39,u40,u41,u42,u43,u44,u45,u46,u47,u48,u49,u50,u51,u52,u53,u54,u55,u56,u57,u58,u59,u60,u61,u62,u63,u64,u65,u66,u67,u68,u69,u70,u71,u72,u73,u74,u75,u76,u77,u78,u79,u80,u81,u82,u83,u84,u85,u86,u87,u88,u89,u90,u91,u92,u93,u94,u95,u96,u97,u98,u99,u100,u101,u102,u103,u104,u105,u106,u107,u108,u109,u110,u111,u112,u113,u114,u115,u116,u117,u118,u119,u120,u121,u122,u123,u124,u125,u126,u127,u128,u129,u130,u131,u132,u133,u134,u135,u136,u137,u138,u139,u140,u141,u142,u143,u144,u145,u146,u147,u148,u149,u150,u151,u152,u153,u154,u155,u156,u157,u158,u159,u160,u161,u162,u163,u164,u165,u166,u167,u168,u169,u170,u171,u172,u173,u174,u175,u176,u177,u178,u179,u180,u181,u182,v183,v184,v185,v186,v187,v188,v189,v190,v191,v192,v193,v194,v195,v196,v197,v198,v199,v200,v201,v202,v203,v204,v205,v206,v207,v208,v209,v210,v211,v212,v213,v214,v215,v216,v217,v218,v219,v220,v221,v222,v223,v224,v225,v226,v227,v228,v229,v230,v231,v232,u233,u234,u235,u236,u237,u238,u239,u240,u241,u242,u243,u244,u245,u246,u247,u248,u249,u250,u251,u252,u253,u254,u255,u256,u257,u258,u259,u260,u261,u262,u263,u264,u265,u266,u267,u268,u269,u270,u271,u272,u273,u274,u275,u276,u277,u278,u279,u280,u281,u282,u283,u284,u285,u286,u287,u288,u289,u290,u291,u292,u293,u294,u295,u296,u297,u298,u299,u300,u301,u302,u303,u304,u305,u306,u307,u308,u309,u310,u311,u312,u313,u314,u315,u316,u317,u318,u319,u320,u321,u322,u323,u324,u325,u326,u327,u328,u329,u330,u331,u332,u333,u334,u335,u336,u337,u338,u339],[]⟩ W) :
    Code.wp Tryz.prog (Rf.reg 28) Q0 ⟨#[u0,u1,.pointer (some ⟨q,0,none⟩),u3,u4,u5,u6,u7,u8,.slice (some ⟨gw,0,none⟩) rd rd,u10,u11,u12,u13,u14,.slice (some ⟨gv,0,none⟩) 8 cv,.int .i64 (i : Int),.int .u64 (e : Int),u18,u19,u20,u21,u22,u23,u24,u25,u26,u27,u28,u29,u30,u31,u32,u33,u34,u35,u36,u37,u38,u39,u40,u41,u42,u43,u44,u45,u46,u47,u48,u49,u50,u51,u52,u53,u54,u55,u56,u57,u58,u59,u60,u61,u62,u63,u64,u65,u66,u67,u68,u69,u70,u71,u72,u73,u74,u75,u76,u77,u78,u79,u80,u81,u82,u83,u84,u85,u86,u87,u88,u89,u90,u91,u92,u93,u94,u95,u96,u97,u98,u99,u100,u101,u102,u103,u104,u105,u106,u107,u108,u109,u110,u111,u112,u113,u114,u115,u116,u117,u118,u119,u120,u121,u122,u123,u124,u125,u126,u127,u128,u129,u130,u131,u132,u133,u134,u135,u136,u137,u138,u139,u140,u141,u142,u143,u144,u145,u146,u147,u148,u149,u150,u151,u152,u153,u154,u155,u156,u157,u158,u159,u160,u161,u162,u163,u164,u165,u166,u167,u168,u169,u170,u171,u172,u173,u174,u175,u176,u177,u178,u179,u180,u181,u182,u183,u184,u185,u186,u187,u188,u189,u190,u191,u192,u193,u194,u195,u196,u197,u198,u199,u200,u201,u202,u203,u204,u205,u206,u207,u208,u209,u210,u211,u212,u213,u214,u215,u216,u217,u218,u219,u220,u221,u222,u223,u224,u225,u226,u227,u228,u229,u230,u231,u232,u233,u234,u235,u236,u237,u238,u239,u240,u241,u242,u243,u244,u245,u246,u247,u248,u249,u250,u251,u252,u253,u254,u255,u256,u257,u258,u259,u260,u261,u262,u263,u264,u265,u266,u267,u268,u269,u270,u271,u272,u273,u274,u275,u276,u277,u278,u279,u280,u281,u282,u283,u284,u285,u286,u287,u288,u289,u290,u291,u292,u293,u294,u295,u296,u297,u298,u299,u300,u301,u302,u303,u304,u305,u306,u307,u308,u309,u310,u311,u312,u313,u314,u315,u316,u317,u318,u319,u320,u321,u322,u323,u324,u325,u326,u327,u328,u329,u330,u331,u332,u333,u334,u335,u336,u337,u338,u339],[]⟩ w := by
  have le : e < 2 ^ n := by rw [he]; exact hvl 4 (by omega)
  have l64 := Rf.two_le n hn
  have k9 := fun p => Rg.cell ((cell_of_row w q 9 R _ _ hkb).trans r9) p
  have k10 := fun p => Rg.cell ((cell_of_row w q 10 R _ _ hkb).trans r10) p
  have k11 := fun p => Rg.cell ((cell_of_row w q 11 R _ _ hkb).trans r11) p
  have k15 := fun p => Rg.cell ((cell_of_row w q 15 R _ _ hkb).trans r15) p
  have cg5 := fun p => Rg.cell (hv 5 (by omega)) p
  have pg5 := hvl 5 (by omega)
  have cg6 := fun p => Rg.cell (hv 6 (by omega)) p
  have pg6 := hvl 6 (by omega)
  have cg7 := fun p => Rg.cell (hv 7 (by omega)) p
  have pg7 := hvl 7 (by omega)
  have cwi := fun p => Rg.cell (hf i hi2) p
  have cki := fun p => Rg.cell (hK i hi2) p
  have pw := hlt i hi2
  have pk := hKl i hi2
  have bi : (i : Int) < (rd : Int) := by omega
  have bi0 : 0 ≤ (i : Int) := by omega
  have C0 := Lib.hid (fun W => Rf.ror_any W R n e c0 hR h0 hn le hc.1.1 hc.1.2)
  have C1 := Lib.hid (fun W => Rf.ror_any W R n e c1 hR h0 hn le hc.2.1.1 hc.2.1.2)
  have C2 := Lib.hid (fun W => Rf.ror_any W R n e c2 hR h0 hn le hc.2.2.1 hc.2.2.2)
  have p0 := Hs.ror_lt n e c0 le
  have p1 := Hs.ror_lt n e c1 le
  have p2 := Hs.ror_lt n e c2 le
  have hz : Hs.tt n c0 c1 c2 g (kk i) (f i) = (g 7 + (Hs.ror n e c0 ^^^ Hs.ror n e c1 ^^^ Hs.ror n e c2) + ((e &&& g 5) ^^^ (((2 ^ n - 1) ^^^ e) &&& g 6)) + kk i + f i) % 2 ^ n := by rw [he]; rfl
  have hnt : (18446744073709551615 ^^^ e) % 2 ^ n = (2 ^ n - 1) ^^^ e := by
    rw [Nat.xor_mod_two_pow,Nat.mod_eq_of_lt le]
    rcases hn with rfl | rfl <;> rfl
  have nt : bits .xor .u64 IntKind.u64.max (e : Int) = ((18446744073709551615 ^^^ e : Nat) : Int) := Rf.xor64 18446744073709551615 e (by omega) (l64 _ le)
  have ntl : (18446744073709551615 ^^^ e) < 18446744073709551616 := Nat.xor_lt_two_pow (n := 64) (by decide) (l64 _ le)
  have CC := Lib.hid (fun W => Rf.cut_any W R n _ h0 hn ntl)
  rw [hnt] at CC
  have pnc : ((2 ^ n - 1) ^^^ e) < 2 ^ n := Nat.xor_lt_two_pow (by have := Nat.two_pow_pos n; omega) le
  obtain ⟨r0,en_r0⟩ : ∃ z,Hs.ror n e c0 = z := ⟨_,rfl⟩
  rw [en_r0] at C0
  rw [en_r0] at p0
  rw [en_r0] at hz
  obtain ⟨r1,en_r1⟩ : ∃ z,Hs.ror n e c1 = z := ⟨_,rfl⟩
  rw [en_r1] at C1
  rw [en_r1] at p1
  rw [en_r1] at hz
  obtain ⟨r2,en_r2⟩ : ∃ z,Hs.ror n e c2 = z := ⟨_,rfl⟩
  rw [en_r2] at C2
  rw [en_r2] at p2
  rw [en_r2] at hz
  obtain ⟨nc,en_nc⟩ : ∃ z,(2 ^ n - 1) ^^^ e = z := ⟨_,rfl⟩
  rw [en_nc] at CC
  rw [en_nc] at pnc
  rw [en_nc] at hz
  obtain ⟨ne,en_ne⟩ : ∃ z,18446744073709551615 ^^^ e = z := ⟨_,rfl⟩
  rw [en_ne] at nt
  rw [en_ne] at CC
  obtain ⟨wi,en_wi⟩ : ∃ z,f i = z := ⟨_,rfl⟩
  rw [en_wi] at cwi
  rw [en_wi] at pw
  rw [en_wi] at hz
  rw [en_wi] at hk
  obtain ⟨ki,en_ki⟩ : ∃ z,kk i = z := ⟨_,rfl⟩
  rw [en_ki] at cki
  rw [en_ki] at pk
  rw [en_ki] at hz
  rw [en_ki] at hk
  obtain ⟨g5,en_g5⟩ : ∃ z,g 5 = z := ⟨_,rfl⟩
  rw [en_g5] at cg5
  rw [en_g5] at pg5
  rw [en_g5] at hz
  obtain ⟨g6,en_g6⟩ : ∃ z,g 6 = z := ⟨_,rfl⟩
  rw [en_g6] at cg6
  rw [en_g6] at pg6
  rw [en_g6] at hz
  obtain ⟨g7,en_g7⟩ : ∃ z,g 7 = z := ⟨_,rfl⟩
  rw [en_g7] at cg7
  rw [en_g7] at pg7
  rw [en_g7] at hz
  have x1 := Rf.xor64 r0 r1 (l64 _ p0) (l64 _ p1)
  have x1l := Nat.xor_lt_two_pow p0 p1
  obtain ⟨xa,en_xa⟩ : ∃ z,r0 ^^^ r1 = z := ⟨_,rfl⟩
  rw [en_xa] at x1
  rw [en_xa] at x1l
  rw [en_xa] at hz
  have x2 := Rf.xor64 xa r2 (l64 _ x1l) (l64 _ p2)
  obtain ⟨xb,en_xb⟩ : ∃ z,xa ^^^ r2 = z := ⟨_,rfl⟩
  rw [en_xb] at x2
  rw [en_xb] at hz
  have a1 := Rf.and64 e g5 (l64 _ le) (l64 _ pg5)
  have a1l := Nat.lt_of_le_of_lt (Nat.and_le_left (n := e) (m := g5)) le
  obtain ⟨an,en_an⟩ : ∃ z,e &&& g5 = z := ⟨_,rfl⟩
  rw [en_an] at a1
  rw [en_an] at a1l
  rw [en_an] at hz
  have a2 := Rf.and64 nc g6 (l64 _ pnc) (l64 _ pg6)
  have a2l := Nat.lt_of_le_of_lt (Nat.and_le_left (n := nc) (m := g6)) pnc
  obtain ⟨am,en_am⟩ : ∃ z,nc &&& g6 = z := ⟨_,rfl⟩
  rw [en_am] at a2
  rw [en_am] at a2l
  rw [en_am] at hz
  have x3 := Rf.xor64 an am (l64 _ a1l) (l64 _ a2l)
  obtain ⟨ch,en_ch⟩ : ∃ z,an ^^^ am = z := ⟨_,rfl⟩
  rw [en_ch] at x3
  rw [en_ch] at hz
  have y1 := Rf.add64 g7 xb
  obtain ⟨t1,en_t1⟩ : ∃ z,(g7 + xb) % 18446744073709551616 = z := ⟨_,rfl⟩
  rw [en_t1] at y1
  have y2 := Rf.add64 t1 ch
  obtain ⟨t2,en_t2⟩ : ∃ z,(t1 + ch) % 18446744073709551616 = z := ⟨_,rfl⟩
  rw [en_t2] at y2
  have y3 := Rf.add64 t2 ki
  obtain ⟨t3,en_t3⟩ : ∃ z,(t2 + ki) % 18446744073709551616 = z := ⟨_,rfl⟩
  rw [en_t3] at y3
  have y4 := Rf.add64 t3 wi
  obtain ⟨t,en_t⟩ : ∃ z,(t3 + wi) % 18446744073709551616 = z := ⟨_,rfl⟩
  rw [en_t] at y4
  have hts : t % 2 ^ n = Hs.tt n c0 c1 c2 g ki wi := by
    rw [en_wi,en_ki] at *
    rw [hz,← en_t,← en_t3,← en_t2,← en_t1]
    rcases hn with rfl | rfl <;> omega
  have htl : t < 18446744073709551616 := by rw [← en_t]; exact Nat.mod_lt _ (by decide)
  have HK := Lib.hid (fun v183 v184 v185 v186 v187 v188 v189 v190 v191 v192 v193 v194 v195 v196 v197 v198 v199 v200 v201 v202 v203 v204 v205 v206 v207 v208 v209 v210 v211 v212 v213 v214 v215 v216 v217 v218 v219 v220 v221 v222 v223 v224 v225 v226 v227 v228 v229 v230 v231 v232 W hB => hk v183 v184 v185 v186 v187 v188 v189 v190 v191 v192 v193 v194 v195 v196 v197 v198 v199 v200 v201 v202 v203 v204 v205 v206 v207 v208 v209 v210 v211 v212 v213 v214 v215 v216 v217 v218 v219 v220 v221 v222 v223 v224 v225 v226 v227 v228 v229 v230 v231 v232 t W hB htl hts)
  have hsz : (Tryz.prog.info? 61).map (·.size) = some R.size := by rw [hR]; exact Rf.infoKd
  clear hk htl hts en_t en_t1 en_t2 en_t3 en_ch en_am en_an en_xb en_xa en_g5 en_g6 en_g7 en_wi en_ki en_nc en_ne en_r0 en_r1 en_r2 hz hnt ntl pnc a1l a2l x1l p0 p1 p2 pg5 pg6 pg7 pw pk le l64 he hvl hv hK hKl hf hlt hi2 hc r9 r10 r11 r15 hn h0 hR
  have hsg : IntKind.u64.signed = false := rfl
  conv => arg 2; whnf
  refine Rg.quiet (by kernel_rfl) (by kernel_rfl) ?_
  dsimp only
  repeat (first | (go_big_quiet_want; refine Rg.load_row _ 61 rfl q rfl 61 R (0,0) _ hkb Tryz.underlying61 rfl hsz _ (by simp only [Act.put,List.setIfInBounds_toArray,List.set_cons_zero,List.set_cons_succ]; exact rfl) ?_; go_big_quiet_on) | go_big_quiet_step ((first | (go_at_call 54; first | with_reducible exact Rg.call (C0.out _) | with_reducible exact Rg.call (C1.out _) | with_reducible exact Rg.call (C2.out _)) | (go_at_call 53; first | with_reducible exact Rg.call (CC.out _)))))
  refine wpQuiet_nil ?_
  intro w' hw'
  obtain ⟨p,rfl⟩ := hw'
  exact HK.out _ _ _ _ _ _ _ _ _ _ _ _ _ _ _ _ _ _ _ _ _ _ _ _ _ _ _ _ _ _ _ _ _ _ _ _ _ _ _ _ _ _ _ _ _ _ _ _ _ _ _ (Rg.below w p)
end
end Go.Proofs.YthlecdggkolgmaaGreatDoor
