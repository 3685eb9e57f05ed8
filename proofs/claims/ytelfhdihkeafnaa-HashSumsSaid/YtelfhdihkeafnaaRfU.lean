/- The reference of a sum: the numbers of a block. -/
import Derived.Test.YtelfhdihkeafnaaRfQ
namespace Go.Proofs.Ytelfhdihkeafnaa
open Go.RowKit

theorem Rf.part_small (n wb : Nat) (B : Nat → Nat) (i : Nat) (hB : ∀ j, B j < 256) : ∀ k, 8 * k ≤ n → Hs.part n wb B i k < 2 ^ (8 * k)
  | 0, _ => by simp [Hs.part]
  | k + 1, h => by
    have ih := Rf.part_small n wb B i hB k (by omega)
    rw [Hs.part]
    have e : 2 ^ (8 * (k + 1)) = 2 ^ (8 * k) * 256 := by rw [Nat.mul_add, Nat.pow_add]
    refine Nat.or_lt_two_pow (Nat.lt_of_le_of_lt (Nat.mod_le _ _) (by rw [e]; omega)) (Nat.lt_of_lt_of_le (hB _) ?_)
    rw [e]
    have := Nat.two_pow_pos (8 * k)
    omega
theorem Rf.part_step (n wb : Nat) (B : Nat → Nat) (i k : Nat) (hn : n = 8 * wb) (hk : k < wb) (hB : ∀ j, B j < 256) : Hs.part n wb B i k * 256 < 2 ^ n ∧ Hs.part n wb B i (k + 1) = (Hs.part n wb B i k * 256 ||| B (i * wb + k)) := by
  have h := Rf.part_small n wb B i hB k (by omega)
  have h2 : Hs.part n wb B i k * 256 < 2 ^ n := by
    have e : 2 ^ (8 * k) * 256 ≤ 2 ^ n := by
      rw [show (256 : Nat) = 2 ^ 8 by decide, ← Nat.pow_add]
      exact Nat.pow_le_pow_right (by decide) (by omega)
    omega
  refine ⟨h2, ?_⟩
  rw [Hs.part, Nat.mod_eq_of_lt h2]
set_option maxHeartbeats 1000000 in
set_option maxRecDepth 100000 in
theorem Rf.l4 (w : World) (wd gb lb cb at_ gw rd i n : Nat) {u0 u1 u2 u3 u4 u7 u12 u13 u14 u15 u16 u17 u18 u19 u20 u21 u22 u23 u24 u25 u26 u27 u28 u29 u30 u31 u32 u33 u34 u35 u36 u37 u38 u39 u40 u41 u42 u43 u44 u45 u46 u47 u48 u49 u50 u51 u52 u53 u54 u55 u56 u57 u58 u59 u60 u61 u62 u63 u64 u65 u66 u67 u68 u69 u70 u71 u72 u73 u74 u75 u76 u77 u78 u79 u80 u81 u82 u83 u84 u85 u86 u87 u88 u89 u90 u91 u92 u93 u94 u95 u96 u97 u98 u99 u100 u101 u102 u103 u104 u105 u106 u107 u108 u109 u110 u111 u112 u113 u114 u115 u116 u117 u118 u119 u120 u121 u122 u123 u124 u125 u126 u127 u128 u129 u130 u131 u132 u133 u134 u135 u136 u137 u138 u139 u140 u141 u142 u143 u144 u145 u146 u147 u148 u149 u150 u151 u152 u153 u154 u155 u156 u157 u158 u159 u160 u161 u162 u163 u164 u165 u166 u167 u168 u169 u170 u171 u172 u173 u174 u175 u176 u177 u178 u179 u180 u181 u182 u183 u184 u185 u186 u187 u188 u189 u190 u191 u192 u193 u194 u195 u196 u197 u198 u199 u200 u201 u202 u203 u204 u205 u206 u207 u208 u209 u210 u211 u212 u213 u214 u215 u216 u217 u218 u219 u220 u221 u222 u223 u224 u225 u226 u227 u228 u229 u230 u231 u232 u233 u234 u235 u236 u237 u238 u239 u240 u241 u242 u243 u244 u245 u246 u247 u248 u249 u250 u251 u252 u253 u254 u255 u256 u257 u258 u259 u260 u261 u262 u263 u264 u265 u266 u267 u268 u269 u270 u271 u272 u273 u274 u275 u276 u277 u278 u279 u280 u281 u282 u283 u284 u285 u286 u287 u288 u289 u290 u291 u292 u293 u294 u295 u296 u297 u298 u299 u300 u301 u302 u303 u304 u305 u306 u307 u308 u309 u310 u311 u312 u313 u314 u315 u316 u317 u318 u319 u320 u321 u322 u323 u324 u325 u326 u327 u328 u329 u330 u331 u332 u333 u334 u335 u336 u337 u338 u339 : Value} (Q0 : Exit → Act → World → Prop) (m : List UInt8) (B : Nat → Nat) (hBe : ∀ j, B j = (m.getD (at_ + j) 0).toNat)
    (hn : n = 8 * wd) (hwd : wd = 4 ∨ wd = 8) (hi : i < 16) (hrd : 16 ≤ rd ∧ rd ≤ 80) (hlb : lb ≤ 9223372036854775807) (hat : at_ + 16 * wd ≤ lb) (hbw : gb ≠ gw) (hbl : gb < w.heap.size) (hb : ∀ j, j < lb → w.cell? ⟨gb, j, none⟩ = some (.int .u8 ((m.getD j 0).toNat : Int)))
    (hf : Rf.Cel w gw rd (fun j => if j < i then Hs.part n wd B j wd else 0))
    (hk : ∀ (v11 v71 v72 v73 v74 v75 v76 v77 v78 v79 v80 v81 v82 v83 v84 v85 v86 v87 v88 v89 v90 v91 v92 v93 v94 v95 : Value) (W : World), Hs.But gw w W → Rf.Cel W gw rd (fun j => if j < i + 1 then Hs.part n wd B j wd else 0) → Q0 (.exit 6) ⟨#[u0, u1, u2, u3, u4, .int .i64 (wd : Int), .slice (some ⟨gb, 0, none⟩) lb cb, u7, .int .i64 (at_ : Int), .slice (some ⟨gw, 0, none⟩) rd rd, .int .i64 (i : Int), v11, u12, u13, u14, u15, u16, u17, u18, u19, u20, u21, u22, u23, u24, u25, u26, u27, u28, u29, u30, u31, u32, u33, u34, u35, u36, u37, u38, u39, u40, u41, u42, u43, u44, u45, u46, u47, u48, u49, u50, u51, u52, u53, u54, u55, u56, u57, u58, u59, u60, u61, u62, u63, u64, u65, u66, u67, u68, u69, u70, v71, v72, v73, v74, v75, v76, v77, v78, v79, v80, v81, v82, v83, v84, v85, v86, v87, v88, v89, v90, v91, v92, v93, v94, v95, u96, u97, u98, u99, u100, u101, u102, u103, u104, u105, u106, u107, u108, u109, u110, u111, u112, u113, u114, u115, u116, u117, u118, u119, u120, u121, u122, u123, u124, u125, u126, u127, u128, u129, u130, u131, u132, u133, u134, u135, u136, u137, u138, u139, u140, u141, u142, u143, u144, u145, u146, u147, u148, u149, u150, u151, u152, u153, u154, u155, u156, u157, u158, u159, u160, u161, u162, u163, u164, u165, u166, u167, u168, u169, u170, u171, u172, u173, u174, u175, u176, u177, u178, u179, u180, u181, u182, u183, u184, u185, u186, u187, u188, u189, u190, u191, u192, u193, u194, u195, u196, u197, u198, u199, u200, u201, u202, u203, u204, u205, u206, u207, u208, u209, u210, u211, u212, u213, u214, u215, u216, u217, u218, u219, u220, u221, u222, u223, u224, u225, u226, u227, u228, u229, u230, u231, u232, u233, u234, u235, u236, u237, u238, u239, u240, u241, u242, u243, u244, u245, u246, u247, u248, u249, u250, u251, u252, u253, u254, u255, u256, u257, u258, u259, u260, u261, u262, u263, u264, u265, u266, u267, u268, u269, u270, u271, u272, u273, u274, u275, u276, u277, u278, u279, u280, u281, u282, u283, u284, u285, u286, u287, u288, u289, u290, u291, u292, u293, u294, u295, u296, u297, u298, u299, u300, u301, u302, u303, u304, u305, u306, u307, u308, u309, u310, u311, u312, u313, u314, u315, u316, u317, u318, u319, u320, u321, u322, u323, u324, u325, u326, u327, u328, u329, u330, u331, u332, u333, u334, u335, u336, u337, u338, u339], []⟩ W) : Code.wp Try.prog (Code.loop Rf.lp4) Q0 ⟨#[u0, u1, u2, u3, u4, .int .i64 (wd : Int), .slice (some ⟨gb, 0, none⟩) lb cb, u7, .int .i64 (at_ : Int), .slice (some ⟨gw, 0, none⟩) rd rd, .int .i64 (i : Int), .int .i64 0, u12, u13, u14, u15, u16, u17, u18, u19, u20, u21, u22, u23, u24, u25, u26, u27, u28, u29, u30, u31, u32, u33, u34, u35, u36, u37, u38, u39, u40, u41, u42, u43, u44, u45, u46, u47, u48, u49, u50, u51, u52, u53, u54, u55, u56, u57, u58, u59, u60, u61, u62, u63, u64, u65, u66, u67, u68, u69, u70, u71, u72, u73, u74, u75, u76, u77, u78, u79, u80, u81, u82, u83, u84, u85, u86, u87, u88, u89, u90, u91, u92, u93, u94, u95, u96, u97, u98, u99, u100, u101, u102, u103, u104, u105, u106, u107, u108, u109, u110, u111, u112, u113, u114, u115, u116, u117, u118, u119, u120, u121, u122, u123, u124, u125, u126, u127, u128, u129, u130, u131, u132, u133, u134, u135, u136, u137, u138, u139, u140, u141, u142, u143, u144, u145, u146, u147, u148, u149, u150, u151, u152, u153, u154, u155, u156, u157, u158, u159, u160, u161, u162, u163, u164, u165, u166, u167, u168, u169, u170, u171, u172, u173, u174, u175, u176, u177, u178, u179, u180, u181, u182, u183, u184, u185, u186, u187, u188, u189, u190, u191, u192, u193, u194, u195, u196, u197, u198, u199, u200, u201, u202, u203, u204, u205, u206, u207, u208, u209, u210, u211, u212, u213, u214, u215, u216, u217, u218, u219, u220, u221, u222, u223, u224, u225, u226, u227, u228, u229, u230, u231, u232, u233, u234, u235, u236, u237, u238, u239, u240, u241, u242, u243, u244, u245, u246, u247, u248, u249, u250, u251, u252, u253, u254, u255, u256, u257, u258, u259, u260, u261, u262, u263, u264, u265, u266, u267, u268, u269, u270, u271, u272, u273, u274, u275, u276, u277, u278, u279, u280, u281, u282, u283, u284, u285, u286, u287, u288, u289, u290, u291, u292, u293, u294, u295, u296, u297, u298, u299, u300, u301, u302, u303, u304, u305, u306, u307, u308, u309, u310, u311, u312, u313, u314, u315, u316, u317, u318, u319, u320, u321, u322, u323, u324, u325, u326, u327, u328, u329, u330, u331, u332, u333, u334, u335, u336, u337, u338, u339], []⟩ w := by
  have HK := Lib.hid hk
  have hBl : ∀ j, B j < 256 := fun j => by rw [hBe]; exact UInt8.toNat_lt _
  have HP := Lib.hid (And.intro (fun k hk => Rf.part_step n wd B i k hn hk hBl) hBe)
  have h64 : 2 ^ n ≤ 18446744073709551616 := by rw [hn]; rcases hwd with rfl | rfl <;> decide
  have H64 := Lib.hid (And.intro h64 hBl)
  have hwd8 : wd ≤ 8 := by omega
  have hwi : wd * i + wd ≤ 16 * wd := by
    have : wd * (i + 1) ≤ wd * 16 := Nat.mul_le_mul_left _ hi
    rw [Nat.mul_add, Nat.mul_one] at this
    omega
  have HB := Lib.hid hb
  clear hk h64 hn hBl hBe hb
  conv => arg 2; arg 1; whnf
  dsimp only
  go_loopw [11] (fun kv wr => ∃ (k : Nat), k ≤ wd ∧ kv = .int .i64 (k : Int) ∧ Hs.But gw w wr ∧ Rf.Cel wr gw rd (fun j => if j < i then Hs.part n wd B j wd else if j = i then Hs.part n wd B i k else 0)) (fun kv _ => wd - (intOf kv).toNat)
  case atStart => exact ⟨0, by omega, rfl, Hs.But.refl _ _, hf.congr (fun j _ => by
    by_cases h : j < i
    · rw [if_pos h, if_pos h]
    · rw [if_neg h, if_neg h]; split <;> rfl)⟩
  case round =>
  obtain ⟨k, hkw, rfl, hBut, hC⟩ := hrel
  obtain ⟨w2, rfl⟩ : ∃ w2, w2 = wr := ⟨_, rfl⟩
  by_cases hi8 : k < wd
  · have hiz : (k : Int) < (wd : Int) := by omega
    have hx := hC.cell i (by omega)
    rw [if_neg (by omega), if_pos rfl] at hx
    have hfx := hC.fro i
    have hj : at_ + wd * i + k < lb := by omega
    have hc := (Rf.cell_eq (j := at_ + wd * i + k) (hBut.block gb hbl hbw)).trans (HB.out _ hj)
    have hp := HP.out.1 k hi8
    have hbe := HP.out.2 (i * wd + k)
    rw [show at_ + (i * wd + k) = at_ + wd * i + k by rw [Nat.mul_comm i wd]; omega] at hbe
    have hxl : Hs.part n wd B i k * 256 < 18446744073709551616 := Nat.lt_of_lt_of_le hp.1 H64.out.1
    rw [hbe] at hp
    have HC := Lib.hid (And.intro hC hp.2)
    clear hC hp hbe
    go_upto_region 17 with fail
    refine Rf.r17 (k := k) (hi := by omega) (hrd := hrd.2) (hwd := hwd8) (hk8 := by omega) (hj := hj) (hlb := hlb) (hx := hx) (hfx := hfx) (hxl := hxl) (hc := hc) (hk := ?_)
    intro v76 v77 v78 v79 v80 v81 v82 v83 v84 v85 v86 v87 v88 v89 v90 v91 v92 v93 v94 v95 w3 hB3
    rw [← HC.out.2]
    have hC3 := ((HC.out.1.below hB3).set i (Hs.part n wd B i (k + 1)) (by omega)).congr (f' := fun j => if j < i then Hs.part n wd B j wd else if j = i then Hs.part n wd B i (k + 1) else 0) (fun j hj => by
      by_cases e : j = i
      · subst e; rw [if_pos rfl, if_neg (by omega), if_pos rfl]
      · rw [if_neg e]
        by_cases h : j < i
        · rw [if_pos h, if_pos h]
        · rw [if_neg h, if_neg h, if_neg e, if_neg e])
    have hBut3 := hBut.trans ((Hs.But.ofBelow (b := gw) hB3 (Nat.le_refl _)).trans (Hs.But.set _ i (.int .u64 ((Hs.part n wd B i (k + 1) : Nat) : Int))))
    clear hx hfx hc hxl
    go_wp2_with fail
    exact ⟨⟨k + 1, by omega, by go_num, hBut3, hC3⟩, by simp [intOf]; omega⟩
  · have hie : k = wd := by omega
    have hiz : ¬ (k : Int) < (wd : Int) := by omega
    have hC8 := hC.congr (f' := fun j => if j < i + 1 then Hs.part n wd B j wd else 0) (fun j hj => by
      by_cases e : j = i
      · subst e; rw [if_neg (by omega), if_pos rfl, if_pos (by omega), hie]
      · by_cases h : j < i
        · rw [if_pos h, if_pos (by omega)]
        · rw [if_neg h, if_neg e, if_neg (by omega)])
    clear hC hie
    go_wp2_with fail
    exact HK.out _ _ _ _ _ _ _ _ _ _ _ _ _ _ _ _ _ _ _ _ _ _ _ _ _ _ _ hBut hC8
set_option maxHeartbeats 1000000 in
set_option maxRecDepth 100000 in
theorem Rf.l3 (w : World) (wd gb lb cb at_ gw rd n : Nat) {u0 u1 u2 u3 u4 u7 u11 u12 u13 u14 u15 u16 u17 u18 u19 u20 u21 u22 u23 u24 u25 u26 u27 u28 u29 u30 u31 u32 u33 u34 u35 u36 u37 u38 u39 u40 u41 u42 u43 u44 u45 u46 u47 u48 u49 u50 u51 u52 u53 u54 u55 u56 u57 u58 u59 u60 u61 u62 u63 u64 u65 u66 u67 u68 u69 u70 u71 u72 u73 u74 u75 u76 u77 u78 u79 u80 u81 u82 u83 u84 u85 u86 u87 u88 u89 u90 u91 u92 u93 u94 u95 u96 u97 u98 u99 u100 u101 u102 u103 u104 u105 u106 u107 u108 u109 u110 u111 u112 u113 u114 u115 u116 u117 u118 u119 u120 u121 u122 u123 u124 u125 u126 u127 u128 u129 u130 u131 u132 u133 u134 u135 u136 u137 u138 u139 u140 u141 u142 u143 u144 u145 u146 u147 u148 u149 u150 u151 u152 u153 u154 u155 u156 u157 u158 u159 u160 u161 u162 u163 u164 u165 u166 u167 u168 u169 u170 u171 u172 u173 u174 u175 u176 u177 u178 u179 u180 u181 u182 u183 u184 u185 u186 u187 u188 u189 u190 u191 u192 u193 u194 u195 u196 u197 u198 u199 u200 u201 u202 u203 u204 u205 u206 u207 u208 u209 u210 u211 u212 u213 u214 u215 u216 u217 u218 u219 u220 u221 u222 u223 u224 u225 u226 u227 u228 u229 u230 u231 u232 u233 u234 u235 u236 u237 u238 u239 u240 u241 u242 u243 u244 u245 u246 u247 u248 u249 u250 u251 u252 u253 u254 u255 u256 u257 u258 u259 u260 u261 u262 u263 u264 u265 u266 u267 u268 u269 u270 u271 u272 u273 u274 u275 u276 u277 u278 u279 u280 u281 u282 u283 u284 u285 u286 u287 u288 u289 u290 u291 u292 u293 u294 u295 u296 u297 u298 u299 u300 u301 u302 u303 u304 u305 u306 u307 u308 u309 u310 u311 u312 u313 u314 u315 u316 u317 u318 u319 u320 u321 u322 u323 u324 u325 u326 u327 u328 u329 u330 u331 u332 u333 u334 u335 u336 u337 u338 u339 : Value} (Q0 : Exit → Act → World → Prop) (m : List UInt8) (B : Nat → Nat) (hBe : ∀ j, B j = (m.getD (at_ + j) 0).toNat)
    (hn : n = 8 * wd) (hwd : wd = 4 ∨ wd = 8) (hrd : 16 ≤ rd ∧ rd ≤ 80) (hlb : lb ≤ 9223372036854775807) (hat : at_ + 16 * wd ≤ lb) (hbw : gb ≠ gw) (hbl : gb < w.heap.size) (hb : ∀ j, j < lb → w.cell? ⟨gb, j, none⟩ = some (.int .u8 ((m.getD j 0).toNat : Int)))
    (hf : Rf.Cel w gw rd (fun _ => 0))
    (hk : ∀ (v10 v11 v67 v68 v69 v70 v71 v72 v73 v74 v75 v76 v77 v78 v79 v80 v81 v82 v83 v84 v85 v86 v87 v88 v89 v90 v91 v92 v93 v94 v95 : Value) (W : World), Hs.But gw w W → Rf.Cel W gw rd (fun j => if j < 16 then Hs.part n wd B j wd else 0) → Q0 (.exit 4) ⟨#[u0, u1, u2, u3, u4, .int .i64 (wd : Int), .slice (some ⟨gb, 0, none⟩) lb cb, u7, .int .i64 (at_ : Int), .slice (some ⟨gw, 0, none⟩) rd rd, v10, v11, u12, u13, u14, u15, u16, u17, u18, u19, u20, u21, u22, u23, u24, u25, u26, u27, u28, u29, u30, u31, u32, u33, u34, u35, u36, u37, u38, u39, u40, u41, u42, u43, u44, u45, u46, u47, u48, u49, u50, u51, u52, u53, u54, u55, u56, u57, u58, u59, u60, u61, u62, u63, u64, u65, u66, v67, v68, v69, v70, v71, v72, v73, v74, v75, v76, v77, v78, v79, v80, v81, v82, v83, v84, v85, v86, v87, v88, v89, v90, v91, v92, v93, v94, v95, u96, u97, u98, u99, u100, u101, u102, u103, u104, u105, u106, u107, u108, u109, u110, u111, u112, u113, u114, u115, u116, u117, u118, u119, u120, u121, u122, u123, u124, u125, u126, u127, u128, u129, u130, u131, u132, u133, u134, u135, u136, u137, u138, u139, u140, u141, u142, u143, u144, u145, u146, u147, u148, u149, u150, u151, u152, u153, u154, u155, u156, u157, u158, u159, u160, u161, u162, u163, u164, u165, u166, u167, u168, u169, u170, u171, u172, u173, u174, u175, u176, u177, u178, u179, u180, u181, u182, u183, u184, u185, u186, u187, u188, u189, u190, u191, u192, u193, u194, u195, u196, u197, u198, u199, u200, u201, u202, u203, u204, u205, u206, u207, u208, u209, u210, u211, u212, u213, u214, u215, u216, u217, u218, u219, u220, u221, u222, u223, u224, u225, u226, u227, u228, u229, u230, u231, u232, u233, u234, u235, u236, u237, u238, u239, u240, u241, u242, u243, u244, u245, u246, u247, u248, u249, u250, u251, u252, u253, u254, u255, u256, u257, u258, u259, u260, u261, u262, u263, u264, u265, u266, u267, u268, u269, u270, u271, u272, u273, u274, u275, u276, u277, u278, u279, u280, u281, u282, u283, u284, u285, u286, u287, u288, u289, u290, u291, u292, u293, u294, u295, u296, u297, u298, u299, u300, u301, u302, u303, u304, u305, u306, u307, u308, u309, u310, u311, u312, u313, u314, u315, u316, u317, u318, u319, u320, u321, u322, u323, u324, u325, u326, u327, u328, u329, u330, u331, u332, u333, u334, u335, u336, u337, u338, u339], []⟩ W) : Code.wp Try.prog (Code.loop Rf.lp3) Q0 ⟨#[u0, u1, u2, u3, u4, .int .i64 (wd : Int), .slice (some ⟨gb, 0, none⟩) lb cb, u7, .int .i64 (at_ : Int), .slice (some ⟨gw, 0, none⟩) rd rd, .int .i64 0, u11, u12, u13, u14, u15, u16, u17, u18, u19, u20, u21, u22, u23, u24, u25, u26, u27, u28, u29, u30, u31, u32, u33, u34, u35, u36, u37, u38, u39, u40, u41, u42, u43, u44, u45, u46, u47, u48, u49, u50, u51, u52, u53, u54, u55, u56, u57, u58, u59, u60, u61, u62, u63, u64, u65, u66, u67, u68, u69, u70, u71, u72, u73, u74, u75, u76, u77, u78, u79, u80, u81, u82, u83, u84, u85, u86, u87, u88, u89, u90, u91, u92, u93, u94, u95, u96, u97, u98, u99, u100, u101, u102, u103, u104, u105, u106, u107, u108, u109, u110, u111, u112, u113, u114, u115, u116, u117, u118, u119, u120, u121, u122, u123, u124, u125, u126, u127, u128, u129, u130, u131, u132, u133, u134, u135, u136, u137, u138, u139, u140, u141, u142, u143, u144, u145, u146, u147, u148, u149, u150, u151, u152, u153, u154, u155, u156, u157, u158, u159, u160, u161, u162, u163, u164, u165, u166, u167, u168, u169, u170, u171, u172, u173, u174, u175, u176, u177, u178, u179, u180, u181, u182, u183, u184, u185, u186, u187, u188, u189, u190, u191, u192, u193, u194, u195, u196, u197, u198, u199, u200, u201, u202, u203, u204, u205, u206, u207, u208, u209, u210, u211, u212, u213, u214, u215, u216, u217, u218, u219, u220, u221, u222, u223, u224, u225, u226, u227, u228, u229, u230, u231, u232, u233, u234, u235, u236, u237, u238, u239, u240, u241, u242, u243, u244, u245, u246, u247, u248, u249, u250, u251, u252, u253, u254, u255, u256, u257, u258, u259, u260, u261, u262, u263, u264, u265, u266, u267, u268, u269, u270, u271, u272, u273, u274, u275, u276, u277, u278, u279, u280, u281, u282, u283, u284, u285, u286, u287, u288, u289, u290, u291, u292, u293, u294, u295, u296, u297, u298, u299, u300, u301, u302, u303, u304, u305, u306, u307, u308, u309, u310, u311, u312, u313, u314, u315, u316, u317, u318, u319, u320, u321, u322, u323, u324, u325, u326, u327, u328, u329, u330, u331, u332, u333, u334, u335, u336, u337, u338, u339], []⟩ w := by
  have HK := Lib.hid hk
  have HB := Lib.hid (And.intro hb hBe)
  clear hk hb hBe
  conv => arg 2; arg 1; whnf
  dsimp only
  go_loopw [10] (fun iv wr => ∃ (i : Nat), i ≤ 16 ∧ iv = .int .i64 (i : Int) ∧ Hs.But gw w wr ∧ Rf.Cel wr gw rd (fun j => if j < i then Hs.part n wd B j wd else 0)) (fun iv _ => 16 - (intOf iv).toNat)
  case atStart => exact ⟨0, by omega, rfl, Hs.But.refl _ _, hf.congr (fun j _ => by rw [if_neg (by omega)])⟩
  case round =>
  obtain ⟨i, hi, rfl, hBut, hC⟩ := hrel
  obtain ⟨w2, rfl⟩ : ∃ w2, w2 = wr := ⟨_, rfl⟩
  by_cases hi8 : i < 16
  · have hiz : (i : Int) < 16 := by omega
    have HC := Lib.hid hC
    clear hC
    go_wp2_with fail
    refine Rf.l4 (i := i) (B := B) (hBe := HB.out.2) (hn := hn) (hwd := hwd) (hi := hi8) (hrd := hrd) (hlb := hlb) (hat := hat) (hbw := hbw) (hbl := Nat.lt_of_lt_of_le hbl hBut.size) (hb := fun j hj => (Rf.cell_eq (hBut.block gb hbl hbw)).trans (HB.out.1 j hj)) (hf := HC.out) (hk := ?_)
    intro v11 v71 v72 v73 v74 v75 v76 v77 v78 v79 v80 v81 v82 v83 v84 v85 v86 v87 v88 v89 v90 v91 v92 v93 v94 v95 w3 hB3 hC3
    have hBut3 := hBut.trans hB3
    go_wp2_with fail
    exact ⟨⟨i + 1, by omega, by go_num, hBut3, hC3⟩, by simp [intOf]; omega⟩
  · have hie : i = 16 := by omega
    have hiz : ¬ (i : Int) < 16 := by omega
    rw [hie] at hC
    clear hie
    go_wp2_with fail
    exact HK.out _ _ _ _ _ _ _ _ _ _ _ _ _ _ _ _ _ _ _ _ _ _ _ _ _ _ _ _ _ _ _ _ hBut hC
end Go.Proofs.Ytelfhdihkeafnaa
