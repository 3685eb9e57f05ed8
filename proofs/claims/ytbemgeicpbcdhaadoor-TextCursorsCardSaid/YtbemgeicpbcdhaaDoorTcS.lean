/- TextCursors: the switch. -/
import Derived.Test.YtbemgeicpbcdhaaDoorTcB
import Derived.Test.YtbemgeicpbcdhaaDoorTcB2
import Derived.Test.YtbemgeicpbcdhaaDoorTcC
import Derived.Test.YtbemgeicpbcdhaaDoorTcD
import Derived.Test.YtbemgeicpbcdhaaDoorTcE
import Derived.Test.YtbemgeicpbcdhaaDoorTcF
namespace Go.Proofs.YtbemgeicpbcdhaaDoor
open Go.RowKit
set_option maxHeartbeats 2000000 in
set_option maxRecDepth 1000000 in
theorem Tx.switch {u0 u1 u2 u3 u4 u7 u14 u15 u16 u17 u18 u19 u20 u21 u22 u23 u24 u25 u26 u27 u28 u29 u30 u31 u32 u33 u34 u35 u36 u37 u38 u39 u40 u41 u42 u43 u44 u45 u46 u47 u48 u49 u50 u51 u52 u53 u54 u55 u56 u57 u58 u59 u61 u62 u63 u64 u65 u66 u67 u68 u69 u70 u71 u72 u73 u74 u75 u76 u77 u78 u79 u80 u81 u82 u83 u84 u85 u86 u87 u88 u89 u90 u91 u92 u93 u94 u95 u96 u97 u98 u99 u100 u101 u102 u103 u104 u105 u106 u107 u108 u109 u110 u111 u112 u113 u114 u115 u116 u117 u118 u119 u120 u121 u122 u123 u124 u125 u126 u127 u128 u129 u130 u131 u132 u133 u134 u135 u136 u137 u138 u139 u140 u141 u142 u143 u144 u145 u146 u147 u148 u149 u150 u151 u152 u153 u154 u155 u156 u157 u158 u159 u160 u161 u162 u163 u164 u165 u166 u167 u168 u169 u170 u171 u172 u173 u174 u175 u176 u177 u178 u179 u180 u181 u182 u183 u184 u185 u186 u187 u188 u189 u190 u191 u192 u193 u194 u195 u196 u197 u198 u199 u200 u201 u202 u203 u204 u205 u206 u207 u208 u209 u210 u211 u212 u213 u214 u215 u216 u217 u218 u219 u220 u221 u222 u223 u224 u225 u226 u227 u228 u229 u230 u231 u232 u233 u234 u235 u236 u237 u238 u239 u240 u241 u242 u243 u244 u245 u246 : Value} (Q0 : Exit → Act → World → Prop) (w w5 : World) (cs : List Tx.Cs) (gx capx gy capy N j q8 bx bz n k : Nat) (on kd nn : Int) (t : ByteArray) (h0 : Tx.Ok w) (SIT : Tx.Sit w cs N gx capx gy capy q8 on kd nn w5) (U5 : Tx.Cus w.heap.size w5 cs) (hcj : cs[j]? = some ⟨bx, bz, t, k⟩)
    (h1 : 1 ≤ cs.length) (h2 : cs.length ≤ n + 1) (hl2 : cs.length + 1 ≤ 17592186044416) (hj : (j : Int) < (N : Int)) (hgx : w.heap.size ≤ gx) (hgy : w.heap.size ≤ gy)
    (hQ : ∀ (v14 v15 v16 v17 v18 v19 v20 v21 v59 v60 v61 v62 v63 v64 v65 v66 v67 v68 v69 v70 v71 v72 v73 v74 v75 v76 v77 v78 v79 v80 v81 v82 v83 v84 v85 v86 v87 v88 v89 v90 v91 v92 v93 v94 v95 v96 v97 v98 v99 v100 v101 v102 v103 v104 v105 v106 v107 v108 v109 v110 v111 v112 v113 v114 v115 v116 v117 v118 v119 v120 v121 v122 v123 v124 v125 v126 v127 v128 v129 v130 v131 v132 v133 v134 v135 v136 v137 v138 v139 v140 v141 v142 v143 v144 v145 v146 v147 v148 v149 v150 v151 v152 v153 v154 v155 v156 v157 v158 v159 v160 v161 v162 v163 v164 v165 v166 v167 v168 v169 v170 v171 v172 v173 v174 v175 v176 v177 v178 v179 v180 v181 v182 v183 v184 v185 v186 v187 v188 v189 v190 v191 v192 v193 v194 v195 v196 v197 v198 v199 v200 v201 v202 v203 : Value) (vx vy : Value) (S : ByteArray) (C : Int) (W : World), Tx.Left2 w n vx vy W → Q0 .normal ⟨#[u0, u1, u2, u3, u4, vx, vy, u7, .pointer (some ⟨q8, 0, none⟩), .int .i64 (j : Int), .string S, .string S, .int .i64 C, .int .i64 C, v14, v15, v16, v17, v18, v19, v20, v21, u22, u23, u24, u25, u26, u27, u28, u29, u30, u31, u32, u33, u34, u35, u36, u37, u38, u39, u40, u41, u42, u43, u44, u45, u46, u47, u48, u49, u50, u51, u52, u53, u54, u55, u56, u57, u58, v59, v60, v61, v62, v63, v64, v65, v66, v67, v68, v69, v70, v71, v72, v73, v74, v75, v76, v77, v78, v79, v80, v81, v82, v83, v84, v85, v86, v87, v88, v89, v90, v91, v92, v93, v94, v95, v96, v97, v98, v99, v100, v101, v102, v103, v104, v105, v106, v107, v108, v109, v110, v111, v112, v113, v114, v115, v116, v117, v118, v119, v120, v121, v122, v123, v124, v125, v126, v127, v128, v129, v130, v131, v132, v133, v134, v135, v136, v137, v138, v139, v140, v141, v142, v143, v144, v145, v146, v147, v148, v149, v150, v151, v152, v153, v154, v155, v156, v157, v158, v159, v160, v161, v162, v163, v164, v165, v166, v167, v168, v169, v170, v171, v172, v173, v174, v175, v176, v177, v178, v179, v180, v181, v182, v183, v184, v185, v186, v187, v188, v189, v190, v191, v192, v193, v194, v195, v196, v197, v198, v199, v200, v201, v202, v203, u204, u205, u206, u207, u208, u209, u210, u211, u212, u213, u214, u215, u216, u217, u218, u219, u220, u221, u222, u223, u224, u225, u226, u227, u228, u229, u230, u231, u232, u233, u234, u235, u236, u237, u238, u239, u240, u241, u242, u243, u244, u245, u246], []⟩ W) :
    Code.wp Tryd.prog Tx.sw Q0 ⟨#[u0, u1, u2, u3, u4, .slice (some ⟨gx, 0, none⟩) N capx, .slice (some ⟨gy, 0, none⟩) N capy, u7, .pointer (some ⟨q8, 0, none⟩), .int .i64 (j : Int), .string ⟨#[]⟩, .string ⟨#[]⟩, .int .i64 0, .int .i64 0, u14, u15, u16, u17, u18, u19, u20, u21, u22, u23, u24, u25, u26, u27, u28, u29, u30, u31, u32, u33, u34, u35, u36, u37, u38, u39, u40, u41, u42, u43, u44, u45, u46, u47, u48, u49, u50, u51, u52, u53, u54, u55, u56, u57, u58, u59, .int .i64 kd, u61, u62, u63, u64, u65, u66, u67, u68, u69, u70, u71, u72, u73, u74, u75, u76, u77, u78, u79, u80, u81, u82, u83, u84, u85, u86, u87, u88, u89, u90, u91, u92, u93, u94, u95, u96, u97, u98, u99, u100, u101, u102, u103, u104, u105, u106, u107, u108, u109, u110, u111, u112, u113, u114, u115, u116, u117, u118, u119, u120, u121, u122, u123, u124, u125, u126, u127, u128, u129, u130, u131, u132, u133, u134, u135, u136, u137, u138, u139, u140, u141, u142, u143, u144, u145, u146, u147, u148, u149, u150, u151, u152, u153, u154, u155, u156, u157, u158, u159, u160, u161, u162, u163, u164, u165, u166, u167, u168, u169, u170, u171, u172, u173, u174, u175, u176, u177, u178, u179, u180, u181, u182, u183, u184, u185, u186, u187, u188, u189, u190, u191, u192, u193, u194, u195, u196, u197, u198, u199, u200, u201, u202, u203, u204, u205, u206, u207, u208, u209, u210, u211, u212, u213, u214, u215, u216, u217, u218, u219, u220, u221, u222, u223, u224, u225, u226, u227, u228, u229, u230, u231, u232, u233, u234, u235, u236, u237, u238, u239, u240, u241, u242, u243, u244, u245, u246], []⟩ w5 := by
  have px5 := SIT.px hcj
  have o2 := SIT.o2
  obtain ⟨hx5, hy5, htz, hB1, hB2⟩ := U5.cur _ (List.mem_of_getElem? hcj)
  simp only at px5 hx5 hy5 htz
  have hL : k + (t.size - k) = t.size := by have := hx5.2; omega
  have hkt := hx5.2
  have HQ := Lib.hid hQ
  clear hQ
  by_cases hk0 : kd = 0
  · by_cases hks : k < t.size
    · obtain ⟨R1, R2, c1, c2, c3⟩ := Tx.okPair id Tx.dr0 h0 SIT U5 hcj _ _ _ _ _ _ _ (fun W h => Tx.Byte_ok h (by omega) hks) (fun W h => Tx.RTake_ok (L := t.size - k) h (by omega) hL 1 (by omega))
      refine Tx.kByteOk _ w5 gx capx gy capy N j q8 bx bz nn t[k] _ R1 R2 (by rw [Tx.ext1 t k hks]; rfl) hj px5 kd hk0 o2 c1 (fun W h => ⟨(c2 W h).1, (c2 W h).2.2⟩) ?_
      intros
      rename_i W hR
      have bA : Below W.heap.size W (W.alloc (.cells #[.int .u8 (t[k].toNat : Int)] 5)) := (Below.refl _ _).alloc (Nat.le_refl _) _
      exact HQ.out _ _ _ _ _ _ _ _ _ _ _ _ _ _ _ _ _ _ _ _ _ _ _ _ _ _ _ _ _ _ _ _ _ _ _ _ _ _ _ _ _ _ _ _ _ _ _ _ _ _ _ _ _ _ _ _ _ _ _ _ _ _ _ _ _ _ _ _ _ _ _ _ _ _ _ _ _ _ _ _ _ _ _ _ _ _ _ _ _ _ _ _ _ _ _ _ _ _ _ _ _ _ _ _ _ _ _ _ _ _ _ _ _ _ _ _ _ _ _ _ _ _ _ _ _ _ _ _ _ _ _ _ _ _ _ _ _ _ _ _ _ _ _ _ _ _ _ _ _ _ _ _ _ _ _ _ _ _ (((c3 W hR).1.below bA).left_upd ((c3 W hR).2.below bA) h1 h2)
    · obtain ⟨R1, R2, c1, c2, c3⟩ := Tx.noPair id Tx.dr0 SIT U5 hcj h1 h2 _ _ _ _ _ _ _ (fun W h ho => Tx.Byte_no (Tx.take_end (L := t.size - k) h (by omega) hL 1 (by omega) (by omega)) ho) (fun W h => Tx.RTake_end (L := t.size - k) h (by omega) hL 1 (by omega) (by omega))
      refine Tx.kByteNo _ w5 gx capx gy capy N j q8 bx bz nn 15 _ R1 R2 (by decide) hj px5 kd hk0 o2 c1 (fun W h => ⟨(c2 W h).1, (c2 W h).2.2⟩) ?_
      intros
      rename_i W hR
      exact HQ.out _ _ _ _ _ _ _ _ _ _ _ _ _ _ _ _ _ _ _ _ _ _ _ _ _ _ _ _ _ _ _ _ _ _ _ _ _ _ _ _ _ _ _ _ _ _ _ _ _ _ _ _ _ _ _ _ _ _ _ _ _ _ _ _ _ _ _ _ _ _ _ _ _ _ _ _ _ _ _ _ _ _ _ _ _ _ _ _ _ _ _ _ _ _ _ _ _ _ _ _ _ _ _ _ _ _ _ _ _ _ _ _ _ _ _ _ _ _ _ _ _ _ _ _ _ _ _ _ _ _ _ _ _ _ _ _ _ _ _ _ _ _ _ _ _ _ _ _ _ _ _ _ _ _ _ _ _ _ (c3 W hR)
  by_cases hk1 : kd = 1
  · obtain ⟨S, C, R1, R2, c1, c2, c3⟩ := Tx.stepTake h0 SIT U5 hcj h1 h2
    refine Tx.kTake _ w5 gx capx gy capy N j q8 bx bz nn S C R1 R2 kd hk1 hj px5 o2 c1 c2 ?_
    intros
    rename_i W hR
    exact HQ.out _ _ _ _ _ _ _ _ _ _ _ _ _ _ _ _ _ _ _ _ _ _ _ _ _ _ _ _ _ _ _ _ _ _ _ _ _ _ _ _ _ _ _ _ _ _ _ _ _ _ _ _ _ _ _ _ _ _ _ _ _ _ _ _ _ _ _ _ _ _ _ _ _ _ _ _ _ _ _ _ _ _ _ _ _ _ _ _ _ _ _ _ _ _ _ _ _ _ _ _ _ _ _ _ _ _ _ _ _ _ _ _ _ _ _ _ _ _ _ _ _ _ _ _ _ _ _ _ _ _ _ _ _ _ _ _ _ _ _ _ _ _ _ _ _ _ _ _ _ _ _ _ _ _ _ _ _ _ (c3 W hR)
  by_cases hk2 : kd = 2
  · obtain ⟨z, hz⟩ : ∃ z : UInt8, IntKind.u8.wrap (bits .and .i64 nn 255) = (z.toNat : Int) := ⟨UInt8.ofNat (IntKind.u8.wrap (bits .and .i64 nn 255)).toNat, by rw [IntKind.wrap_u8, Tx.o8 _ (by omega)]; omega⟩
    obtain ⟨S, C, R1, R2, c1, c2, c3⟩ := Tx.stepUntil h0 SIT U5 hcj h1 h2 z
    refine Tx.kUntil _ w5 gx capx gy capy N j q8 bx bz nn z S C R1 R2 kd hk2 hz hj px5 o2 c1 c2 ?_
    intros
    rename_i W hR
    exact HQ.out _ _ _ _ _ _ _ _ _ _ _ _ _ _ _ _ _ _ _ _ _ _ _ _ _ _ _ _ _ _ _ _ _ _ _ _ _ _ _ _ _ _ _ _ _ _ _ _ _ _ _ _ _ _ _ _ _ _ _ _ _ _ _ _ _ _ _ _ _ _ _ _ _ _ _ _ _ _ _ _ _ _ _ _ _ _ _ _ _ _ _ _ _ _ _ _ _ _ _ _ _ _ _ _ _ _ _ _ _ _ _ _ _ _ _ _ _ _ _ _ _ _ _ _ _ _ _ _ _ _ _ _ _ _ _ _ _ _ _ _ _ _ _ _ _ _ _ _ _ _ _ _ _ _ _ _ _ _ (c3 W hR)
  by_cases hk3 : kd = 3
  · by_cases hn0 : nn < 0
    · obtain ⟨R1, R2, c1, c2, c3⟩ := Tx.noPair World.drew Tx.dr1 SIT U5 hcj h1 h2 _ _ _ _ _ _ _ (fun W h ho => Tx.Within_no (Tx.take_neg h nn hn0) ho) (fun W h => Tx.RTake_neg h nn hn0)
      refine Tx.kWithinNo _ w5 gx capx gy capy N j q8 bx bz nn 16 R1 R2 (by decide) hj px5 kd hk3 o2 c1 c2 ?_
      intros
      rename_i W hR
      exact HQ.out _ _ _ _ _ _ _ _ _ _ _ _ _ _ _ _ _ _ _ _ _ _ _ _ _ _ _ _ _ _ _ _ _ _ _ _ _ _ _ _ _ _ _ _ _ _ _ _ _ _ _ _ _ _ _ _ _ _ _ _ _ _ _ _ _ _ _ _ _ _ _ _ _ _ _ _ _ _ _ _ _ _ _ _ _ _ _ _ _ _ _ _ _ _ _ _ _ _ _ _ _ _ _ _ _ _ _ _ _ _ _ _ _ _ _ _ _ _ _ _ _ _ _ _ _ _ _ _ _ _ _ _ _ _ _ _ _ _ _ _ _ _ _ _ _ _ _ _ _ _ _ _ _ _ _ _ _ _ (c3 W hR)
    by_cases hn1 : ((t.size - k : Nat) : Int) < nn
    · obtain ⟨R1, R2, c1, c2, c3⟩ := Tx.noPair World.drew Tx.dr1 SIT U5 hcj h1 h2 _ _ _ _ _ _ _ (fun W h ho => Tx.Within_no (Tx.take_end (L := t.size - k) h (by omega) hL nn (by omega) hn1) ho) (fun W h => Tx.RTake_end (L := t.size - k) h (by omega) hL nn (by omega) hn1)
      refine Tx.kWithinNo _ w5 gx capx gy capy N j q8 bx bz nn 15 R1 R2 (by decide) hj px5 kd hk3 o2 c1 c2 ?_
      intros
      rename_i W hR
      exact HQ.out _ _ _ _ _ _ _ _ _ _ _ _ _ _ _ _ _ _ _ _ _ _ _ _ _ _ _ _ _ _ _ _ _ _ _ _ _ _ _ _ _ _ _ _ _ _ _ _ _ _ _ _ _ _ _ _ _ _ _ _ _ _ _ _ _ _ _ _ _ _ _ _ _ _ _ _ _ _ _ _ _ _ _ _ _ _ _ _ _ _ _ _ _ _ _ _ _ _ _ _ _ _ _ _ _ _ _ _ _ _ _ _ _ _ _ _ _ _ _ _ _ _ _ _ _ _ _ _ _ _ _ _ _ _ _ _ _ _ _ _ _ _ _ _ _ _ _ _ _ _ _ _ _ _ _ _ _ _ (c3 W hR)
    · obtain ⟨m, rfl⟩ := Int.eq_ofNat_of_zero_le (by omega : 0 ≤ nn)
      obtain ⟨tw, R1, ht2, c1, c2⟩ := Tx.stepWithin h0 m SIT U5 hcj hgx hgy (by omega)
      refine Tx.kWithinOk _ w5 gx capx gy capy N j q8 bx bz (m : Int) w (Tx.upd ⟨bx, bz, t, k⟩ (k + m) cs) n tw R1 h0 (by rw [Tx.upd_len]; exact h2) (by rw [Tx.upd_len]; exact hl2) ht2 hj px5 kd hk3 o2 c1 c2 ?_
      intros
      rename_i hR
      exact HQ.out _ _ _ _ _ _ _ _ _ _ _ _ _ _ _ _ _ _ _ _ _ _ _ _ _ _ _ _ _ _ _ _ _ _ _ _ _ _ _ _ _ _ _ _ _ _ _ _ _ _ _ _ _ _ _ _ _ _ _ _ _ _ _ _ _ _ _ _ _ _ _ _ _ _ _ _ _ _ _ _ _ _ _ _ _ _ _ _ _ _ _ _ _ _ _ _ _ _ _ _ _ _ _ _ _ _ _ _ _ _ _ _ _ _ _ _ _ _ _ _ _ _ _ _ _ _ _ _ _ _ _ _ _ _ _ _ _ _ _ _ _ _ _ _ _ _ _ _ _ _ _ _ _ _ _ _ _ _ hR
  by_cases hk4 : kd = 4
  · obtain ⟨R1, c1, c2⟩ := Tx.stepClone SIT U5 hcj hgx hgy
    refine Tx.kClone _ w5 gx capx gy capy N j q8 bx bz nn w cs n k t R1 h0 hkt h2 hl2 htz hj px5 kd hk4 c1 c2 ?_
    intros
    rename_i hR
    exact HQ.out _ _ _ _ _ _ _ _ _ _ _ _ _ _ _ _ _ _ _ _ _ _ _ _ _ _ _ _ _ _ _ _ _ _ _ _ _ _ _ _ _ _ _ _ _ _ _ _ _ _ _ _ _ _ _ _ _ _ _ _ _ _ _ _ _ _ _ _ _ _ _ _ _ _ _ _ _ _ _ _ _ _ _ _ _ _ _ _ _ _ _ _ _ _ _ _ _ _ _ _ _ _ _ _ _ _ _ _ _ _ _ _ _ _ _ _ _ _ _ _ _ _ _ _ _ _ _ _ _ _ _ _ _ _ _ _ _ _ _ _ _ _ _ _ _ _ _ _ _ _ _ _ _ _ _ _ _ _ hR
  refine Tx.kNone _ w5 gx capx gy capy N j q8 bx bz nn kd hk0 hk1 hk2 hk3 hk4 hj px5 ?_
  intros
  exact HQ.out _ _ _ _ _ _ _ _ _ _ _ _ _ _ _ _ _ _ _ _ _ _ _ _ _ _ _ _ _ _ _ _ _ _ _ _ _ _ _ _ _ _ _ _ _ _ _ _ _ _ _ _ _ _ _ _ _ _ _ _ _ _ _ _ _ _ _ _ _ _ _ _ _ _ _ _ _ _ _ _ _ _ _ _ _ _ _ _ _ _ _ _ _ _ _ _ _ _ _ _ _ _ _ _ _ _ _ _ _ _ _ _ _ _ _ _ _ _ _ _ _ _ _ _ _ _ _ _ _ _ _ _ _ _ _ _ _ _ _ _ _ _ _ _ _ _ _ _ _ _ _ _ _ _ _ _ _ _ (SIT.left U5 h1 h2)
end Go.Proofs.YtbemgeicpbcdhaaDoor
