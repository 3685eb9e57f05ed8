/- The reference's FromHex (out of the texts of layer 1). -/
import Derived.Test.YthlecdggkolgmaaGreatDoorRsE
import Derived.Test.YthlecdggkolgmaaGreatDoorRsD
import Derived.Lib.Bytealg
import Derived.StillTailTactics
import Derived.Deep.QuietTactic
import Derived.Laws.AppendOwnNone
namespace Go.Proofs.YthlecdggkolgmaaGreatDoor
open Go.RowKit
theorem Tx.ba_ext {a b : ByteArray} (h : a.data.toList = b.data.toList) : a = b := by
  cases a; cases b; simp only [ByteArray.mk.injEq]; exact Array.toList_inj.1 h
def Tx.hexDigits : List UInt8 := [48,49,50,51,52,53,54,55,56,57,97,98,99,100,101,102]
def Tx.hd (k : Nat) : UInt8 := Tx.hexDigits.getD k 0
def Tx.hexL : List UInt8 → List UInt8
  | [] => []
  | c :: r => Tx.hd (c.toNat / 16) :: Tx.hd (c.toNat % 16) :: Tx.hexL r
/-- The value of a digit. -/
def Tx.unhd (c : UInt8) : Option Nat := if 48 ≤ c.toNat ∧ c.toNat ≤ 57 then some (c.toNat - 48) else if 97 ≤ c.toNat ∧ c.toNat ≤ 102 then some (c.toNat - 87) else none
def Tx.unpair (a b : UInt8) : Option UInt8 := match Tx.unhd a,Tx.unhd b with
  | some h,some l => some (UInt8.ofNat (16 * h + l))
  | _,_ => none
def Tx.unhexL : List UInt8 → Option (List UInt8)
  | [] => some []
  | [_] => none
  | a :: b :: r => match Tx.unpair a b,Tx.unhexL r with
    | some c,some t => some (c :: t)
    | _,_ => none

theorem Tx.hexL_append (a b : List UInt8) : Tx.hexL (a ++ b) = Tx.hexL a ++ Tx.hexL b := by
  induction a with
  | nil => rfl
  | cons c r ih => simp [Tx.hexL,ih]
theorem Tx.hexL_length (a : List UInt8) : (Tx.hexL a).length = 2 * a.length := by
  induction a with
  | nil => rfl
  | cons c r ih => simp [Tx.hexL,ih]; omega
theorem Tx.hexL_snoc (l : List UInt8) (k : Nat) (h : k < l.length) : Tx.hexL (l.take (k + 1)) = Tx.hexL (l.take k) ++ [Tx.hd (l[k].toNat / 16),Tx.hd (l[k].toNat % 16)] := by
  rw [List.take_succ_eq_append_getElem h,Tx.hexL_append]; rfl
theorem Tx.hd_get (i : Nat) (h : i < (⟨#[48,49,50,51,52,53,54,55,56,57,97,98,99,100,101,102]⟩ : ByteArray).size) : (⟨#[48,49,50,51,52,53,54,55,56,57,97,98,99,100,101,102]⟩ : ByteArray)[i]'h = Tx.hd i := by
  have h' : i < Tx.hexDigits.length := h
  show Tx.hexDigits[i] = Tx.hexDigits.getD i 0
  rw [List.getD_eq_getElem?_getD,List.getElem?_eq_getElem h']; rfl

def Tx.hexB (s : ByteArray) : ByteArray := Tx.ba (Tx.hexL s.data.toList)
theorem Tx.ba_size (l : List UInt8) : (Tx.ba l).size = l.length := by rw [← Tx.len]; rfl
theorem Tx.eq_toList (a b : ByteArray) : (a.toList == b.toList) = decide (a = b) := by
  by_cases h : a = b
  · subst h; simp
  · rw [decide_eq_false h,beq_eq_false_iff_ne]
    intro he
    apply h
    apply Tx.ba_ext
    simpa [ByteArray.toList_eq] using he
def Tx.iv (z : Int) : Value := .int .i64 z
/-- Slice value v holds the ints l in a row of the call's own, from block B on. -/
def Tx.OwnI (w : World) (B : Nat) (v : Value) (l : List Int) : Prop := w.ownsRow B 3 1 v l.length (l.map Tx.iv)
theorem Tx.infoI : (Tryz.prog.info? 3).map (fun i => (i.zero,i.size,i.bytes)) = some (some (.int .i64 0),1,8) := by kernel_rfl
theorem Tx.OwnI.nil (w : World) (B : Nat) : Tx.OwnI w B (.slice none 0 0) [] := World.ownsRow_nil w B _ _
theorem Tx.OwnI.below {w w' : World} {B B' : Nat} {v : Value} {l : List Int} (h : Tx.OwnI w B v l) (hb : Below B' w w') (hB : w.heap.size ≤ B') : Tx.OwnI w' B v l := by
  refine ⟨h.1,?_⟩
  rcases h.2 with hn | ⟨g,cap,cur,rfl,hg,hgg,rest⟩
  · exact .inl hn
  · refine .inr ⟨g,cap,cur,rfl,hg,?_,rest⟩
    rw [hb.block g (Nat.lt_of_lt_of_le (Array.getElem?_eq_some_iff.1 hgg).1 hB)]
    exact hgg
theorem Tx.OwnI.drew {w : World} {B : Nat} {v : Value} {l : List Int} (h : Tx.OwnI w B v l) : Tx.OwnI w.drew B v l := h
theorem Tx.OwnI.drewN {w : World} {B : Nat} {v : Value} {l : List Int} (h : Tx.OwnI w B v l) : ∀ n,Tx.OwnI (w.drewN n) B v l
  | 0 => h
  | n + 1 => (Tx.OwnI.drewN h n).drew
theorem Tx.OwnI.alloc {w : World} {B : Nat} {v : Value} {l : List Int} (h : Tx.OwnI w B v l) (o : Obj) : Tx.OwnI (w.alloc o) B v l := World.ownsRow.alloc h o
theorem Tx.OwnI.mono {w : World} {B B' : Nat} {v : Value} {l : List Int} (h : Tx.OwnI w B v l) (hB : B' ≤ B) : Tx.OwnI w B' v l := by
  refine ⟨h.1,?_⟩
  rcases h.2 with hn | ⟨g,cap,cur,rfl,hg,rest⟩
  · exact .inl hn
  · exact .inr ⟨g,cap,cur,rfl,Nat.le_trans hB hg,rest⟩

/-- Slice value v reads as the ints zs, its block below B. -/
def Tx.Ints (w : World) (B : Nat) (v : Value) (zs : List Int) : Prop :=
  (v = .slice none 0 0 ∧ zs = []) ∨ ∃ b off cap,v = .slice (some ⟨b,off,none⟩) zs.length cap ∧ zs.length ≤ cap ∧ cap ≤ 9223372036854775807 ∧ b < B ∧ ∀ j,j < zs.length → w.cell? ⟨b,off + j,none⟩ = some (.int .i64 (zs.getD j 0))
theorem Tx.Ints.below {w w' : World} {B B' : Nat} {v : Value} {zs : List Int} (h : Tx.Ints w B v zs) (hb : Below B' w w') (hB : B ≤ B') : Tx.Ints w' B v zs := by
  rcases h with h | ⟨b,off,cap,h1,h2,h2',h3,h4⟩
  · exact .inl h
  · exact .inr ⟨b,off,cap,h1,h2,h2',h3,fun j hj => (hb.cell (p := ⟨b,off + j,none⟩) (by simp; omega)).trans (h4 j hj)⟩
theorem Tx.Ints.mono {w : World} {B B' : Nat} {v : Value} {zs : List Int} (h : Tx.Ints w B v zs) (hB : B ≤ B') : Tx.Ints w B' v zs := by
  rcases h with h | ⟨b,off,cap,h1,h2,h2',h3,h4⟩
  · exact .inl h
  · exact .inr ⟨b,off,cap,h1,h2,h2',by omega,h4⟩
theorem Tx.OwnI.ints {w : World} {B : Nat} {v : Value} {l : List Int} (h : Tx.OwnI w B v l) : Tx.Ints w w.heap.size v l := by
  rcases h.2 with ⟨hv,hn⟩ | ⟨g,cap,cur,hv,hg,hgg,hc,hm,hs,ht⟩
  · exact .inl ⟨hv,List.length_eq_zero_iff.1 hn⟩
  · refine .inr ⟨g,0,cap,hv,hc,by unfold maxLen at hm; omega,(Array.getElem?_eq_some_iff.1 hgg).1,fun j hj => ?_⟩
    have e := congrArg (·[j]?) ht
    simp only [List.getElem?_take,List.getElem?_map] at e
    rw [if_pos (by omega),List.getElem?_eq_getElem hj] at e
    simp only [Array.getElem?_toList,Option.map_some] at e
    simp [World.cell?,hgg,e,Tx.iv,List.getD_eq_getElem?_getD,List.getElem?_eq_getElem hj]

section
variable {w : World} {ops : Array Oper} {rest : List Oper} {o : Oper} {a : Act} {Q : Exit → Act → World → Prop}
/-- append of some ints to what the call owns. -/
theorem Tx.appendI (hg : o.guard = none) (s x : Operand) (hop : o.op = .call { callee := .builtin .append,args := #[s,x],argTypes := #[138,138] }) (B : Nat) (v : Value) (l : List Int) (hs : a.eval s = v) (hown : Tx.OwnI w B v l)
    (ad : Addr) (c : Nat) (bs : List Int) (hx : a.eval x = .slice (some ad) bs.length c) (hnew : ∀ j u,(bs.map Tx.iv)[j]? = some u → w.cell? (ad.add j) = some u) (hlen : l.length + bs.length ≤ 17592186044416) (hB : B ≤ w.heap.size)
    (hK : ∀ v' w',Tx.OwnI w' B v' (l ++ bs) → Below B w w' → B ≤ w'.heap.size → wpList Tryz.prog ops Q rest (a.put o.dst v') w') : wpList Tryz.prog ops Q (o :: rest) a w := by
  obtain ⟨i0,hi,hz0,hz1,hz2⟩ := info_parts Tx.infoI
  refine wpList_append_own w hg s x 138 hop B 3 i0 (.int .i64 0) 1 8 Tryz.underlying138 hi hz0 hz1 hz2 rfl (by decide) v l.length (l.map Tx.iv) hs hown ad bs.length c (bs.map Tx.iv) hx (by simp) hnew (by intro u hu; obtain ⟨b,_,rfl⟩ := List.mem_map.1 hu; rfl) (by unfold maxLen; omega) (by omega) hB ?_
  intro v' w' h1 h2 _
  refine hK v' w' ?_ ((Below.refl _ _).grown h2 hB fun k hk => (World.ownsRow.lt hown k hk).1) (Nat.le_trans hB h2.size)
  simpa [Tx.OwnI] using h1
end
theorem Tx.o8 (n : Nat) (h : n < 256) : (UInt8.ofNat n).toNat = n := by simp; omega
theorem Tx.OwnI.empty (w : World) (B : Nat) (hB : B ≤ w.heap.size) : Tx.OwnI (w.alloc (.cells #[] 3)) B (.slice (some ⟨w.heap.size,0,none⟩) 0 0) [] :=
  World.ownsRow_made w #[] 0 hB (by unfold maxLen; omega) rfl

theorem Tx.Own.empty (w : World) (B : Nat) (hB : B ≤ w.heap.size) : Tx.Own (w.alloc (.cells #[] 5)) B (.slice (some ⟨w.heap.size,0,none⟩) 0 0) [] :=
  World.ownsRow_made w #[] 0 hB (by unfold maxLen; omega) rfl

set_option maxHeartbeats 4000000 in
set_option maxRecDepth 100000 in
theorem Tx.RHex_any (s : ByteArray) (w : World) (hs : s.size ≤ 70368744177664) :
    Calls Tryz.prog 61 #[.string s] w fun e w' => e = .returned (.string (Tx.ba (Tx.hexL s.data.toList))) ∧ Below w.heap.size w w' := by
  go_enter Tryz.func61,Tryz.ntmps61
  have hown0 := Tx.Own.empty w w.heap.size (Nat.le_refl _)
  go_wp2_with fail
  go_loopw [3,4] (fun v i wr => ∃ k : Nat,k ≤ s.size ∧ i = .int .i64 k ∧ Tx.Own wr w.heap.size v (Tx.hexL (s.data.toList.take k)) ∧ Below w.heap.size w wr) (fun _ i _ => s.size - (intOf i).toNat)
  case atStart => exact ⟨0,Nat.zero_le _,rfl,by simpa [Tx.hexL] using hown0,(Below.refl _ _).alloc (Nat.le_refl _) _⟩
  case round =>
    obtain ⟨k,hk,rfl,hown,hb⟩ := hrel
    by_cases hlt : k < s.size
    · have hlz : (k : Int) < (s.size : Int) := by omega
      go_wp2_with fail
      have q1 : (s[k].toNat : Int) / 16 < 16 := by have := s[k].toNat_lt; omega
      have q2 : 0 ≤ (s[k].toNat : Int) / 16 := by omega
      have q4 : (s[k].toNat : Int) % 16 < 16 := by omega
      have q5 : 0 ≤ (s[k].toNat : Int) % 16 := by omega
      have q0 : 0 ≤ (s[k].toNat : Int) := by omega
      have q6 : IntKind.u8.wrap ((s[k].toNat : Int) / 16) = (s[k].toNat : Int) / 16 := by rw [IntKind.wrap_u8]; omega
      have q7 : Int.tmod (s[k].toNat : Int) 16 = (s[k].toNat : Int) % 16 := Int.tmod_eq_emod_of_nonneg (by omega)
      have hl := Tx.hexL_length (s.data.toList.take k)
      have hl2 : (s.data.toList.take k).length ≤ k := List.length_take_le _ _
      have HL : (Tx.hexL (s.data.toList.take k)).length + 2 ≤ 140737488355328 := by omega
      clear hl hl2
      go_region_held3 (fun _ => True) (trivial) ((refine Tx.append_step rfl _ _ rfl w.heap.size u3 (Tx.hexL (s.data.toList.take k)) (by rfl) ((hown.alloc _).drew) ⟨wr.heap.size,0,none⟩ 2 [_,_] (by rfl) (World.news_of_block (heap_alloc_new wr _)) (by simp) HL (by have := hb.size; simp; omega) ?_; intro v1 w1 hown1 hb1 hz1))
      all_goals
        go_wp2
        refine ⟨⟨k + 1,by omega,by go_num,?_,((hb.alloc hb.size _).drew).trans hb1⟩,by simp [intOf]; omega⟩
        rw [Tx.hexL_snoc _ k (by simpa using hlt),Tx.get s k hlt]
        rw [Tx.hd_get,Tx.hd_get] at hown1
        rw [show ((s[k].toNat : Int) / 16).toNat = s[k].toNat / 16 by omega,show ((s[k].toNat : Int) % 16).toNat = s[k].toNat % 16 by omega] at hown1
        exact hown1
    · obtain rfl : k = s.size := by omega
      have hcv := hown.conv
      rw [Tx.take_all] at hcv
      go_wp2
      go_ret
      exact ⟨rfl,hb⟩
set_option maxRecDepth 100000 in
theorem Tx.and1 : ∀ X : Fin 256,bits .and .i64 ((X.val : Nat) : Int) 1 = ((X.val % 2 : Nat) : Int) := by decide

/-- The bit k of bytes. -/
def Tx.bitN (l : List UInt8) (k : Nat) : Nat := match l[k / 8]? with | some c => c.toNat / 2 ^ (7 - k % 8) % 2 | none => 0
theorem Tx.indexByte_at (c : UInt8) : ∀ (l : List UInt8) (k : Nat),l[k]? = some c → (∀ j : Nat,j < k → l[j]? ≠ some c) → Lib.indexByte l c = (k : Int)
  | [],k,h,_ => by simp at h
  | b :: l,0,h,_ => by
    have : b = c := by simpa using h
    simp [Lib.indexByte,this]
  | b :: l,k + 1,h,hno => by
    have hb : ¬ b = c := fun e => hno 0 (by omega) (by simp [e])
    have ih := Tx.indexByte_at c l k (by simpa using h) (fun j hj => by have := hno (j + 1) (by omega); simpa using this)
    simp only [Lib.indexByte,ih]
    rw [if_neg (by simpa using hb),if_neg (by simp)]
    omega
theorem Tx.indexByte_no (c : UInt8) : ∀ (l : List UInt8),(∀ j : Nat,j < l.length → l[j]? ≠ some c) → Lib.indexByte l c = -1
  | [],_ => rfl
  | b :: l,hno => by
    have hb : ¬ b = c := fun e => hno 0 (by simp) (by simp [e])
    have ih := Tx.indexByte_no c l (fun j hj => by have := hno (j + 1) (by simpa using hj); simpa using this)
    simp only [Lib.indexByte,ih]
    rw [if_neg (by simpa using hb)]
    rfl

set_option maxHeartbeats 4000000 in
set_option maxRecDepth 100000 in
theorem Tx.place_any (s : ByteArray) (c : UInt8) (hs : s.size ≤ 9223372036854775807) (w : World) :
    Calls Tryz.prog 87 #[.string s,.int .u8 (c.toNat : Int)] w fun e w' => e = .returned (.int .i64 (Lib.indexByte s.data.toList c)) ∧ w = w' := by
  go_enter Tryz.func87,Tryz.ntmps87
  go_wp2_with fail
  go_loopw [5] (fun i wr => ∃ k : Nat,k ≤ s.size ∧ i = .int .i64 k ∧ Hid (∀ j : Nat,j < k → s.data.toList[j]? ≠ some c) ∧ w = wr) (fun i _ => s.size - (intOf i).toNat)
  case atStart => exact ⟨0,Nat.zero_le _,rfl,Lib.hid (fun j hj => by omega),rfl⟩
  case round =>
    obtain ⟨k,hk,rfl,hno,rfl⟩ := hrel
    by_cases hlt : k < s.size
    · have hlz : (k : Int) < (s.size : Int) := by omega
      by_cases hc : s[k] = c
      · have te : ((s[k].toNat : Int) == (c.toNat : Int)) = true := by rw [hc]; simp
        have hi := Tx.indexByte_at c s.data.toList k (by rw [List.getElem?_eq_getElem (by rw [Tx.len]; exact hlt)]; exact congrArg some hc) hno.out
        have HI := Lib.hid hi
        clear hi hc
        go_wp2
        go_ret
        exact ⟨by rw [HI.out]; rfl,rfl⟩
      · have te : ((s[k].toNat : Int) == (c.toNat : Int)) = false := by
          rw [beq_eq_false_iff_ne]
          intro e
          exact hc (UInt8.toNat_inj.1 (by omega))
        have hno' := Lib.hid (show ∀ j : Nat,j < k + 1 → s.data.toList[j]? ≠ some c from fun j hj e => by
          by_cases hj2 : j < k
          · exact hno.out j hj2 e
          · obtain rfl : j = k := by omega
            rw [List.getElem?_eq_getElem (by rw [Tx.len]; exact hlt)] at e
            exact hc (Option.some.inj e))
        clear hc
        go_wp2
        exact ⟨⟨k + 1,by omega,by go_num,hno',trivial⟩,by simp [intOf]; omega⟩
    · obtain rfl : k = s.size := by omega
      have hi := Tx.indexByte_no c s.data.toList (fun j hj => hno.out j (by rw [Tx.len] at hj; exact hj))
      have HI := Lib.hid hi
      clear hi
      go_wp2
      go_ret
      exact ⟨by rw [HI.out]; rfl,rfl⟩
/-- The bits of a digit, the highest first. -/
def Tx.dbits (wide n t : Nat) : List Int := (List.range t).map fun i => ((n / 2 ^ (wide - 1 - i) % 2 : Nat) : Int)
theorem Tx.dbits_length (wide n t : Nat) : (Tx.dbits wide n t).length = t := by simp [Tx.dbits]
theorem Tx.dbits_snoc (wide n t : Nat) : Tx.dbits wide n (t + 1) = Tx.dbits wide n t ++ [((n / 2 ^ (wide - 1 - t) % 2 : Nat) : Int)] := by simp [Tx.dbits,List.range_succ]
def Tx.rbits (al : List UInt8) (wide : Nat) (l : List UInt8) : List Int := l.flatMap fun c => Tx.dbits wide (Lib.indexByte al c).toNat wide
theorem Tx.rbits_length (al : List UInt8) (wide : Nat) (l : List UInt8) : (Tx.rbits al wide l).length = wide * l.length := by
  induction l with
  | nil => simp [Tx.rbits]
  | cons c l ih =>
    rw [show Tx.rbits al wide (c :: l) = Tx.dbits wide (Lib.indexByte al c).toNat wide ++ Tx.rbits al wide l by simp [Tx.rbits],List.length_append,ih,Tx.dbits_length,List.length_cons,Nat.mul_succ,Nat.add_comm]
theorem Tx.rbits_snoc (al : List UInt8) (wide : Nat) (l : List UInt8) (k : Nat) (c : UInt8) (h : l[k]? = some c) : Tx.rbits al wide (l.take (k + 1)) = Tx.rbits al wide (l.take k) ++ Tx.dbits wide (Lib.indexByte al c).toNat wide := by
  rw [List.take_add_one,h]
  simp [Tx.rbits]
theorem Tx.place_lt (al : List UInt8) (c : UInt8) : Lib.indexByte al c < (al.length : Int) ∨ al = [] := by
  induction al with
  | nil => exact .inr rfl
  | cons b l ih =>
    left
    simp only [Lib.indexByte,List.length_cons]
    split
    · omega
    · split
      · omega
      · rcases ih with h | rfl
        · omega
        · simp [Lib.indexByte]

theorem Tx.rbits_01 (al : List UInt8) (wide : Nat) (l : List UInt8) : ∀ z ∈ Tx.rbits al wide l,z = 0 ∨ z = 1 := by
  intro z hz
  obtain ⟨c,_,h⟩ := List.mem_flatMap.1 hz
  obtain ⟨i,_,rfl⟩ := List.mem_map.1 h
  have := Nat.mod_lt ((Lib.indexByte al c).toNat / 2 ^ (wide - 1 - i)) (by decide : 0 < 2)
  omega
/-- The number that j bits from k on say. -/
def Tx.bsum (bits : List Int) (k : Nat) : Nat → Int
  | 0 => 0
  | j + 1 => 2 * Tx.bsum bits k j + bits.getD (k + j) 0
theorem Tx.getD_01 {bits : List Int} (h : ∀ z ∈ bits,z = 0 ∨ z = 1) (j : Nat) : bits.getD j 0 = 0 ∨ bits.getD j 0 = 1 := by
  rw [List.getD_eq_getElem?_getD]
  rcases hj : bits[j]? with _ | z
  · exact .inl rfl
  · exact h z (List.mem_of_getElem? hj)
theorem Tx.bsum_lt {bits : List Int} (h : ∀ z ∈ bits,z = 0 ∨ z = 1) (k : Nat) : ∀ j,0 ≤ Tx.bsum bits k j ∧ Tx.bsum bits k j < ((2 ^ j : Nat) : Int)
  | 0 => by simp [Tx.bsum]
  | j + 1 => by
    have h1 := Tx.bsum_lt h k j
    have h2 := Tx.getD_01 h (k + j)
    rw [Nat.pow_succ]
    show 0 ≤ 2 * Tx.bsum bits k j + bits.getD (k + j) 0 ∧ 2 * Tx.bsum bits k j + bits.getD (k + j) 0 < _
    omega
/-- The first m whole bytes that bits say. -/
def Tx.rbytes (bits : List Int) (m : Nat) : List UInt8 := (List.range m).map fun i => UInt8.ofNat (Tx.bsum bits (8 * i) 8).toNat
theorem Tx.rbytes_length (bits : List Int) (m : Nat) : (Tx.rbytes bits m).length = m := by simp [Tx.rbytes]
theorem Tx.rbytes_snoc (bits : List Int) (m : Nat) : Tx.rbytes bits (m + 1) = Tx.rbytes bits m ++ [UInt8.ofNat (Tx.bsum bits (8 * m) 8).toNat] := by simp [Tx.rbytes,List.range_succ]

set_option maxHeartbeats 8000000 in
set_option maxRecDepth 100000 in
theorem Tx.read_any (s al : ByteArray) (wide : Nat) (w : World) (hs : s.size ≤ 1099511627776) (hal : al.size ≤ 64) (hw1 : 1 ≤ wide) (hw8 : wide ≤ 6) :
    Calls Tryz.prog 60 #[.string s,.string al,.int .i64 (wide : Int)] w fun e w' =>
      (((∃ c ∈ s.data.toList,Lib.indexByte al.data.toList c < 0) ∧ e = .returned (.tuple #[.string ⟨#[]⟩,.bool false])) ∨
       ((∀ c ∈ s.data.toList,0 ≤ Lib.indexByte al.data.toList c) ∧ e = .returned (.tuple #[.string (Tx.ba (Tx.rbytes (Tx.rbits al.data.toList wide s.data.toList) ((wide * s.size) / 8))),.bool true]))) ∧ Below w.heap.size w w' := by
  have cp := fun c w => Tx.place_any al c (by omega) w
  have CP := Lib.hid cp
  clear cp
  have f0 : IntKind.i64.wrap ((wide : Int) - 1) = (wide : Int) - 1 := IntWalk.i64_in _ (by omega)
  go_enter Tryz.func60,Tryz.ntmps60
  have hown0 := Tx.OwnI.empty w w.heap.size (Nat.le_refl _)
  go_wp2_with fail
  go_loopw [8,9] (fun v i wr => ∃ k : Nat,k ≤ s.size ∧ i = .int .i64 k ∧ Tx.OwnI wr w.heap.size v (Tx.rbits al.data.toList wide (s.data.toList.take k)) ∧ Hid (∀ c ∈ s.data.toList.take k,0 ≤ Lib.indexByte al.data.toList c) ∧ Below w.heap.size w wr) (fun _ i _ => s.size - (intOf i).toNat)
  case atStart => exact ⟨0,Nat.zero_le _,rfl,by simpa [Tx.rbits] using hown0,Lib.hid (by simp),(Below.refl _ _).alloc (Nat.le_refl _) _⟩
  case round =>
    obtain ⟨k,hk,rfl,hown,hall,hb⟩ := hrel
    by_cases hlt : k < s.size
    · have hlz : (k : Int) < (s.size : Int) := by omega
      obtain ⟨c,hc⟩ : ∃ c,s[k] = c := ⟨_,rfl⟩
      have hgk : s.data.toList[k]? = some c := by rw [List.getElem?_eq_getElem (by rw [Tx.len]; exact hlt)]; exact congrArg some hc
      have hsn := Tx.rbits_snoc al.data.toList wide s.data.toList k c hgk
      have hlen := Tx.rbits_length al.data.toList wide (s.data.toList.take k)
      have hlen2 : (s.data.toList.take k).length ≤ k := List.length_take_le _ _
      have hlen3 : (Tx.rbits al.data.toList wide (s.data.toList.take k)).length ≤ 6 * k := by
        rw [hlen]; exact Nat.mul_le_mul hw8 hlen2
      have hcp := CP.out c wr
      have hpl := Tx.place_lt al.data.toList c
      have hge := Lib.indexByte_ge al.data.toList c
      have HSN := Lib.hid hsn
      have HC := Lib.hid hcp
      have HGK := Lib.hid hgk
      clear hsn hcp hgk hlen hlen2
      by_cases hneg : Lib.indexByte al.data.toList c < 0
      · have hex : Hid (∃ c ∈ s.data.toList,Lib.indexByte al.data.toList c < 0) := Lib.hid ⟨c,List.mem_of_getElem? HGK.out,hneg⟩
        generalize Lib.indexByte al.data.toList c = x at *
        clear hpl hge HSN HGK
        go_wp2_with fail
        refine HC.out.mono ?_
        rintro e w1 ⟨rfl,rfl⟩
        go_wp2_with fail
        go_ret2
        exact ⟨.inl ⟨hex.out,rfl⟩,hb⟩
      · obtain ⟨n,hn⟩ := Int.eq_ofNat_of_zero_le (by omega : 0 ≤ Lib.indexByte al.data.toList c)
        have hn64 : n < 64 := by
          rcases hpl with h | h
          · rw [Tx.len] at h; omega
          · rw [h] at hn; simp [Lib.indexByte] at hn
        have HIN := Lib.hid (show 0 ≤ Lib.indexByte al.data.toList c by omega)
        have hsn2 := HSN.out
        rw [hn,show (n : Int).toNat = n from rfl] at hsn2
        have HS2 := Lib.hid hsn2
        have hc2 := HC.out
        rw [hn] at hc2
        have HC2 := Lib.hid hc2
        generalize Tx.rbits al.data.toList wide (s.data.toList.take k) = B at *
        clear hpl hge HSN HC hsn2 hc2 hn hneg
        go_wp2_with fail
        refine HC2.out.mono ?_
        rintro e w1 ⟨rfl,rfl⟩
        go_wp2_with fail
        go_loopw [8,11] (fun v j wx => ∃ t : Nat,t ≤ wide ∧ j = .int .i64 ((wide : Int) - 1 - (t : Int)) ∧ Tx.OwnI wx w.heap.size v (B ++ Tx.dbits wide n t) ∧ Below w.heap.size w wx) (fun _ j _ => (intOf j + 1).toNat)
        case atStart => exact ⟨0,Nat.zero_le _,by simp,by simpa [Tx.dbits] using hown,hb⟩
        case round =>
          obtain ⟨t,ht,rfl,hown2,hb2⟩ := hrel
          by_cases htl : t < wide
          · obtain ⟨J,hJ⟩ : ∃ J : Nat,(wide : Int) - 1 - (t : Int) = (J : Int) := Int.eq_ofNat_of_zero_le (by omega)
            have EJ := Lib.hid (show wide - 1 - t = J by omega)
            have hdl := Tx.dbits_length wide n t
            have HL : (B ++ Tx.dbits wide n t).length + [()].length ≤ 17592186044416 := by rw [List.length_append,hdl]; simp; omega
            have g : ∀ d : Nat,bits BinOp.and IntKind.i64 ((n : Int) / (d : Int)) 1 = ((n / d % 2 : Nat) : Int) := by
              intro d
              have := Tx.and1 ⟨n / d,by have := Nat.div_le_self n d; omega⟩
              simpa using this
            have g1 : bits BinOp.and IntKind.i64 (n : Int) 1 = ((n / 1 % 2 : Nat) : Int) := by
              have := Tx.and1 ⟨n,by omega⟩
              simpa using this
            have G := Lib.hid g
            have G1 := Lib.hid g1
            have hJ5 : J = 0 ∨ J = 1 ∨ J = 2 ∨ J = 3 ∨ J = 4 ∨ J = 5 := by omega
            clear g g1 hdl
            rw [hJ]
            rcases hJ5 with rfl | rfl | rfl | rfl | rfl | rfl
            · go_wp2_with (at_builtin; refine Tx.appendI rfl _ _ rfl w.heap.size _ _ rfl (Tx.OwnI.alloc hown2 _) ⟨_,0,none⟩ 1 [_] rfl (World.news_of_block (heap_alloc_new _ _)) HL (by have := hb2.size; simp; omega) ?_; intro v1 w1 hown3 hb3 hz3)
              refine ⟨⟨t + 1,by omega,congrArg (Value.int .i64) (by omega),?_,(hb2.alloc hb2.size _).trans hb3⟩,by simp [intOf]; try omega⟩
              rw [Tx.dbits_snoc,EJ.out,← List.append_assoc]
              exact (congrArg (fun z => Tx.OwnI w1 w.heap.size v1 (B ++ Tx.dbits wide n t ++ [z])) G1.out).mp hown3
            · go_wp2_with (at_builtin; refine Tx.appendI rfl _ _ rfl w.heap.size _ _ rfl (Tx.OwnI.alloc hown2 _) ⟨_,0,none⟩ 1 [_] rfl (World.news_of_block (heap_alloc_new _ _)) HL (by have := hb2.size; simp; omega) ?_; intro v1 w1 hown3 hb3 hz3)
              refine ⟨⟨t + 1,by omega,congrArg (Value.int .i64) (by omega),?_,(hb2.alloc hb2.size _).trans hb3⟩,by simp [intOf]; try omega⟩
              rw [Tx.dbits_snoc,EJ.out,← List.append_assoc]
              exact (congrArg (fun z => Tx.OwnI w1 w.heap.size v1 (B ++ Tx.dbits wide n t ++ [z])) (G.out 2)).mp hown3
            · go_wp2_with (at_builtin; refine Tx.appendI rfl _ _ rfl w.heap.size _ _ rfl (Tx.OwnI.alloc hown2 _) ⟨_,0,none⟩ 1 [_] rfl (World.news_of_block (heap_alloc_new _ _)) HL (by have := hb2.size; simp; omega) ?_; intro v1 w1 hown3 hb3 hz3)
              refine ⟨⟨t + 1,by omega,congrArg (Value.int .i64) (by omega),?_,(hb2.alloc hb2.size _).trans hb3⟩,by simp [intOf]; try omega⟩
              rw [Tx.dbits_snoc,EJ.out,← List.append_assoc]
              exact (congrArg (fun z => Tx.OwnI w1 w.heap.size v1 (B ++ Tx.dbits wide n t ++ [z])) (G.out 4)).mp hown3
            · go_wp2_with (at_builtin; refine Tx.appendI rfl _ _ rfl w.heap.size _ _ rfl (Tx.OwnI.alloc hown2 _) ⟨_,0,none⟩ 1 [_] rfl (World.news_of_block (heap_alloc_new _ _)) HL (by have := hb2.size; simp; omega) ?_; intro v1 w1 hown3 hb3 hz3)
              refine ⟨⟨t + 1,by omega,congrArg (Value.int .i64) (by omega),?_,(hb2.alloc hb2.size _).trans hb3⟩,by simp [intOf]; try omega⟩
              rw [Tx.dbits_snoc,EJ.out,← List.append_assoc]
              exact (congrArg (fun z => Tx.OwnI w1 w.heap.size v1 (B ++ Tx.dbits wide n t ++ [z])) (G.out 8)).mp hown3
            · go_wp2_with (at_builtin; refine Tx.appendI rfl _ _ rfl w.heap.size _ _ rfl (Tx.OwnI.alloc hown2 _) ⟨_,0,none⟩ 1 [_] rfl (World.news_of_block (heap_alloc_new _ _)) HL (by have := hb2.size; simp; omega) ?_; intro v1 w1 hown3 hb3 hz3)
              refine ⟨⟨t + 1,by omega,congrArg (Value.int .i64) (by omega),?_,(hb2.alloc hb2.size _).trans hb3⟩,by simp [intOf]; try omega⟩
              rw [Tx.dbits_snoc,EJ.out,← List.append_assoc]
              exact (congrArg (fun z => Tx.OwnI w1 w.heap.size v1 (B ++ Tx.dbits wide n t ++ [z])) (G.out 16)).mp hown3
            · go_wp2_with (at_builtin; refine Tx.appendI rfl _ _ rfl w.heap.size _ _ rfl (Tx.OwnI.alloc hown2 _) ⟨_,0,none⟩ 1 [_] rfl (World.news_of_block (heap_alloc_new _ _)) HL (by have := hb2.size; simp; omega) ?_; intro v1 w1 hown3 hb3 hz3)
              refine ⟨⟨t + 1,by omega,congrArg (Value.int .i64) (by omega),?_,(hb2.alloc hb2.size _).trans hb3⟩,by simp [intOf]; try omega⟩
              rw [Tx.dbits_snoc,EJ.out,← List.append_assoc]
              exact (congrArg (fun z => Tx.OwnI w1 w.heap.size v1 (B ++ Tx.dbits wide n t ++ [z])) (G.out 32)).mp hown3
          · obtain rfl : t = wide := by omega
            have z0 : (t : Int) - 1 - (t : Int) < 0 := by omega
            have hall2 : Hid (∀ c' ∈ s.data.toList.take (k + 1),0 ≤ Lib.indexByte al.data.toList c') := Lib.hid (by
              intro c' hc'
              rw [List.take_add_one,HGK.out] at hc'
              rcases List.mem_append.1 hc' with h | h
              · exact hall.out c' h
              · have : c' = c := by simpa using h
                rw [this]; exact HIN.out)
            go_wp2_with fail
            exact ⟨⟨k + 1,by omega,by go_num,by rw [HS2.out]; exact hown2,hall2,hb2⟩,by simp [intOf]; omega⟩
    · obtain rfl : k = s.size := by omega
      have hlen := Tx.rbits_length al.data.toList wide s.data.toList
      rw [Tx.len] at hlen
      have h01 := Tx.rbits_01 al.data.toList wide s.data.toList
      have hl6 : wide * s.size ≤ 6 * s.size := Nat.mul_le_mul hw8 (Nat.le_refl _)
      rw [Tx.take_all] at hown hall
      obtain ⟨bits0,hbits⟩ : ∃ b,Tx.rbits al.data.toList wide s.data.toList = b := ⟨_,rfl⟩
      obtain ⟨L,hL⟩ : ∃ L,wide * s.size = L := ⟨_,rfl⟩
      rw [hbits] at hown hlen h01
      rw [hL] at hlen hl6
      have HF := Lib.hid (And.intro hbits hL)
      have H01 := Lib.hid h01
      have hin := hown.ints
      obtain ⟨w3,rfl⟩ : ∃ w3,w3 = wr := ⟨_,rfl⟩
      clear hbits hL h01 hown
      rcases hin with ⟨rfl,hbn⟩ | ⟨g,off,cap,rfl,h2,h2',h3,h4⟩
      · have hL0 : L = 0 := by rw [hbn] at hlen; simpa using hlen.symm
        have hcv := (Tx.Own.empty w3 w3.heap.size (Nat.le_refl _)).conv
        clear hlen
        go_wp2_with fail
        refine wp_loop_rounds 1 ?_
        rw [rounds_succ]
        go_wp2
        go_ret2
        refine ⟨.inr ⟨hall.out,?_⟩,hb.alloc hb.size _⟩
        rw [HF.out.1,HF.out.2,hL0]
        rfl
      · rw [hlen] at *
        have H4 := Lib.hid h4
        have HB := Lib.hid hlen
        have hown0' := Tx.Own.empty w3 w3.heap.size (Nat.le_refl _)
        clear h4 hlen
        go_wp2_with fail
        go_loopw [12,13] (fun v i wx => ∃ k m : Nat,k = 8 * m ∧ k ≤ L ∧ i = .int .i64 k ∧ Tx.Own wx w3.heap.size v (Tx.rbytes bits0 m) ∧ Below w3.heap.size w3 wx) (fun _ i _ => L + 8 - (intOf i).toNat)
        case atStart => exact ⟨0,0,rfl,Nat.zero_le _,rfl,by simpa [Tx.rbytes] using hown0',(Below.refl _ _).alloc (Nat.le_refl _) _⟩
        case round =>
          obtain ⟨k,m,hkm,hk,rfl,hown,hb3⟩ := hrel
          have e8 : IntKind.i64.wrap ((k : Int) + 8) = (k : Int) + 8 := IntWalk.i64_in _ (by omega)
          by_cases hlt : k + 8 ≤ L
          · have hlz : (k : Int) + 8 ≤ (L : Int) := by omega
            have HKM := Lib.hid hkm
            clear hkm
            obtain ⟨w4,rfl⟩ : ∃ w4,w4 = wr := ⟨_,rfl⟩
            go_wp2_with fail
            go_loopw [14,15] (fun n j wy => ∃ q : Nat,q ≤ 8 ∧ j = .int .i64 q ∧ n = .int .i64 (Tx.bsum bits0 k q) ∧ w4 = wy) (fun _ j _ => 8 - (intOf j).toNat)
            case atStart => exact ⟨0,Nat.zero_le _,rfl,rfl,rfl⟩
            case round =>
              obtain ⟨q,hq,rfl,rfl,rfl⟩ := hrel
              by_cases hql : q < 8
              · have hqz : (q : Int) < 8 := by omega
                have hkq : k + q < L := by omega
                have hkqz : ((k + q : Nat) : Int) < (L : Int) := by omega
                have cell := (hb3.cell (p := ⟨g,off + (k + q),none⟩) h3).trans (H4.out (k + q) hkq)
                have b1 := Tx.getD_01 H01.out (k + q)
                have b2 := Tx.bsum_lt H01.out k q
                have b3 : Tx.bsum bits0 k (q + 1) = 2 * Tx.bsum bits0 k q + bits0.getD (k + q) 0 := rfl
                have b4 : 2 ^ q ≤ 2 ^ 8 := Nat.pow_le_pow_right (by decide) (by omega)
                generalize bits0.getD (k + q) 0 = β at *
                generalize Tx.bsum bits0 k q = ν at *
                have e1 : IntKind.i64.wrap ((k : Int) + (q : Int)) = ((k + q : Nat) : Int) := by rw [IntWalk.i64_in _ (by omega)]; omega
                have e2 : IntKind.i64.wrap (2 * ν) = 2 * ν := IntWalk.i64_in _ (by omega)
                have e3 : IntKind.i64.wrap (2 * ν + β) = 2 * ν + β := IntWalk.i64_in _ (by omega)
                have B3 := Lib.hid b3
                clear b3 b4 b2 b1
                go_wp2_with fail
                refine ⟨⟨q + 1,by omega,by go_num,by rw [B3.out],trivial⟩,by simp [intOf]; omega⟩
              · obtain rfl : q = 8 := by omega
                have b2 := Tx.bsum_lt H01.out k 8
                have hsn := Tx.rbytes_snoc bits0 m
                rw [← HKM.out] at hsn
                have HSN := Lib.hid hsn
                have hl := Tx.rbytes_length bits0 m
                have hm : m ≤ 140737488355327 := by have := HKM.out; omega
                have HL : (Tx.rbytes bits0 m).length + [()].length ≤ 140737488355328 := by rw [hl]; simp; omega
                clear hsn hl
                generalize Tx.bsum bits0 k 8 = ν at *
                obtain ⟨c,rfl⟩ : ∃ c : UInt8,ν = (c.toNat : Int) := ⟨UInt8.ofNat ν.toNat,by rw [Tx.o8 _ (by omega)]; omega⟩
                have hof : UInt8.ofNat ((c.toNat : Int)).toNat = c := by simp
                have hsn2 := HSN.out
                rw [hof] at hsn2
                have HS2 := Lib.hid hsn2
                have e1 : IntKind.u8.wrap (c.toNat : Int) = (c.toNat : Int) := by
                  rw [IntKind.wrap_u8]; omega
                clear hof hsn2 b2 HSN
                go_wp2_with (at_builtin; refine Tx.append rfl _ _ rfl w3.heap.size _ _ rfl (Tx.Own.alloc hown _) ⟨_,0,none⟩ 1 [_] rfl (World.news_of_block (heap_alloc_new _ _)) HL (by have := hb3.size; simp; omega) ?_; intro v1 w1 hown1 hb4 hz4)
                refine ⟨⟨k + 8,m + 1,by have := HKM.out; omega,by omega,by go_num,?_,(hb3.alloc hb3.size _).trans hb4⟩,by simp [intOf]; omega⟩
                rw [HS2.out]
                exact hown1
          · have hm : m = L / 8 := by omega
            have hcv := hown.conv
            clear hkm
            go_wp2
            go_ret2
            refine ⟨.inr ⟨hall.out,?_⟩,hb.trans (hb3.mono hb.size)⟩
            rw [HF.out.1,HF.out.2,← hm]
            rfl
def Tx.sixteen : ByteArray := ⟨#[48,49,50,51,52,53,54,55,56,57,97,98,99,100,101,102]⟩
/-- The whole bytes that digits say. -/
def Tx.rsay (al : ByteArray) (wide : Nat) (s : ByteArray) : List UInt8 := Tx.rbytes (Tx.rbits al.data.toList wide s.data.toList) ((wide * s.size) / 8)
theorem Tx.rsay_length (al : ByteArray) (wide : Nat) (s : ByteArray) : (Tx.rsay al wide s).length = (wide * s.size) / 8 := Tx.rbytes_length _ _

set_option maxHeartbeats 4000000 in
set_option maxRecDepth 100000 in
theorem Tx.RFromHex_any (s : ByteArray) (w : World) (hs : s.size ≤ 1099511627776) :
    Calls Tryz.prog 34 #[.string s] w fun e w' =>
      (((∀ c ∈ s.data.toList,0 ≤ Lib.indexByte Tx.sixteen.data.toList c) ∧ Tx.hexB (Tx.ba (Tx.rsay Tx.sixteen 4 s)) = s ∧ e = .returned (.tuple #[.string (Tx.ba (Tx.rsay Tx.sixteen 4 s)),.int .i64 0])) ∨
       (((∃ c ∈ s.data.toList,Lib.indexByte Tx.sixteen.data.toList c < 0) ∨ Tx.hexB (Tx.ba (Tx.rsay Tx.sixteen 4 s)) ≠ s) ∧ e = .returned (.tuple #[.string ⟨#[]⟩,.int .i64 10]))) ∧ Below w.heap.size w w' := by
  have cr := Tx.read_any s Tx.sixteen 4 w hs (by decide) (by decide) (by decide)
  have hl := Tx.rsay_length Tx.sixteen 4 s
  have ch := fun w => Tx.RHex_any (Tx.ba (Tx.rsay Tx.sixteen 4 s)) w (by rw [Tx.ba_size,hl]; omega)
  rw [show Tx.ba (Tx.hexL (Tx.ba (Tx.rsay Tx.sixteen 4 s)).data.toList) = Tx.hexB (Tx.ba (Tx.rsay Tx.sixteen 4 s)) from rfl] at ch
  rw [show Tx.rbytes (Tx.rbits Tx.sixteen.data.toList 4 s.data.toList) ((4 * s.size) / 8) = Tx.rsay Tx.sixteen 4 s from rfl] at cr
  unfold Tx.sixteen at *
  generalize Tx.ba (Tx.rsay _ 4 s) = b at *
  have CR := Lib.hid cr
  have CH := Lib.hid ch
  clear cr ch hl
  go_enter Tryz.func34,Tryz.ntmps34
  go_wp2_with fail
  refine CR.out.mono ?_
  rintro e w1 ⟨⟨hbad,rfl⟩ | ⟨hall,rfl⟩,b1⟩
  · have HB := Lib.hid hbad
    clear hbad
    go_wp2_with fail
    go_ret2
    exact ⟨.inr ⟨.inl HB.out,rfl⟩,b1⟩
  · have HA := Lib.hid hall
    clear hall
    by_cases he : Tx.hexB b = s
    · have HE := Lib.hid he
      have ch2 := CH.out
      rw [he] at ch2
      have CH2 := Lib.hid ch2
      clear ch2 he
      go_wp2_with fail
      refine (CH2.out w1).mono ?_
      rintro e w2 ⟨rfl,b2⟩
      go_wp2_with fail
      go_ret2
      exact ⟨.inl ⟨HA.out,HE.out,rfl⟩,b1.trans (b2.mono b1.size)⟩
    · have HE := Lib.hid he
      have t1 : ((Tx.hexB b).toList == s.toList) = false := by rw [Tx.eq_toList]; exact decide_eq_false he
      obtain ⟨x,hx⟩ : ∃ x,Tx.hexB b = x := ⟨_,rfl⟩
      have ch2 := CH.out
      rw [hx] at ch2 t1
      have CH2 := Lib.hid ch2
      clear he hx ch2
      go_wp2_with fail
      refine (CH2.out w1).mono ?_
      rintro e w2 ⟨rfl,b2⟩
      go_wp2_with fail
      go_ret2
      exact ⟨.inr ⟨.inr HE.out,rfl⟩,b1.trans (b2.mono b1.size)⟩
end Go.Proofs.YthlecdggkolgmaaGreatDoor
