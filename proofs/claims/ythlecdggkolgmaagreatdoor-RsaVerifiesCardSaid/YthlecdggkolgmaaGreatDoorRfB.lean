/- The reference's numbers in digits of sixteen bits: above. -/
import Derived.Test.YthlecdggkolgmaaGreatDoorHsW
import Derived.Test.YthlecdggkolgmaaGreatDoorVal
import Derived.Deep.QuietTactic
import Derived.BigQuiet
namespace Go.Proofs.YthlecdggkolgmaaGreatDoor
section
open Go.RowKit

theorem Rf.info64 : (Tryz.prog.info? 76).map (fun i => (i.zero,i.size,i.bytes)) = some (some (.int .u64 0),1,8) := by kernel_rfl
theorem Rf.made (c : Nat) : madeCells (Value.int .u64 0).cells (c * 1) = Hs.fn c (fun _ => .int .u64 0) := by
  apply Array.ext_getElem?
  intro j
  by_cases hj : j < c
  · rw [Hs.fn_get _ _ _ hj]
    simp [madeCells,Value.cells,hj,Nat.mod_one]
  · rw [Hs.fn_none _ _ _ (by omega),Array.getElem?_eq_none]
    rw [size_madeCells]; omega
/-- make([]uint64, l, c): noughts. -/
theorem Rf.wpList_make {w : World} {ops : Array Oper} {rest : List Oper} {o : Oper} {a : Act} {Q : Exit → Act → World → Prop} (hg : o.guard = none) (l c : Operand) (hop : o.op = Op.makeSlice 48 l c) (L C : Nat)
    (hl : a.eval l = .int .i64 (L : Int)) (hc : a.eval c = .int .i64 (C : Int)) (hle : L ≤ C) (hC : C ≤ 1000000)
    (hK : wpList Tryz.prog ops Q rest (a.put o.dst (.slice (some ⟨w.heap.size,0,none⟩) L C)) (w.alloc (.cells (Hs.fn C (fun _ => .int .u64 0)) 76))) : wpList Tryz.prog ops Q (o :: rest) a w := by
  obtain ⟨i0,hi,hz0,hz1,hz2⟩ := info_parts Rf.info64
  have hr := run_make (P := Tryz.prog) w 48 76 i0 (.int .u64 0) Tryz.underlying48 hi hz0 .i64 .i64 (L : Int) (C : Int) (by omega) (by omega) (by rw [hz2]; omega) (by omega)
  rw [hz1] at hr
  simp only [Int.toNat_natCast] at hr
  rw [Rf.made] at hr
  refine wpList_plain hg fun K hK2 => ?_
  unfold Oper.wp
  simp [execOp,hop,hl,hc,hr,Result.andThen]
  exact hK2 _ _ hK
/-- n numbers of 64 bits lie at the head of block b. -/
structure Rf.Dig (w : World) (b n : Nat) (f : Nat → Nat) : Prop where
  cell : ∀ j,j < n → w.cell? ⟨b,j,none⟩ = some (.int .u64 (f j : Int))
  lt : b < w.heap.size
theorem Rf.Dig.below {w w' : World} {b n B : Nat} {f : Nat → Nat} (h : Rf.Dig w b n f) (hb : Below B w w') (hB : b < B) : Rf.Dig w' b n f :=
  ⟨fun j hj => (hb.cell (p := ⟨b,j,none⟩) hB).trans (h.cell j hj),Nat.lt_of_lt_of_le h.lt hb.size⟩
/-- The product under way, in block q. -/
structure Rf.Out (w : World) (q n z : Nat) (fo : Nat → Nat) (wr : World) : Prop where
  blk : Hs.Blk wr q 76 n (fun j => .int .u64 (fo j : Int))
  dig : ∀ j,fo j < 65536
  zero : ∀ j,z ≤ j → fo j = 0
  lo : w.heap.size ≤ q
  B : Below w.heap.size w wr
theorem Rf.Out.drewN {w : World} {q n z : Nat} {fo : Nat → Nat} {wr : World} (h : Rf.Out w q n z fo wr) (x : Nat) : Rf.Out w q n z fo (wr.drewN x) :=
  ⟨h.blk.below (Hs.drewN_below wr x) h.blk.lt,h.dig,h.zero,h.lo,h.B.trans ((Hs.drewN_below wr x).mono h.B.size)⟩
theorem Rf.Out.set {w : World} {q n z : Nat} {fo : Nat → Nat} {wr : World} (h : Rf.Out w q n z fo wr) (i x z' : Nat) (hx : x < 65536) (hz : z ≤ z') (hi : i < z') : Rf.Out w q n z' (Vl.upd fo i x) (wr.setCell ⟨q,i,none⟩ (.int .u64 (x : Int))) := by
  refine ⟨(Hs.Blk.set h.blk i (.int .u64 (x : Int))).congr (fun j _ => ?_),fun j => ?_,fun j hj => ?_,h.lo,h.B.trans (Hs.set_above q i _ h.lo)⟩
  · unfold Vl.upd; by_cases hj : j = i <;> simp [hj]
  · unfold Vl.upd; split
    · exact hx
    · exact h.dig j
  · unfold Vl.upd; rw [if_neg (by omega)]; exact h.zero j (by omega)
set_option maxHeartbeats 8000000 in
set_option maxRecDepth 100000 in
theorem Rf.times_any (w : World) (ba la ca : Nat) (fa : Nat → Nat) (bb lb cb : Nat) (fb : Nat → Nat) (ha : Rf.Dig w ba la fa) (hb : Rf.Dig w bb lb fb) (hfa : ∀ j,fa j < 65536) (hfb : ∀ j,fb j < 65536) (hla : la ≤ 1000) (hlb : lb ≤ 1000) :
    Calls Tryz.prog 79 #[.slice (some ⟨ba,0,none⟩) la ca,.slice (some ⟨bb,0,none⟩) lb cb] w fun e w' => ∃ q fo,e = .returned (.slice (some ⟨q,0,none⟩) (la + lb) (la + lb)) ∧ w.heap.size ≤ q ∧ Rf.Dig w' q (la + lb) fo ∧ (∀ j,fo j < 65536) ∧ Vl.val 65536 fo (la + lb) = Vl.val 65536 fa la * Vl.val 65536 fb lb ∧ Below w.heap.size w w' := by
  have hab := ha.lt
  have hbb := hb.lt
  obtain ⟨n,hn⟩ : ∃ n,la + lb = n := ⟨_,rfl⟩
  rw [hn]
  have e0 : (la : Int) + (lb : Int) = (n : Int) := by omega
  have hn2 : n ≤ 2000 := by omega
  go_enter Tryz.func79,Tryz.ntmps79
  go_wp2_with (at_make; refine Rf.wpList_make rfl _ _ rfl n n rfl rfl (Nat.le_refl _) (by omega) ?_)
  have hO : Rf.Out w w.heap.size n 0 (fun _ => 0) (w.alloc (.cells (Hs.fn n (fun _ => .int .u64 0)) 76)) := ⟨heap_alloc_new _ _,fun _ => by decide,fun _ _ => rfl,Nat.le_refl _,(Below.refl _ _).alloc (Nat.le_refl _) _⟩
  obtain ⟨q,hq⟩ : ∃ q,w.heap.size = q := ⟨_,rfl⟩
  rw [hq] at hO ⊢
  have hqb : ba < q ∧ bb < q := by omega
  have HN := Lib.hid (And.intro hn hq)
  clear hn hq hab hbb
  generalize w.alloc (.cells (Hs.fn n (fun _ => .int .u64 0)) 76) = w1 at hO ⊢
  go_loopw [6] (fun iv wr => ∃ (i : Nat) (fo : Nat → Nat),i ≤ la ∧ iv = .int .i64 (i : Int) ∧ Vl.val 65536 fo n = Vl.val 65536 fa i * Vl.val 65536 fb lb ∧ Rf.Out w q n (i + lb) fo wr) (fun iv _ => la - (intOf iv).toNat)
  case atStart => exact ⟨0,_,by omega,rfl,by rw [Vl.val_zero _ _ _ (fun _ _ => rfl)]; simp [Vl.val],⟨hO.blk,hO.dig,fun _ _ => rfl,hO.lo,hO.B⟩⟩
  case round =>
  clear hO
  obtain ⟨i,fo,hi,rfl,hv,hO⟩ := hrel
  obtain ⟨w2,rfl⟩ : ∃ w2,w2 = wr := ⟨_,rfl⟩
  by_cases hlt : i < la
  · have hiz : (i : Int) < (la : Int) := by omega
    have HV := Lib.hid hv
    clear hv
    go_wp2_with fail
    go_loopw [7,8] (fun cv kv wr => ∃ (k c : Nat) (fo : Nat → Nat),k ≤ lb ∧ kv = .int .i64 (k : Int) ∧ cv = .int .u64 (c : Int) ∧ c < 65536 ∧ Vl.val 65536 fo n + c * 65536 ^ (i + k) = Vl.val 65536 fa i * Vl.val 65536 fb lb + fa i * Vl.val 65536 fb k * 65536 ^ i ∧ Rf.Out w q n (i + lb) fo wr) (fun _ kv _ => lb - (intOf kv).toNat)
    case atStart => exact ⟨0,0,fo,by omega,rfl,rfl,by decide,by simp [Vl.val,HV.out],hO⟩
    case round =>
    clear hO HV
    obtain ⟨k,c,fo,hk,rfl,rfl,hc,hv,hO⟩ := hrel
    obtain ⟨w3,rfl⟩ : ∃ w3,w3 = wr := ⟨_,rfl⟩
    have HV := Lib.hid hv
    have hnl := HN.out.1
    clear hv
    by_cases hkl : k < lb
    · have hkz : (k : Int) < (lb : Int) := by omega
      obtain ⟨p,hp⟩ : ∃ p,i + k = p := ⟨_,rfl⟩
      have hp2 : p < n := by omega
      have ep : (i : Int) + (k : Int) = (p : Int) := by omega
      have ep0 : 0 ≤ (p : Int) := by omega
      have epn : (p : Int) < (n : Int) := by omega
      have cx := (hO.B.cell (p := ⟨ba,i,none⟩) ha.lt).trans (ha.cell i hlt)
      have cy := (hO.B.cell (p := ⟨bb,k,none⟩) hb.lt).trans (hb.cell k hkl)
      have co := hO.blk.cell hp2
      have hx := hfa i
      have hy := hfb k
      have ho := hO.dig p
      rw [hp] at HV
      have hstep := Vl.mul_step 65536 fo n i k c (fa i) (fb k) (Vl.val 65536 fb k) (Vl.val 65536 fa i * Vl.val 65536 fb lb) (by omega) (by rw [hp]; exact HV.out)
      rw [hp] at hstep
      obtain ⟨x,hxx⟩ : ∃ x,fa i = x := ⟨_,rfl⟩
      obtain ⟨y,hyy⟩ : ∃ y,fb k = y := ⟨_,rfl⟩
      obtain ⟨o,hoo⟩ : ∃ o,fo p = o := ⟨_,rfl⟩
      have hvk : Vl.val 65536 fb k + y * 65536 ^ k = Vl.val 65536 fb (k + 1) := by rw [← hyy]; rfl
      rw [hxx,hyy,hoo,hvk] at hstep
      rw [hxx] at cx hx
      rw [hyy] at cy hy
      rw [hoo] at co ho
      have hm0 : x * y ≤ 65535 * 65535 := Nat.mul_le_mul (by omega) (by omega)
      have r1 : (x : Int) * (y : Int) = ((x * y : Nat) : Int) := by simp
      obtain ⟨m,hm⟩ : ∃ m,x * y = m := ⟨_,rfl⟩
      rw [hm] at hm0 r1 hstep
      obtain ⟨t,ht⟩ : ∃ t,c + (o + m) = t := ⟨_,rfl⟩
      rw [ht] at hstep
      have r1w : IntKind.u64.wrap ((x : Int) * (y : Int)) = (m : Int) := by rw [r1,IntWalk.u64_in _ (by omega)]
      obtain ⟨s,hs⟩ : ∃ s,o + m = s := ⟨_,rfl⟩
      have r2w : IntKind.u64.wrap ((o : Int) + (m : Int)) = (s : Int) := by rw [IntWalk.u64_in _ (by omega)]; omega
      have r2 : (o : Int) + (m : Int) = (s : Int) := by omega
      have r3w : IntKind.u64.wrap ((c : Int) + (s : Int)) = (t : Int) := by rw [IntWalk.u64_in _ (by omega)]; omega
      have r3 : (c : Int) + (s : Int) = (t : Int) := by omega
      have htb : t < 4294967296 := by omega
      have r4 : bits .and .u64 (t : Int) 65535 = ((t % 65536 : Nat) : Int) := by
        have := u64_and_nat t 65535 (by omega) (by decide)
        rw [show t &&& 65535 = t % 65536 from Nat.and_two_pow_sub_one_eq_mod t 16] at this
        exact this
      have r5 : (t : Int) / 65536 = ((t / 65536 : Nat) : Int) := by omega
      obtain ⟨d,hd⟩ : ∃ d,t % 65536 = d := ⟨_,rfl⟩
      obtain ⟨c',hc'⟩ : ∃ c',t / 65536 = c' := ⟨_,rfl⟩
      rw [hd] at r4 hstep
      rw [hc'] at r5 hstep
      have hd2 : d < 65536 := by omega
      have hc2 : c' < 65536 := by omega
      have HST := Lib.hid (show Vl.val 65536 (Vl.upd fo p d) n + c' * 65536 ^ (i + (k + 1)) = Vl.val 65536 fa i * Vl.val 65536 fb lb + fa i * Vl.val 65536 fb (k + 1) * 65536 ^ i by rw [hxx,← Nat.add_assoc,hp]; exact hstep)
      have HP := Lib.hid hp
      clear hstep hvk hxx hyy hoo hm ht hs hd hc' hp hnl HV hm0
      go_wp2_with fail
      go_quiet (fail)
      have hO2 := hO.drewN nq
      have fo2 := Hs.Blk.frozen hO2.blk p
      have co2 := hO2.blk.cell hp2
      clear hO cx cy co
      generalize w3.drewN nq = w4 at hO2 fo2 co2 ⊢
      go_wp2_with fail
      have hO3 := hO2.set p d (i + lb) hd2 (Nat.le_refl _) (by have := HP.out; omega)
      exact ⟨⟨k + 1,c',_,by omega,by go_num,rfl,hc2,HST.out,hO3⟩,by simp [intOf]; omega⟩
    · obtain rfl : k = lb := by omega
      have hkz : ¬ (k : Int) < (k : Int) := by omega
      obtain ⟨p,hp⟩ : ∃ p,i + k = p := ⟨_,rfl⟩
      have hp2 : p < n := by omega
      have ep : (i : Int) + (k : Int) = (p : Int) := by omega
      have ep0 : 0 ≤ (p : Int) := by omega
      have epn : (p : Int) < (n : Int) := by omega
      have co := hO.blk.cell hp2
      have fo2 := Hs.Blk.frozen hO.blk p
      have hz := hO.zero p (by omega)
      have hu := Vl.val_upd 65536 fo p c n hp2
      rw [hz,Nat.zero_mul,Nat.add_zero] at hu
      have hv2 := HV.out
      rw [hp,← hu] at hv2
      have hfin : Vl.val 65536 (Vl.upd fo p c) n = Vl.val 65536 fa (i + 1) * Vl.val 65536 fb k := by
        rw [hv2,Vl.val,Nat.add_mul,Nat.mul_right_comm]
      have HF := Lib.hid hfin
      have HP := Lib.hid hp
      clear hu hv2 hfin hz hp hnl HV
      go_wp2_with fail
      have hO3 := hO.set p c (i + 1 + k) hc (by omega) (by have := HP.out; omega)
      exact ⟨⟨i + 1,_,by omega,by go_num,HF.out,hO3⟩,by simp [intOf]; omega⟩
  · obtain rfl : i = la := by omega
    have hiz : ¬ (i : Int) < (i : Int) := by omega
    have HV := Lib.hid hv
    clear hv
    go_wp2_with fail
    go_ret
    exact ⟨q,rfl,hO.lo,fo,⟨fun j hj => hO.blk.cell hj,hO.blk.lt⟩,hO.dig,HV.out,hO.B⟩
end
section
open Go.RowKit

theorem Vl.val_top (B : Nat) (f g : Nat → Nat) (m : Nat) : ∀ n,m ≤ n → (∀ j,m ≤ j → j < n → f j = g j) → Vl.val B f n + Vl.val B g m = Vl.val B g n + Vl.val B f m
  | 0,h,_ => by rw [show m = 0 by omega,Nat.add_comm]
  | n + 1,h,he => by
    by_cases hm : m = n + 1
    · rw [hm,Nat.add_comm]
    · have ih := Vl.val_top B f g m n (by omega) (fun j h1 h2 => he j h1 (by omega))
      rw [Vl.val,Vl.val,he n (by omega) (by omega)]
      omega
theorem Vl.val_gt (B : Nat) (hB : 0 < B) (f g : Nat → Nat) (n i : Nat) (hi : i < n) (hg : ∀ j,g j < B) (he : ∀ j,i + 1 ≤ j → j < n → f j = g j) (h : g i < f i) : Vl.val B g n < Vl.val B f n := by
  have h1 := Vl.val_top B f g (i + 1) n (by omega) he
  have h2 := Vl.val_lt B hB g i (fun j _ => hg j)
  have h3 : (g i + 1) * B ^ i ≤ f i * B ^ i := Nat.mul_le_mul_right _ h
  rw [Nat.add_mul,Nat.one_mul] at h3
  have e1 : Vl.val B f (i + 1) = Vl.val B f i + f i * B ^ i := rfl
  have e2 : Vl.val B g (i + 1) = Vl.val B g i + g i * B ^ i := rfl
  omega
def Rf.one (p o j : Nat) : Nat := if j = o then p else 0
theorem Rf.val_one (B p o n : Nat) (h : o < n) : Vl.val B (Rf.one p o) n = p * B ^ o := by
  have h1 := Vl.val_upd B (fun _ => 0) o p n h
  rw [Vl.val_zero B _ n (fun _ _ => rfl)] at h1
  have e : Vl.val B (Rf.one p o) n = Vl.val B (Vl.upd (fun _ => 0) o p) n := Vl.val_congr _ _ _ _ (fun j _ => rfl)
  rw [e]
  simpa using h1
set_option maxHeartbeats 8000000 in
set_option maxRecDepth 100000 in
theorem Rf.above_any (w : World) (ba la ca : Nat) (fa : Nat → Nat) (ha : Rf.Dig w ba la fa) (hfa : ∀ j,fa j < 65536) (hla : la ≤ 1000) (p o : Nat) (hp : p < 65536) (ho : o < la) :
    Calls Tryz.prog 80 #[.slice (some ⟨ba,0,none⟩) la ca,.int .u64 (p : Int),.int .i64 (o : Int)] w fun e w' => e = .returned (.bool (decide (p * 65536 ^ o < Vl.val 65536 fa la))) ∧ w' = w := by
  have hval := Rf.val_one 65536 p o la ho
  have hG : ∀ j,Rf.one p o j < 65536 := by intro j; unfold Rf.one; split <;> omega
  have HV := Lib.hid (And.intro hval hG)
  obtain ⟨D,hD⟩ : ∃ D,decide (p * 65536 ^ o < Vl.val 65536 fa la) = D := ⟨_,rfl⟩
  rw [hD]
  have HD := Lib.hid hD
  clear hval hG hD
  go_enter Tryz.func80,Tryz.ntmps80
  go_wp2_with fail
  go_loopw [7] (fun iv wr => ∃ (m : Nat) (z : Int),m ≤ la ∧ iv = .int .i64 z ∧ z = (m : Int) - 1 ∧ (∀ j,m ≤ j → j < la → fa j = Rf.one p o j) ∧ wr = w) (fun iv _ => (intOf iv + 1).toNat)
  case atStart => exact ⟨la,(la : Int) - 1,Nat.le_refl _,by first | rfl | (congr 1),rfl,fun j h1 h2 => by omega,rfl⟩
  case round =>
  obtain ⟨m,z,hm,rfl,hz,heq,rfl⟩ := hrel
  by_cases hm0 : m = 0
  · have hz0 : z = -1 := by omega
    subst hz0
    have hres : decide (p * 65536 ^ o < Vl.val 65536 fa la) = false := by
      rw [decide_eq_false_iff_not,← HV.out.1,Vl.val_congr 65536 fa (Rf.one p o) la (fun j hj => heq j (by omega) hj)]
      omega
    obtain rfl : D = false := HD.out.symm.trans hres
    clear heq hres hz
    go_wp2_with fail
    go_ret
    exact ⟨rfl,rfl⟩
  · obtain ⟨i,rfl⟩ : ∃ i,m = i + 1 := ⟨m - 1,by omega⟩
    have hzi : z = (i : Int) := by omega
    subst hzi
    have hil : i < la := by omega
    have hi0 : 0 ≤ (i : Int) := by omega
    have hiz : (i : Int) < (la : Int) := by omega
    have ca0 := ha.cell i hil
    have hx := hfa i
    have hfin : fa i = Rf.one p o i ∨ (Rf.one p o i < fa i ∧ decide (p * 65536 ^ o < Vl.val 65536 fa la) = true) ∨ (fa i < Rf.one p o i ∧ decide (p * 65536 ^ o < Vl.val 65536 fa la) = false) := by
      rcases Nat.lt_trichotomy (fa i) (Rf.one p o i) with h | h | h
      · right; right
        refine ⟨h,?_⟩
        have := Vl.val_gt 65536 (by decide) (Rf.one p o) fa la i hil hfa (fun j h1 h2 => (heq j h1 h2).symm) h
        rw [decide_eq_false_iff_not,← HV.out.1]
        omega
      · left; exact h
      · right; left
        refine ⟨h,?_⟩
        have := Vl.val_gt 65536 (by decide) fa (Rf.one p o) la i hil HV.out.2 heq h
        rw [decide_eq_true_iff,← HV.out.1]
        exact this
    have hone : (i = o ∧ Rf.one p o i = p) ∨ (i ≠ o ∧ Rf.one p o i = 0) := by
      unfold Rf.one
      by_cases h : i = o
      · left; exact ⟨h,if_pos h⟩
      · right; exact ⟨h,if_neg h⟩
    have HE := Lib.hid heq
    obtain ⟨x,hxx⟩ : ∃ x,fa i = x := ⟨_,rfl⟩
    obtain ⟨y,hyy⟩ : ∃ y,Rf.one p o i = y := ⟨_,rfl⟩
    rw [hyy] at hone
    rw [hxx,hyy] at hfin
    rw [hxx] at ca0 hx
    have HX := Lib.hid (And.intro hxx hyy)
    rw [HD.out] at hfin
    clear heq hxx hyy HV hz hm0
    rcases hone with ⟨hio,hy⟩ | ⟨hio,hy⟩
    · subst hio
      subst hy
      have tI : ((i : Int) == (i : Int)) = true := by rw [beq_iff_eq]
      rcases hfin with hf | ⟨hf,hd⟩ | ⟨hf,hd⟩
      · have tN : ((x : Int) != (y : Int)) = false := by rw [bne_eq_false_iff_eq]; omega
        go_wp2_with fail
        exact ⟨⟨i,_,by omega,rfl,by omega,fun j h1 h2 => by
          by_cases hj : j = i
          · rw [hj,HX.out.1,HX.out.2]; exact hf
          · exact HE.out j (by omega) h2,trivial⟩,by simp [intOf]⟩
      · have tN : ((x : Int) != (y : Int)) = true := by rw [bne_iff_ne]; omega
        have tG : (y : Int) < (x : Int) := by omega
        subst hd
        go_wp2_with fail
        go_ret
        exact ⟨rfl,rfl⟩
      · have tN : ((x : Int) != (y : Int)) = true := by rw [bne_iff_ne]; omega
        have tG : ¬ (y : Int) < (x : Int) := by omega
        subst hd
        go_wp2_with fail
        go_ret
        exact ⟨rfl,rfl⟩
    · subst hy
      have tI : ((i : Int) == (o : Int)) = false := by rw [beq_eq_false_iff_ne]; omega
      clear hio
      rcases hfin with hf | ⟨hf,hd⟩ | ⟨hf,hd⟩
      · have tN : ((x : Int) != 0) = false := by rw [bne_eq_false_iff_eq]; omega
        go_wp2_with fail
        exact ⟨⟨i,_,by omega,rfl,by omega,fun j h1 h2 => by
          by_cases hj : j = i
          · rw [hj,HX.out.1,HX.out.2]; exact hf
          · exact HE.out j (by omega) h2,trivial⟩,by simp [intOf]⟩
      · have tN : ((x : Int) != 0) = true := by rw [bne_iff_ne]; omega
        have tG : 0 < (x : Int) := by omega
        subst hd
        go_wp2_with fail
        go_ret
        exact ⟨rfl,rfl⟩
      · omega
end
end Go.Proofs.YthlecdggkolgmaaGreatDoor
