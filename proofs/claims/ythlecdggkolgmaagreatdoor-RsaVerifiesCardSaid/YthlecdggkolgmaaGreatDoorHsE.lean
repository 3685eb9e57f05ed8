/- The numbers of a block, of 64 bits. -/
import Derived.Test.YthlecdggkolgmaaGreatDoorHsC
import Derived.Laws.Bits64
namespace Go.Proofs.YthlecdggkolgmaaGreatDoor
section
open Go.RowKit

/-- How the memory lies while a block is spread: the plan, the answer's cell, the numbers. -/
structure Hs.Lay (w : World) (pc : Array Value) (T : TypeId) (k : IntKind) (b3 b4 b5 : Nat) (f : Nat → Nat) (wr : World) : Prop where
  p : wr.heap[b3]? = some (.cells pc 131 (0,0))
  r : Hs.Arr wr b4 T k 80 (fun _ => 0)
  a : Hs.Arr wr b5 T k 80 f
  up : Hs.Up w wr
  lo : w.heap.size ≤ b5 ∧ b3 ≠ b5 ∧ b4 ≠ b5
theorem Hs.Lay.set {w wr : World} {pc : Array Value} {T : TypeId} {k : IntKind} {b3 b4 b5 : Nat} {f : Nat → Nat} (h : Hs.Lay w pc T k b3 b4 b5 f wr) (i x : Nat) : Hs.Lay w pc T k b3 b4 b5 (fun j => if j = i then x else f j) (wr.setCell ⟨b5,i,none⟩ (.int k (x : Int))) := by
  refine ⟨(Hs.heap_set wr _ _ _ h.lo.2.1).trans h.p,(Hs.heap_set wr _ _ _ h.lo.2.2).trans h.r,h.a.set i x,⟨⟨h.up.below.os,h.up.below.tape,h.up.below.output,?_,fun b hb => (Hs.heap_set wr _ _ _ (by have := h.lo.1; show b ≠ b5; omega)).trans (h.up.below.block b hb)⟩,?_⟩,h.lo⟩
  · have := h.up.below.size; simpa [World.setCell] using this
  · have := h.up.size; simpa [World.setCell] using this
theorem Hs.Lay.congr {w wr : World} {pc : Array Value} {T : TypeId} {k : IntKind} {b3 b4 b5 : Nat} {f g : Nat → Nat} (h : Hs.Lay w pc T k b3 b4 b5 f wr) (e : ∀ j,j < 80 → f j = g j) : Hs.Lay w pc T k b3 b4 b5 g wr := ⟨h.p,h.r,h.a.congr e,h.up,h.lo⟩
theorem Hs.Lay.pcell {w wr : World} {pc : Array Value} {T : TypeId} {k : IntKind} {b3 b4 b5 : Nat} {f : Nat → Nat} (h : Hs.Lay w pc T k b3 b4 b5 f wr) (j : Nat) (v : Value) (hv : pc[j]? = some v) : wr.cell? ⟨b3,j,none⟩ = some v := by
  simp only [World.cell?,h.p]; exact hv
theorem Hs.Lay.drewN {w wr : World} {pc : Array Value} {T : TypeId} {k : IntKind} {b3 b4 b5 : Nat} {f : Nat → Nat} (h : Hs.Lay w pc T k b3 b4 b5 f wr) (n : Nat) : Hs.Lay w pc T k b3 b4 b5 f (wr.drewN n) := by
  have hb := Hs.drewN_below wr n
  exact ⟨(hb.block b3 (Array.getElem?_eq_some_iff.1 h.p).1).trans h.p,h.r.below hb h.r.lt,h.a.below hb h.a.lt,h.up.drewN n,h.lo⟩

/-- A number of a block that follows from those before. -/
def Hs.small (n x a b c : Nat) : Nat := Hs.ror n x a ^^^ Hs.ror n x b ^^^ x / 2 ^ c
def Hs.sched (n a b c d e f : Nat) (S : Nat → Nat) (i : Nat) : Nat := (S (i - 16) + Hs.small n (S (i - 15)) a b c + S (i - 7) + Hs.small n (S (i - 2)) d e f) % 2 ^ n

set_option maxHeartbeats 8000000 in
set_option maxRecDepth 100000 in
theorem Hs.spread32 (w : World) (bb off cap : Nat) (B : Nat → Nat) (hB : ∀ j,B j < 256) (hbb : bb < w.heap.size) (hcap : 64 ≤ cap) (hcm : cap ≤ 9223372036854775807) (hc : ∀ j,j < 64 → w.cell? ⟨bb,off + j,none⟩ = some (.int .u8 (B j : Int)))
    (S : Nat → Nat) (hS0 : ∀ j,j < 16 → S j = Hs.part 32 4 B j 4) (hS1 : ∀ i,16 ≤ i → i < 64 → S i = Hs.sched 32 7 18 3 17 19 10 S i) :
    Calls Tryz.prog 114 #[.slice (some ⟨bb,off,none⟩) 64 cap,.agg Hs.pc0] w fun e w' => e = .returned (.agg (Hs.row .u32 80 fun j => if j < 64 then S j else 0)) ∧ Below w.heap.size w w' := by
  have z := Hs.zero81
  go_enter Tryz.func114,Tryz.ntmps114
  go_wp2_with fail
  have L0 : Hs.Lay w Hs.pc0 164 .u32 w.heap.size (w.heap.size + 1) (w.heap.size + 1 + 1) (fun _ => 0) (((w.alloc (.cells Hs.pc0 131)).alloc (.cells (Hs.row .u32 80 fun _ => 0) 164)).alloc (.cells (Hs.row .u32 80 fun _ => 0) 164)) := by
    have z1 : (w.alloc (.cells Hs.pc0 131)).heap.size = w.heap.size + 1 := by simp
    have z2 : ((w.alloc (.cells Hs.pc0 131)).alloc (.cells (Hs.row .u32 80 fun _ => 0) 164)).heap.size = w.heap.size + 1 + 1 := by simp
    refine ⟨?_,?_,?_,((Hs.Up.start w).alloc _).alloc _ |>.alloc _,by omega,by omega,by omega⟩
    · rw [heap_alloc_old _ _ (by omega),heap_alloc_old _ _ (by omega),heap_alloc_new]
    · unfold Hs.Arr; rw [heap_alloc_old _ _ (by omega),← z1,heap_alloc_new]
    · unfold Hs.Arr; rw [← z2,heap_alloc_new]
  go_loopw [15] (fun iv wr => ∃ i : Nat,i ≤ 16 ∧ iv = .int .i64 (i : Int) ∧ Hs.Lay w Hs.pc0 164 .u32 w.heap.size (w.heap.size + 1) (w.heap.size + 1 + 1) (fun j => if j < i then Hs.part 32 4 B j 4 else 0) wr) (fun iv _ => 16 - (intOf iv).toNat)
  case atStart => exact ⟨0,by omega,rfl,L0.congr (fun j _ => by simp)⟩
  case round =>
    clear L0
    obtain ⟨i,hi,rfl,hL⟩ := hrel
    obtain ⟨w3,rfl⟩ : ∃ w3,w3 = wr := ⟨_,rfl⟩
    have p0 := hL.pcell 0 (.int .i64 4) rfl
    by_cases hlt : i < 16
    · have hlz : (i : Int) < 16 := by omega
      have e1 : IntKind.i64.wrap ((i : Int) * 4) = ((i * 4 : Nat) : Int) := by rw [IntWalk.i64_in _ (by omega)]; omega
      have e2 : IntKind.i64.wrap ((i : Int) + 1) = ((i + 1 : Nat) : Int) := by rw [IntWalk.i64_in _ (by omega)]; omega
      have e3 : IntKind.i64.wrap (((i + 1 : Nat) : Int) * 4) = (((i + 1) * 4 : Nat) : Int) := by rw [IntWalk.i64_in _ (by omega)]; omega
      have h1 : ((i * 4 : Nat) : Int) ≤ (((i + 1) * 4 : Nat) : Int) := by omega
      have h2 : (((i + 1) * 4 : Nat) : Int) ≤ (cap : Int) := by omega
      have h3 : ¬ cap = i * 4 := by omega
      have h4 : (i + 1) * 4 - i * 4 = 4 := by omega
      go_wp2_with fail
      rw [h4]
      go_loopw [30] (fun kv wr => ∃ q : Nat,q ≤ 4 ∧ kv = .int .i64 (q : Int) ∧ Hs.Lay w Hs.pc0 164 .u32 w.heap.size (w.heap.size + 1) (w.heap.size + 1 + 1) (fun j => if j < i then Hs.part 32 4 B j 4 else if j = i then Hs.part 32 4 B i q else 0) wr) (fun kv _ => 4 - (intOf kv).toNat)
      case atStart => exact ⟨0,by omega,rfl,hL.congr (fun j _ => by simp [Hs.part])⟩
      case round =>
        clear hL p0
        obtain ⟨q,hq,rfl,hL⟩ := hrel
        obtain ⟨w4,rfl⟩ : ∃ w4,w4 = wr := ⟨_,rfl⟩
        by_cases hql : q < 4
        · have hqz : (q : Int) < 4 := by omega
          have cb := (hL.up.below.cell (p := ⟨bb,off + (i * 4 + q),none⟩) hbb).trans (hc (i * 4 + q) (by omega))
          rw [← Nat.add_assoc] at cb
          have ca := hL.a.cell (j := i) (by omega)
          have fa := hL.a.frozen i
          have hx := Hs.part_lt 32 4 B i (by decide) hB q
          have hsn : Hs.part 32 4 B i (q + 1) = Hs.part 32 4 B i q * 256 % 2 ^ 32 ||| B (i * 4 + q) := rfl
          have hcb := hB (i * 4 + q)
          simp only [Nat.lt_irrefl,if_false,if_true] at ca
          have HSN := Lib.hid hsn
          obtain ⟨c,hcc⟩ : ∃ c,B (i * 4 + q) = c := ⟨_,rfl⟩
          obtain ⟨x,hxx⟩ : ∃ x,Hs.part 32 4 B i q = x := ⟨_,rfl⟩
          rw [hcc] at cb hcb HSN
          rw [hxx] at ca hx HSN
          obtain ⟨y,hy⟩ : ∃ y,x * 256 % 2 ^ 32 = y := ⟨_,rfl⟩
          have hyl : y < 4294967296 := by rw [← hy]; exact Nat.mod_lt _ (by decide)
          have s1 : (x : Int) * 256 % 4294967296 = (y : Int) := by omega
          have s2 : bits .or .u32 (y : Int) (c : Int) = ((y ||| c : Nat) : Int) := u32_or_nat y c hyl (by omega)
          have s3 : IntKind.u32.wrap (c : Int) = (c : Int) := IntWalk.u32_in _ (by omega)
          rw [hy] at HSN
          obtain ⟨u,hu⟩ : ∃ u,y ||| c = u := ⟨_,rfl⟩
          rw [hu] at s2 HSN
          have hiz : (i : Int) < 80 := by omega
          clear hsn hcc hxx hy hu
          go_wp2_with fail
          refine ⟨⟨q + 1,by omega,by go_num,(hL.set i u).congr (fun j _ => ?_)⟩,by simp [intOf]; omega⟩
          by_cases hj : j = i
          · subst hj
            rw [if_pos rfl,if_neg (Nat.lt_irrefl _),if_pos rfl]
            exact HSN.out.symm
          · rw [if_neg hj,if_neg hj,if_neg hj]
        · obtain rfl : q = 4 := by omega
          go_wp2_with fail
          refine ⟨⟨i + 1,by omega,by go_num,hL.congr (fun j _ => ?_)⟩,by simp [intOf]; omega⟩
          by_cases h1 : j < i
          · rw [if_pos h1,if_pos (by omega)]
          · by_cases h2 : j = i
            · subst h2
              rw [if_neg (Nat.lt_irrefl _),if_pos rfl,if_pos (by omega)]
            · rw [if_neg h1,if_neg h2,if_neg (by omega)]
    · obtain rfl : i = 16 := by omega
      have hL2 := hL.congr (g := fun j => if j < 16 then S j else 0) (fun j _ => by by_cases h : j < 16 <;> simp [h,hS0])
      have p2 := hL.pcell 2 (.int .i64 64) rfl
      have HS0 := Lib.hid hS0
      have HS1 := Lib.hid hS1
      have HBd : Hid (∀ j,j < 64 → S j < 4294967296) := Lib.hid (fun j hj => by
        by_cases h : j < 16
        · rw [HS0.out j h]; exact Hs.part_lt 32 4 B j (by decide) hB 4
        · rw [HS1.out j (by omega) hj]; exact Nat.mod_lt _ (by decide))
      clear hL hS0 hS1
      go_wp2_with fail
      go_loopw [10] (fun iv wr => ∃ i : Nat,16 ≤ i ∧ i ≤ 64 ∧ iv = .int .i64 (i : Int) ∧ Hs.Lay w Hs.pc0 164 .u32 w.heap.size (w.heap.size + 1) (w.heap.size + 1 + 1) (fun j => if j < i then S j else 0) wr) (fun iv _ => 64 - (intOf iv).toNat)
      case atStart => exact ⟨16,Nat.le_refl _,by omega,rfl,hL2⟩
      case round =>
        clear hL2 p2 p0
        obtain ⟨i,hi1,hi2,rfl,hL⟩ := hrel
        obtain ⟨w4,rfl⟩ : ∃ w4,w4 = wr := ⟨_,rfl⟩
        have p2 := hL.pcell 2 (.int .i64 64) rfl
        by_cases hlt : i < 64
        · have hlz : (i : Int) < 64 := by omega
          obtain ⟨x,hx⟩ : ∃ x,S (i - 15) = x := ⟨_,rfl⟩
          obtain ⟨y,hy⟩ : ∃ y,S (i - 2) = y := ⟨_,rfl⟩
          obtain ⟨u,hu⟩ : ∃ u,S (i - 16) = u := ⟨_,rfl⟩
          obtain ⟨v,hv⟩ : ∃ v,S (i - 7) = v := ⟨_,rfl⟩
          have cx := hL.a.cell (j := i - 15) (by omega)
          have cy := hL.a.cell (j := i - 2) (by omega)
          rw [if_pos (by omega),hx] at cx
          rw [if_pos (by omega),hy] at cy
          have lx : x < 4294967296 := by rw [← hx]; exact HBd.out _ (by omega)
          have ly : y < 4294967296 := by rw [← hy]; exact HBd.out _ (by omega)
          have lu : u < 4294967296 := by rw [← hu]; exact HBd.out _ (by omega)
          have lv : v < 4294967296 := by rw [← hv]; exact HBd.out _ (by omega)
          have e15 : IntKind.i64.wrap ((i : Int) - 15) = ((i - 15 : Nat) : Int) := by rw [IntWalk.i64_in _ (by omega)]; omega
          have e2 : IntKind.i64.wrap ((i : Int) - 2) = ((i - 2 : Nat) : Int) := by rw [IntWalk.i64_in _ (by omega)]; omega
          have e16 : IntKind.i64.wrap ((i : Int) - 16) = ((i - 16 : Nat) : Int) := by rw [IntWalk.i64_in _ (by omega)]; omega
          have e7 : IntKind.i64.wrap ((i : Int) - 7) = ((i - 7 : Nat) : Int) := by rw [IntWalk.i64_in _ (by omega)]; omega
          have i1 : ((i - 15 : Nat) : Int) < 80 := by omega
          have i2 : ((i - 2 : Nat) : Int) < 80 := by omega
          have i3 : ((i - 16 : Nat) : Int) < 80 := by omega
          have i4 : ((i - 7 : Nat) : Int) < 80 := by omega
          have i5 : (i : Int) < 80 := by omega
          have hsn : S i = (u + Hs.small 32 x 7 18 3 + v + Hs.small 32 y 17 19 10) % 2 ^ 32 := by
            rw [HS1.out i hi1 hlt]; unfold Hs.sched; rw [hx,hy,hu,hv]
          have l1 := Hs.ror_lt 32 x 7 lx
          have l2 := Hs.ror_lt 32 x 18 lx
          have l3 := Hs.ror_lt 32 y 17 ly
          have l4 := Hs.ror_lt 32 y 19 ly
          have c1 : ∀ w,Calls Tryz.prog 128 #[.int .u32 (x : Int),.int .u64 7,.int .u64 32] w fun e w' => e = .returned (.int .u32 (Hs.ror 32 x 7 : Nat)) ∧ w' = w := fun w => Hs.turned32 x 7 lx (by omega) w
          have c2 : ∀ w,Calls Tryz.prog 128 #[.int .u32 (x : Int),.int .u64 18,.int .u64 32] w fun e w' => e = .returned (.int .u32 (Hs.ror 32 x 18 : Nat)) ∧ w' = w := fun w => Hs.turned32 x 18 lx (by omega) w
          have c3 : ∀ w,Calls Tryz.prog 128 #[.int .u32 (y : Int),.int .u64 17,.int .u64 32] w fun e w' => e = .returned (.int .u32 (Hs.ror 32 y 17 : Nat)) ∧ w' = w := fun w => Hs.turned32 y 17 ly (by omega) w
          have c4 : ∀ w,Calls Tryz.prog 128 #[.int .u32 (y : Int),.int .u64 19,.int .u64 32] w fun e w' => e = .returned (.int .u32 (Hs.ror 32 y 19 : Nat)) ∧ w' = w := fun w => Hs.turned32 y 19 ly (by omega) w
          unfold Hs.small at hsn
          obtain ⟨r1,hr1⟩ : ∃ r1,Hs.ror 32 x 7 = r1 := ⟨_,rfl⟩
          obtain ⟨r2,hr2⟩ : ∃ r2,Hs.ror 32 x 18 = r2 := ⟨_,rfl⟩
          obtain ⟨r3,hr3⟩ : ∃ r3,Hs.ror 32 y 17 = r3 := ⟨_,rfl⟩
          obtain ⟨r4,hr4⟩ : ∃ r4,Hs.ror 32 y 19 = r4 := ⟨_,rfl⟩
          rw [hr1,hr2,hr3,hr4] at hsn
          rw [hr1] at l1 c1
          rw [hr2] at l2 c2
          rw [hr3] at l3 c3
          rw [hr4] at l4 c4
          have C1 := Lib.hid c1
          have C2 := Lib.hid c2
          have C3 := Lib.hid c3
          have C4 := Lib.hid c4
          have m1 : (x : Int) / 8 = ((x / 2 ^ 3 : Nat) : Int) := by omega
          have m2 : (y : Int) / 1024 = ((y / 2 ^ 10 : Nat) : Int) := by omega
          have d1 : x / 2 ^ 3 < 4294967296 := Nat.lt_of_le_of_lt (Nat.div_le_self _ _) lx
          have d2 : y / 2 ^ 10 < 4294967296 := Nat.lt_of_le_of_lt (Nat.div_le_self _ _) ly
          obtain ⟨v1,hv1⟩ : ∃ v1,x / 2 ^ 3 = v1 := ⟨_,rfl⟩
          obtain ⟨v2,hv2⟩ : ∃ v2,y / 2 ^ 10 = v2 := ⟨_,rfl⟩
          rw [hv1] at m1 d1 hsn
          rw [hv2] at m2 d2 hsn
          have t1 : bits .xor .u32 (r1 : Int) (r2 : Int) = ((r1 ^^^ r2 : Nat) : Int) := u32_xor_nat _ _ l1 l2
          have t1' : r1 ^^^ r2 < 2 ^ 32 := Nat.xor_lt_two_pow l1 l2
          have t3 : bits .xor .u32 (r3 : Int) (r4 : Int) = ((r3 ^^^ r4 : Nat) : Int) := u32_xor_nat _ _ l3 l4
          have t3' : r3 ^^^ r4 < 2 ^ 32 := Nat.xor_lt_two_pow l3 l4
          obtain ⟨g1,hg1⟩ : ∃ g1,r1 ^^^ r2 = g1 := ⟨_,rfl⟩
          obtain ⟨g2,hg2⟩ : ∃ g2,r3 ^^^ r4 = g2 := ⟨_,rfl⟩
          rw [hg1] at t1 t1' hsn
          rw [hg2] at t3 t3' hsn
          have t2 : bits .xor .u32 (g1 : Int) (v1 : Int) = ((g1 ^^^ v1 : Nat) : Int) := u32_xor_nat _ _ t1' d1
          have t2' : g1 ^^^ v1 < 2 ^ 32 := Nat.xor_lt_two_pow t1' d1
          have t4 : bits .xor .u32 (g2 : Int) (v2 : Int) = ((g2 ^^^ v2 : Nat) : Int) := u32_xor_nat _ _ t3' d2
          have t4' : g2 ^^^ v2 < 2 ^ 32 := Nat.xor_lt_two_pow t3' d2
          obtain ⟨a1,ha1⟩ : ∃ a1,g1 ^^^ v1 = a1 := ⟨_,rfl⟩
          obtain ⟨a2,ha2⟩ : ∃ a2,g2 ^^^ v2 = a2 := ⟨_,rfl⟩
          rw [ha1] at t2 t2' hsn
          rw [ha2] at t4 t4' hsn
          obtain ⟨n1,hn1⟩ : ∃ n1,(u + a1) % 4294967296 = n1 := ⟨_,rfl⟩
          obtain ⟨n2,hn2⟩ : ∃ n2,(n1 + v) % 4294967296 = n2 := ⟨_,rfl⟩
          have q1 : IntKind.u32.wrap ((u : Int) + (a1 : Int)) = (n1 : Int) := by rw [IntKind.wrap_u32]; omega
          have q2 : IntKind.u32.wrap ((n1 : Int) + (v : Int)) = (n2 : Int) := by rw [IntKind.wrap_u32]; omega
          have q3 : IntKind.u32.wrap ((n2 : Int) + (a2 : Int)) = (S i : Int) := by rw [IntKind.wrap_u32,hsn]; omega
          have HSN := Lib.hid hsn
          have HUV := Lib.hid (And.intro hu hv)
          clear hsn hx hy hu hv c1 c2 c3 c4 hr1 hr2 hr3 hr4 hv1 hv2 hg1 hg2 ha1 ha2 hn1 hn2
          obtain ⟨Si,hSi⟩ : ∃ Si,S i = Si := ⟨_,rfl⟩
          rw [hSi] at q3
          have HSi := Lib.hid hSi
          clear hSi
          go_wp2_with fail
          go_quiet (fail)
          have hL5 := hL.drewN nq
          clear cx cy hL p2
          generalize w4.drewN nq = w5 at hL5 ⊢
          have p3 := hL5.pcell 3 (.int .u64 7) rfl
          have p4 := hL5.pcell 4 (.int .u64 18) rfl
          have p5 := hL5.pcell 5 (.int .u64 3) rfl
          go_wp2_with fail
          go_quiet (first | (go_at_call 128; with_reducible exact Calls.quiet_of_same (C1.out _)) | (go_at_call 128; with_reducible exact Calls.quiet_of_same (C2.out _)))
          have hL6 := hL5.drewN nq
          clear p3 p4 p5 hL5
          generalize w5.drewN nq = w6 at hL6 ⊢
          have p6 := hL6.pcell 6 (.int .u64 17) rfl
          have p7 := hL6.pcell 7 (.int .u64 19) rfl
          have p8 := hL6.pcell 8 (.int .u64 10) rfl
          go_wp2_with fail
          go_quiet (first | (go_at_call 128; with_reducible exact Calls.quiet_of_same (C3.out _)) | (go_at_call 128; with_reducible exact Calls.quiet_of_same (C4.out _)))
          have hL7 := hL6.drewN nq
          clear p6 p7 p8 hL6
          generalize w6.drewN nq = w7 at hL7 ⊢
          have cu := hL7.a.cell (j := i - 16) (by omega)
          have cv := hL7.a.cell (j := i - 7) (by omega)
          have ci := hL7.a.cell (j := i) (by omega)
          have fi := hL7.a.frozen i
          rw [if_pos (by omega),HUV.out.1] at cu
          rw [if_pos (by omega),HUV.out.2] at cv
          go_wp2_with fail
          go_region
          all_goals
            go_wp2_with fail
            refine ⟨⟨i + 1,by omega,by omega,by go_num,((hL7.set i Si).congr (fun j _ => ?_)).drewN 1⟩,by simp [intOf]; omega⟩
            by_cases hj : j = i
            · subst hj
              rw [if_pos rfl,if_pos (by omega)]
              exact HSi.out.symm
            · rw [if_neg hj]
              by_cases h1 : j < i
              · rw [if_pos h1,if_pos (by omega)]
              · rw [if_neg h1,if_neg (by omega)]
        · obtain rfl : i = 64 := by omega
          obtain ⟨R,hR⟩ : ∃ R,R = Hs.row .u32 80 (fun j => if j < 64 then S j else 0) := ⟨_,rfl⟩
          have ha : w4.heap[w.heap.size + 1 + 1]? = some (.cells R 164 (0,0)) := by rw [hR]; exact hL.a
          have hr : w4.heap[w.heap.size + 1]? = some (.cells (Hs.row .u32 80 (fun _ => 0)) 164 (0,0)) := hL.r
          have hsz : (Tryz.prog.info? 164).map (·.size) = some R.size := by rw [hR,Hs.row_size]; exact Hs.size81
          have hone : R.all (·.oneCell') = true := by rw [hR]; exact Hs.row_one _ _ _
          have hrs : (Hs.row .u32 80 (fun _ => 0)).size = R.size := by rw [hR,Hs.row_size,Hs.row_size]
          go_wp2_with (first | (refine wpList_load_row rfl 164 (.tmp 5) rfl (w.heap.size + 1 + 1) rfl 164 R (0,0) _ ha Tryz.underlying164 rfl hsz ?_) | (refine wpList_store_row rfl 164 (.tmp 4) (.tmp 116) rfl (w.heap.size + 1) R rfl rfl 164 _ hr hsz hrs hone ?_))
          have hfin : (w4.setRow (w.heap.size + 1) R).heap[w.heap.size + 1]? = some (.cells R 164 (0,0)) := setRow_heap w4 _ _ _ _ _ hr
          refine bodyPost_ret (v := .agg R) (results_cell_row rfl _ _ (w.heap.size + 1) 164 R (0,0) _ rfl hfin Tryz.underlying164 rfl hsz) rfl ⟨by rw [hR],?_⟩
          exact ⟨hL.up.below.os,hL.up.below.tape,hL.up.below.output,by have := hL.up.below.size; simpa [World.setRow] using this,fun b hb => (setRow_other w4 _ _ _ (by omega)).trans (hL.up.below.block b hb)⟩
end
section
open Go.RowKit

set_option maxHeartbeats 8000000 in
set_option maxRecDepth 100000 in
theorem Hs.spread64 (w : World) (bb off cap : Nat) (B : Nat → Nat) (hB : ∀ j,B j < 256) (hbb : bb < w.heap.size) (hcap : 128 ≤ cap) (hcm : cap ≤ 9223372036854775807) (hc : ∀ j,j < 128 → w.cell? ⟨bb,off + j,none⟩ = some (.int .u8 (B j : Int)))
    (S : Nat → Nat) (hS0 : ∀ j,j < 16 → S j = Hs.part 64 8 B j 8) (hS1 : ∀ i,16 ≤ i → i < 80 → S i = Hs.sched 64 1 8 7 19 61 6 S i) :
    Calls Tryz.prog 117 #[.slice (some ⟨bb,off,none⟩) 128 cap,.agg Hs.pc1] w fun e w' => e = .returned (.agg (Hs.row .u64 80 fun j => if j < 80 then S j else 0)) ∧ Below w.heap.size w w' := by
  have z := Hs.zero83
  go_enter Tryz.func117,Tryz.ntmps117
  go_wp2_with fail
  have L0 : Hs.Lay w Hs.pc1 166 .u64 w.heap.size (w.heap.size + 1) (w.heap.size + 1 + 1) (fun _ => 0) (((w.alloc (.cells Hs.pc1 131)).alloc (.cells (Hs.row .u64 80 fun _ => 0) 166)).alloc (.cells (Hs.row .u64 80 fun _ => 0) 166)) := by
    have z1 : (w.alloc (.cells Hs.pc1 131)).heap.size = w.heap.size + 1 := by simp
    have z2 : ((w.alloc (.cells Hs.pc1 131)).alloc (.cells (Hs.row .u64 80 fun _ => 0) 166)).heap.size = w.heap.size + 1 + 1 := by simp
    refine ⟨?_,?_,?_,((Hs.Up.start w).alloc _).alloc _ |>.alloc _,by omega,by omega,by omega⟩
    · rw [heap_alloc_old _ _ (by omega),heap_alloc_old _ _ (by omega),heap_alloc_new]
    · unfold Hs.Arr; rw [heap_alloc_old _ _ (by omega),← z1,heap_alloc_new]
    · unfold Hs.Arr; rw [← z2,heap_alloc_new]
  go_loopw [15] (fun iv wr => ∃ i : Nat,i ≤ 16 ∧ iv = .int .i64 (i : Int) ∧ Hs.Lay w Hs.pc1 166 .u64 w.heap.size (w.heap.size + 1) (w.heap.size + 1 + 1) (fun j => if j < i then Hs.part 64 8 B j 8 else 0) wr) (fun iv _ => 16 - (intOf iv).toNat)
  case atStart => exact ⟨0,by omega,rfl,L0.congr (fun j _ => by simp)⟩
  case round =>
    clear L0
    obtain ⟨i,hi,rfl,hL⟩ := hrel
    obtain ⟨w3,rfl⟩ : ∃ w3,w3 = wr := ⟨_,rfl⟩
    have p0 := hL.pcell 0 (.int .i64 8) rfl
    by_cases hlt : i < 16
    · have hlz : (i : Int) < 16 := by omega
      have e1 : IntKind.i64.wrap ((i : Int) * 8) = ((i * 8 : Nat) : Int) := by rw [IntWalk.i64_in _ (by omega)]; omega
      have e2 : IntKind.i64.wrap ((i : Int) + 1) = ((i + 1 : Nat) : Int) := by rw [IntWalk.i64_in _ (by omega)]; omega
      have e3 : IntKind.i64.wrap (((i + 1 : Nat) : Int) * 8) = (((i + 1) * 8 : Nat) : Int) := by rw [IntWalk.i64_in _ (by omega)]; omega
      have h1 : ((i * 8 : Nat) : Int) ≤ (((i + 1) * 8 : Nat) : Int) := by omega
      have h2 : (((i + 1) * 8 : Nat) : Int) ≤ (cap : Int) := by omega
      have h3 : ¬ cap = i * 8 := by omega
      have h4 : (i + 1) * 8 - i * 8 = 8 := by omega
      go_wp2_with fail
      rw [h4]
      go_loopw [30] (fun kv wr => ∃ q : Nat,q ≤ 8 ∧ kv = .int .i64 (q : Int) ∧ Hs.Lay w Hs.pc1 166 .u64 w.heap.size (w.heap.size + 1) (w.heap.size + 1 + 1) (fun j => if j < i then Hs.part 64 8 B j 8 else if j = i then Hs.part 64 8 B i q else 0) wr) (fun kv _ => 8 - (intOf kv).toNat)
      case atStart => exact ⟨0,by omega,rfl,hL.congr (fun j _ => by simp [Hs.part])⟩
      case round =>
        clear hL p0
        obtain ⟨q,hq,rfl,hL⟩ := hrel
        obtain ⟨w4,rfl⟩ : ∃ w4,w4 = wr := ⟨_,rfl⟩
        by_cases hql : q < 8
        · have hqz : (q : Int) < 8 := by omega
          have cb := (hL.up.below.cell (p := ⟨bb,off + (i * 8 + q),none⟩) hbb).trans (hc (i * 8 + q) (by omega))
          rw [← Nat.add_assoc] at cb
          have ca := hL.a.cell (j := i) (by omega)
          have fa := hL.a.frozen i
          have hx := Hs.part_lt 64 8 B i (by decide) hB q
          have hsn : Hs.part 64 8 B i (q + 1) = Hs.part 64 8 B i q * 256 % 2 ^ 64 ||| B (i * 8 + q) := rfl
          have hcb := hB (i * 8 + q)
          simp only [Nat.lt_irrefl,if_false,if_true] at ca
          have HSN := Lib.hid hsn
          obtain ⟨c,hcc⟩ : ∃ c,B (i * 8 + q) = c := ⟨_,rfl⟩
          obtain ⟨x,hxx⟩ : ∃ x,Hs.part 64 8 B i q = x := ⟨_,rfl⟩
          rw [hcc] at cb hcb HSN
          rw [hxx] at ca hx HSN
          obtain ⟨y,hy⟩ : ∃ y,x * 256 % 2 ^ 64 = y := ⟨_,rfl⟩
          have hyl : y < 18446744073709551616 := by rw [← hy]; exact Nat.mod_lt _ (by decide)
          have s1 : (x : Int) * 256 % 18446744073709551616 = (y : Int) := by omega
          have s1w : IntKind.u64.wrap ((x : Int) * 256) = (y : Int) := by rw [IntKind.wrap_u64]; omega
          have s2 : bits .or .u64 (y : Int) (c : Int) = ((y ||| c : Nat) : Int) := u64_or_nat y c hyl (by omega)
          have s3 : IntKind.u64.wrap (c : Int) = (c : Int) := IntWalk.u64_in _ (by omega)
          rw [hy] at HSN
          obtain ⟨u,hu⟩ : ∃ u,y ||| c = u := ⟨_,rfl⟩
          rw [hu] at s2 HSN
          have hiz : (i : Int) < 80 := by omega
          clear hsn hcc hxx hy hu
          go_wp2_with fail
          refine ⟨⟨q + 1,by omega,by go_num,(hL.set i u).congr (fun j _ => ?_)⟩,by simp [intOf]; omega⟩
          by_cases hj : j = i
          · subst hj
            rw [if_pos rfl,if_neg (Nat.lt_irrefl _),if_pos rfl]
            exact HSN.out.symm
          · rw [if_neg hj,if_neg hj,if_neg hj]
        · obtain rfl : q = 8 := by omega
          go_wp2_with fail
          refine ⟨⟨i + 1,by omega,by go_num,hL.congr (fun j _ => ?_)⟩,by simp [intOf]; omega⟩
          by_cases h1 : j < i
          · rw [if_pos h1,if_pos (by omega)]
          · by_cases h2 : j = i
            · subst h2
              rw [if_neg (Nat.lt_irrefl _),if_pos rfl,if_pos (by omega)]
            · rw [if_neg h1,if_neg h2,if_neg (by omega)]
    · obtain rfl : i = 16 := by omega
      have hL2 := hL.congr (g := fun j => if j < 16 then S j else 0) (fun j _ => by by_cases h : j < 16 <;> simp [h,hS0])
      have p2 := hL.pcell 2 (.int .i64 80) rfl
      have HS0 := Lib.hid hS0
      have HS1 := Lib.hid hS1
      have HBd : Hid (∀ j,j < 80 → S j < 18446744073709551616) := Lib.hid (fun j hj => by
        by_cases h : j < 16
        · rw [HS0.out j h]; exact Hs.part_lt 64 8 B j (by decide) hB 8
        · rw [HS1.out j (by omega) hj]; exact Nat.mod_lt _ (by decide))
      clear hL hS0 hS1
      go_wp2_with fail
      go_loopw [10] (fun iv wr => ∃ i : Nat,16 ≤ i ∧ i ≤ 80 ∧ iv = .int .i64 (i : Int) ∧ Hs.Lay w Hs.pc1 166 .u64 w.heap.size (w.heap.size + 1) (w.heap.size + 1 + 1) (fun j => if j < i then S j else 0) wr) (fun iv _ => 80 - (intOf iv).toNat)
      case atStart => exact ⟨16,Nat.le_refl _,by omega,rfl,hL2⟩
      case round =>
        clear hL2 p2 p0
        obtain ⟨i,hi1,hi2,rfl,hL⟩ := hrel
        obtain ⟨w4,rfl⟩ : ∃ w4,w4 = wr := ⟨_,rfl⟩
        have p2 := hL.pcell 2 (.int .i64 80) rfl
        by_cases hlt : i < 80
        · have hlz : (i : Int) < 80 := by omega
          obtain ⟨x,hx⟩ : ∃ x,S (i - 15) = x := ⟨_,rfl⟩
          obtain ⟨y,hy⟩ : ∃ y,S (i - 2) = y := ⟨_,rfl⟩
          obtain ⟨u,hu⟩ : ∃ u,S (i - 16) = u := ⟨_,rfl⟩
          obtain ⟨v,hv⟩ : ∃ v,S (i - 7) = v := ⟨_,rfl⟩
          have cx := hL.a.cell (j := i - 15) (by omega)
          have cy := hL.a.cell (j := i - 2) (by omega)
          rw [if_pos (by omega),hx] at cx
          rw [if_pos (by omega),hy] at cy
          have lx : x < 18446744073709551616 := by rw [← hx]; exact HBd.out _ (by omega)
          have ly : y < 18446744073709551616 := by rw [← hy]; exact HBd.out _ (by omega)
          have lu : u < 18446744073709551616 := by rw [← hu]; exact HBd.out _ (by omega)
          have lv : v < 18446744073709551616 := by rw [← hv]; exact HBd.out _ (by omega)
          have e15 : IntKind.i64.wrap ((i : Int) - 15) = ((i - 15 : Nat) : Int) := by rw [IntWalk.i64_in _ (by omega)]; omega
          have e2 : IntKind.i64.wrap ((i : Int) - 2) = ((i - 2 : Nat) : Int) := by rw [IntWalk.i64_in _ (by omega)]; omega
          have e16 : IntKind.i64.wrap ((i : Int) - 16) = ((i - 16 : Nat) : Int) := by rw [IntWalk.i64_in _ (by omega)]; omega
          have e7 : IntKind.i64.wrap ((i : Int) - 7) = ((i - 7 : Nat) : Int) := by rw [IntWalk.i64_in _ (by omega)]; omega
          have i1 : ((i - 15 : Nat) : Int) < 80 := by omega
          have i2 : ((i - 2 : Nat) : Int) < 80 := by omega
          have i3 : ((i - 16 : Nat) : Int) < 80 := by omega
          have i4 : ((i - 7 : Nat) : Int) < 80 := by omega
          have i5 : (i : Int) < 80 := by omega
          have hsn : S i = (u + Hs.small 64 x 1 8 7 + v + Hs.small 64 y 19 61 6) % 2 ^ 64 := by
            rw [HS1.out i hi1 hlt]; unfold Hs.sched; rw [hx,hy,hu,hv]
          have l1 := Hs.ror_lt 64 x 1 lx
          have l2 := Hs.ror_lt 64 x 8 lx
          have l3 := Hs.ror_lt 64 y 19 ly
          have l4 := Hs.ror_lt 64 y 61 ly
          have c1 : ∀ w,Calls Tryz.prog 129 #[.int .u64 (x : Int),.int .u64 1,.int .u64 64] w fun e w' => e = .returned (.int .u64 (Hs.ror 64 x 1 : Nat)) ∧ w' = w := fun w => Hs.turned64 x 1 lx (by omega) w
          have c2 : ∀ w,Calls Tryz.prog 129 #[.int .u64 (x : Int),.int .u64 8,.int .u64 64] w fun e w' => e = .returned (.int .u64 (Hs.ror 64 x 8 : Nat)) ∧ w' = w := fun w => Hs.turned64 x 8 lx (by omega) w
          have c3 : ∀ w,Calls Tryz.prog 129 #[.int .u64 (y : Int),.int .u64 19,.int .u64 64] w fun e w' => e = .returned (.int .u64 (Hs.ror 64 y 19 : Nat)) ∧ w' = w := fun w => Hs.turned64 y 19 ly (by omega) w
          have c4 : ∀ w,Calls Tryz.prog 129 #[.int .u64 (y : Int),.int .u64 61,.int .u64 64] w fun e w' => e = .returned (.int .u64 (Hs.ror 64 y 61 : Nat)) ∧ w' = w := fun w => Hs.turned64 y 61 ly (by omega) w
          unfold Hs.small at hsn
          obtain ⟨r1,hr1⟩ : ∃ r1,Hs.ror 64 x 1 = r1 := ⟨_,rfl⟩
          obtain ⟨r2,hr2⟩ : ∃ r2,Hs.ror 64 x 8 = r2 := ⟨_,rfl⟩
          obtain ⟨r3,hr3⟩ : ∃ r3,Hs.ror 64 y 19 = r3 := ⟨_,rfl⟩
          obtain ⟨r4,hr4⟩ : ∃ r4,Hs.ror 64 y 61 = r4 := ⟨_,rfl⟩
          rw [hr1,hr2,hr3,hr4] at hsn
          rw [hr1] at l1 c1
          rw [hr2] at l2 c2
          rw [hr3] at l3 c3
          rw [hr4] at l4 c4
          have C1 := Lib.hid c1
          have C2 := Lib.hid c2
          have C3 := Lib.hid c3
          have C4 := Lib.hid c4
          have m1 : (x : Int) / 128 = ((x / 2 ^ 7 : Nat) : Int) := by omega
          have m2 : (y : Int) / 64 = ((y / 2 ^ 6 : Nat) : Int) := by omega
          have d1 : x / 2 ^ 7 < 18446744073709551616 := Nat.lt_of_le_of_lt (Nat.div_le_self _ _) lx
          have d2 : y / 2 ^ 6 < 18446744073709551616 := Nat.lt_of_le_of_lt (Nat.div_le_self _ _) ly
          obtain ⟨v1,hv1⟩ : ∃ v1,x / 2 ^ 7 = v1 := ⟨_,rfl⟩
          obtain ⟨v2,hv2⟩ : ∃ v2,y / 2 ^ 6 = v2 := ⟨_,rfl⟩
          rw [hv1] at m1 d1 hsn
          rw [hv2] at m2 d2 hsn
          have t1 : bits .xor .u64 (r1 : Int) (r2 : Int) = ((r1 ^^^ r2 : Nat) : Int) := u64_xor_nat _ _ l1 l2
          have t1' : r1 ^^^ r2 < 2 ^ 64 := Nat.xor_lt_two_pow l1 l2
          have t3 : bits .xor .u64 (r3 : Int) (r4 : Int) = ((r3 ^^^ r4 : Nat) : Int) := u64_xor_nat _ _ l3 l4
          have t3' : r3 ^^^ r4 < 2 ^ 64 := Nat.xor_lt_two_pow l3 l4
          obtain ⟨g1,hg1⟩ : ∃ g1,r1 ^^^ r2 = g1 := ⟨_,rfl⟩
          obtain ⟨g2,hg2⟩ : ∃ g2,r3 ^^^ r4 = g2 := ⟨_,rfl⟩
          rw [hg1] at t1 t1' hsn
          rw [hg2] at t3 t3' hsn
          have t2 : bits .xor .u64 (g1 : Int) (v1 : Int) = ((g1 ^^^ v1 : Nat) : Int) := u64_xor_nat _ _ t1' d1
          have t2' : g1 ^^^ v1 < 2 ^ 64 := Nat.xor_lt_two_pow t1' d1
          have t4 : bits .xor .u64 (g2 : Int) (v2 : Int) = ((g2 ^^^ v2 : Nat) : Int) := u64_xor_nat _ _ t3' d2
          have t4' : g2 ^^^ v2 < 2 ^ 64 := Nat.xor_lt_two_pow t3' d2
          obtain ⟨a1,ha1⟩ : ∃ a1,g1 ^^^ v1 = a1 := ⟨_,rfl⟩
          obtain ⟨a2,ha2⟩ : ∃ a2,g2 ^^^ v2 = a2 := ⟨_,rfl⟩
          rw [ha1] at t2 t2' hsn
          rw [ha2] at t4 t4' hsn
          obtain ⟨n1,hn1⟩ : ∃ n1,(u + a1) % 18446744073709551616 = n1 := ⟨_,rfl⟩
          obtain ⟨n2,hn2⟩ : ∃ n2,(n1 + v) % 18446744073709551616 = n2 := ⟨_,rfl⟩
          have q1 : IntKind.u64.wrap ((u : Int) + (a1 : Int)) = (n1 : Int) := by rw [IntKind.wrap_u64]; omega
          have q2 : IntKind.u64.wrap ((n1 : Int) + (v : Int)) = (n2 : Int) := by rw [IntKind.wrap_u64]; omega
          have q3 : IntKind.u64.wrap ((n2 : Int) + (a2 : Int)) = (S i : Int) := by rw [IntKind.wrap_u64,hsn]; omega
          have HSN := Lib.hid hsn
          have HUV := Lib.hid (And.intro hu hv)
          clear hsn hx hy hu hv c1 c2 c3 c4 hr1 hr2 hr3 hr4 hv1 hv2 hg1 hg2 ha1 ha2 hn1 hn2
          obtain ⟨Si,hSi⟩ : ∃ Si,S i = Si := ⟨_,rfl⟩
          rw [hSi] at q3
          have HSi := Lib.hid hSi
          clear hSi
          go_wp2_with fail
          go_quiet (fail)
          have hL5 := hL.drewN nq
          clear cx cy hL p2
          generalize w4.drewN nq = w5 at hL5 ⊢
          have p3 := hL5.pcell 3 (.int .u64 1) rfl
          have p4 := hL5.pcell 4 (.int .u64 8) rfl
          have p5 := hL5.pcell 5 (.int .u64 7) rfl
          go_wp2_with fail
          go_quiet (first | (go_at_call 129; with_reducible exact Calls.quiet_of_same (C1.out _)) | (go_at_call 129; with_reducible exact Calls.quiet_of_same (C2.out _)))
          have hL6 := hL5.drewN nq
          clear p3 p4 p5 hL5
          generalize w5.drewN nq = w6 at hL6 ⊢
          have p6 := hL6.pcell 6 (.int .u64 19) rfl
          have p7 := hL6.pcell 7 (.int .u64 61) rfl
          have p8 := hL6.pcell 8 (.int .u64 6) rfl
          go_wp2_with fail
          go_quiet (first | (go_at_call 129; with_reducible exact Calls.quiet_of_same (C3.out _)) | (go_at_call 129; with_reducible exact Calls.quiet_of_same (C4.out _)))
          have hL7 := hL6.drewN nq
          clear p6 p7 p8 hL6
          generalize w6.drewN nq = w7 at hL7 ⊢
          have cu := hL7.a.cell (j := i - 16) (by omega)
          have cv := hL7.a.cell (j := i - 7) (by omega)
          have ci := hL7.a.cell (j := i) (by omega)
          have fi := hL7.a.frozen i
          rw [if_pos (by omega),HUV.out.1] at cu
          rw [if_pos (by omega),HUV.out.2] at cv
          go_wp2_with fail
          go_region
          all_goals
            go_wp2_with fail
            refine ⟨⟨i + 1,by omega,by omega,by go_num,((hL7.set i Si).congr (fun j _ => ?_)).drewN 1⟩,by simp [intOf]; omega⟩
            by_cases hj : j = i
            · subst hj
              rw [if_pos rfl,if_pos (by omega)]
              exact HSi.out.symm
            · rw [if_neg hj]
              by_cases h1 : j < i
              · rw [if_pos h1,if_pos (by omega)]
              · rw [if_neg h1,if_neg (by omega)]
        · obtain rfl : i = 80 := by omega
          obtain ⟨R,hR⟩ : ∃ R,R = Hs.row .u64 80 (fun j => if j < 80 then S j else 0) := ⟨_,rfl⟩
          have ha : w4.heap[w.heap.size + 1 + 1]? = some (.cells R 166 (0,0)) := by rw [hR]; exact hL.a
          have hr : w4.heap[w.heap.size + 1]? = some (.cells (Hs.row .u64 80 (fun _ => 0)) 166 (0,0)) := hL.r
          have hsz : (Tryz.prog.info? 166).map (·.size) = some R.size := by rw [hR,Hs.row_size]; exact Hs.size83
          have hone : R.all (·.oneCell') = true := by rw [hR]; exact Hs.row_one _ _ _
          have hrs : (Hs.row .u64 80 (fun _ => 0)).size = R.size := by rw [hR,Hs.row_size,Hs.row_size]
          go_wp2_with (first | (refine wpList_load_row rfl 166 (.tmp 5) rfl (w.heap.size + 1 + 1) rfl 166 R (0,0) _ ha Tryz.underlying166 rfl hsz ?_) | (refine wpList_store_row rfl 166 (.tmp 4) (.tmp 116) rfl (w.heap.size + 1) R rfl rfl 166 _ hr hsz hrs hone ?_))
          have hfin : (w4.setRow (w.heap.size + 1) R).heap[w.heap.size + 1]? = some (.cells R 166 (0,0)) := setRow_heap w4 _ _ _ _ _ hr
          refine bodyPost_ret (v := .agg R) (results_cell_row rfl _ _ (w.heap.size + 1) 166 R (0,0) _ rfl hfin Tryz.underlying166 rfl hsz) rfl ⟨by rw [hR],?_⟩
          exact ⟨hL.up.below.os,hL.up.below.tape,hL.up.below.output,by have := hL.up.below.size; simpa [World.setRow] using this,fun b hb => (setRow_other w4 _ _ _ (by omega)).trans (hL.up.below.block b hb)⟩
end
end Go.Proofs.YthlecdggkolgmaaGreatDoor
