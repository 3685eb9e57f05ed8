/- sum, without. -/
import Derived.Test.YthlecdggkolgmaaGreatDoorNtJ
import Derived.Laws.MakeOwn
import Derived.Laws.CopyOwn
import Derived.OwnWalk
import Derived.Deep.Cut
import Derived.Deep.RegionWith
namespace Go.Proofs.YthlecdggkolgmaaGreatDoor
section
section
section
section
open Go.RowKit

theorem Nt.info32 : (Tryz.prog.info? 145).map (fun i => (i.zero,i.size,i.bytes)) = some (some (.int .u32 0),1,4) := by kernel_rfl
theorem Nt.made (c : Nat) : madeCells (Value.int .u32 0).cells (c * 1) = (List.replicate c (Value.int .u32 0)).toArray := by
  apply Array.ext_getElem?
  intro j
  by_cases hj : j < c
  · simp [madeCells,Value.cells,hj,Nat.mod_one]
  · rw [Array.getElem?_eq_none (by rw [size_madeCells]; omega),Array.getElem?_eq_none (by simp; omega)]
theorem Nt.wpList_make {w : World} {ops : Array Oper} {rest : List Oper} {o : Oper} {a : Act} {Q : Exit → Act → World → Prop} (hg : o.guard = none) (l c : Operand) (hop : o.op = Op.makeSlice 153 l c) (C : Nat)
    (hl : a.eval l = .int .i64 (C : Int)) (hc : a.eval c = .int .i64 (C : Int)) (hC : C ≤ 1000000)
    (hK : wpList Tryz.prog ops Q rest (a.put o.dst (.slice (some ⟨w.heap.size,0,none⟩) C C)) (w.alloc (.cells (List.replicate C (Value.int .u32 0)).toArray 145))) : wpList Tryz.prog ops Q (o :: rest) a w := by
  obtain ⟨i0,hi,hz0,hz1,hz2⟩ := info_parts Nt.info32
  have hr := run_make (P := Tryz.prog) w 153 145 i0 (.int .u32 0) Tryz.underlying153 hi hz0 .i64 .i64 (C : Int) (C : Int) (by omega) (by omega) (by rw [hz2]; omega) (by omega)
  rw [hz1] at hr
  simp only [Int.toNat_natCast] at hr
  rw [Nt.made] at hr
  refine wpList_plain hg fun K hK2 => ?_
  unfold Oper.wp
  simp [execOp,hop,hl,hc,hr,Result.andThen]
  exact hK2 _ _ hK
end
section
open Go.RowKit
theorem Nt.Lim.below {w w' : World} {b off n B : Nat} {f : Nat → Nat} (h : Nt.Lim w b off n f) (hb : Below B w w') (hB : b < B) : Nt.Lim w' b off n f :=
  ⟨fun j hj => (hb.cell (p := ⟨b,off + j,none⟩) hB).trans (h.cell j hj),fun j hj => (hb.frozen (p := ⟨b,off + j,none⟩) hB).trans (h.fro j hj),h.dig,Nat.lt_of_lt_of_le h.lt hb.size⟩
/-- The n limbs as cells. -/
def Nt.cells (f : Nat → Nat) (n : Nat) : List Value := (List.range n).map fun j => .int .u32 (f j : Int)
theorem Nt.cells_len (f : Nat → Nat) (n : Nat) : (Nt.cells f n).length = n := by simp [Nt.cells]
theorem Nt.cells_get (f : Nat → Nat) (n j : Nat) (hj : j < n) : (Nt.cells f n)[j]? = some (.int .u32 (f j : Int)) := by simp [Nt.cells,hj]
theorem Nt.cells_some {f : Nat → Nat} {n j : Nat} {v : Value} (h : (Nt.cells f n)[j]? = some v) : j < n ∧ v = .int .u32 (f j : Int) := by
  have hj : j < n := by
    have := (List.getElem?_eq_some_iff.1 h).1
    rwa [Nt.cells_len] at this
  rw [Nt.cells_get f n j hj] at h
  exact ⟨hj,(Option.some.inj h).symm⟩
theorem Nt.Lim.ofRow {w : World} {b n : Nat} {T : TypeId} {l : List Value} {f : Nat → Nat} (h : w.heap[b]? = some (.cells l.toArray T (0,0))) (hl : ∀ j,j < n → l[j]? = some (.int .u32 (f j : Int))) (hf : ∀ j,f j < 4294967296) : Nt.Lim w b 0 n f := by
  have hb : b < w.heap.size := (Array.getElem?_eq_some_iff.1 h).1
  have h' : w.heap[b]? = some (.cells l.toArray T (0,0)) := h
  refine ⟨fun j hj => ?_,fun j _ => ?_,hf,hb⟩
  · simp only [World.cell?,h',Nat.zero_add]
    simpa using hl j hj
  · simp [World.frozen?,h']
theorem Nt.spliced (f : Nat → Nat) (n m j : Nat) (hj : j < m) : (splice (List.replicate m (Value.int .u32 0)) 0 (Nt.cells f n))[j]? = some (.int .u32 (((if j < n then f j else 0 : Nat)) : Int)) := by
  unfold splice
  rw [List.take_zero,List.nil_append,Nt.cells_len,Nat.zero_add]
  by_cases h : j < n
  · rw [List.getElem?_append_left (by rw [Nt.cells_len]; exact h),Nt.cells_get f n j h,if_pos h]
  · rw [List.getElem?_append_right (by rw [Nt.cells_len]; omega),Nt.cells_len,List.getElem?_drop,if_neg h]
    rw [List.getElem?_replicate,if_pos (by omega)]
    rfl
/-- copy(wide, x): wide a new block of noughts. -/
theorem Nt.wpList_copy {w w1 : World} {ops : Array Oper} {rest : List Oper} {o : Oper} {a : Act} {Q : Exit → Act → World → Prop} (hgd : o.guard = none) (d s : Operand)
    (ho : o.op = .call { callee := .builtin .copy,args := #[d,s],argTypes := #[153,153] }) (ax : Option Addr) (bx ox n cx m : Nat) (fx : Nat → Nat)
    (hd : a.eval d = .slice (some ⟨w.heap.size,0,none⟩) m m) (hs : a.eval s = .slice ax n cx) (hnm : n ≤ m)
    (hg : w1.heap[w.heap.size]? = some (.cells (List.replicate m (Value.int .u32 0)).toArray 145 (0,0))) (hb : Below w.heap.size w w1) (hx : 0 < n → ax = some ⟨bx,ox,none⟩ ∧ Nt.Lim w bx ox n fx)
    (h : ∀ w',Hid (w'.heap[w.heap.size]? = some (.cells (splice (List.replicate m (Value.int .u32 0)) 0 (Nt.cells fx n)).toArray 145 (0,0))) → Below w.heap.size w w' → wpList Tryz.prog ops Q rest (a.put o.dst (goInt n)) w') : wpList Tryz.prog ops Q (o :: rest) a w1 := by
  have hl := Nt.cells_len fx n
  have k := @wpList_copy_splice Tryz.prog w1 ops rest o a Q hgd d s 153 153 ho 145 Tryz.underlying153 (by kernel_rfl) (some ⟨w.heap.size,0,none⟩) ax m m n cx hd hs w.heap.size 0 (List.replicate m (Value.int .u32 0)) 145 hg (Nt.cells fx n) (by rw [hl]; exact (Nat.min_eq_left hnm).symm)
    (fun h0 => ⟨rfl,⟨bx,ox,none⟩,(hx (by rw [hl] at h0; exact h0)).1,fun j v hv => by
      obtain ⟨hj,rfl⟩ := Nt.cells_some hv
      have hL := (hx (by omega)).2
      have hc := (hL.below hb hL.lt).cell j hj
      have ha : Addr.add ⟨bx,ox,none⟩ j = ⟨bx,ox + j,none⟩ := by
        unfold Addr.add
        split
        · rename_i h0
          rw [h0]
          rfl
        · rfl
      rw [ha]
      exact hc⟩)
    (by rw [hl,List.length_replicate]; omega) (fun v hv => by
      obtain ⟨x,_,rfl⟩ := List.mem_map.1 hv
      rfl) w.heap.size w hb (Nat.le_refl _)
  rw [hl] at k
  exact k h
end
end
section
open Go.RowKit

set_option maxRecDepth 20000 in
theorem Nt.widened_any (w : World) (ax : Option Addr) (bx ox n cx : Nat) (fx : Nat → Nat) (m : Nat) (hx : 0 < n → ax = some ⟨bx,ox,none⟩ ∧ Nt.Lim w bx ox n fx) (dx : ∀ j,fx j < 4294967296) (hnm : n ≤ m) (hm : m ≤ 1000000) :
    Calls Tryz.prog 134 #[.slice ax n cx,.int .i64 (m : Int)] w fun e w' => ∃ g,e = .returned (.slice (some ⟨g,0,none⟩) m m) ∧ w.heap.size ≤ g ∧ Nt.Lim w' g 0 m (fun j => if j < n then fx j else 0) ∧ Below w.heap.size w w' := by
  have HX := Lib.hid hx
  have HB := Lib.hid (And.intro dx (And.intro hnm hm))
  clear hx dx hnm hm
  go_enter Tryz.func134,Tryz.ntmps134
  go_upto_region 2 with (at_make; refine Nt.wpList_make rfl _ _ rfl m rfl rfl HB.out.2.2 ?_)
  have hg0 : (w.alloc (Obj.cells (Array.replicate m (Value.int IntKind.u32 0)) 145)).heap[w.heap.size]? = some (.cells (List.replicate m (Value.int .u32 0)).toArray 145 (0,0)) := by
    rw [heap_alloc_new]
    simp
  have hb0 := (Below.refl w.heap.size w).alloc (Nat.le_refl _) (Obj.cells (Array.replicate m (Value.int IntKind.u32 0)) 145)
  revert hg0 hb0
  generalize w.alloc (Obj.cells (Array.replicate m (Value.int IntKind.u32 0)) 145) = w1
  intro hg0 hb0
  have HG := Lib.hid (And.intro hg0 hb0)
  clear hg0 hb0
  go_wp2_with (refine Nt.wpList_copy rfl (.tmp 8) (.tmp 9) rfl ax bx ox n cx m fx rfl rfl HB.out.2.1 HG.out.1 HG.out.2 HX.out ?_; intro w2 hrow hbel)
  go_ret
  exact ⟨w.heap.size,rfl,Nat.le_refl _,Nt.Lim.ofRow hrow.out (fun j hj => Nt.spliced fx n m j hj) (fun j => by by_cases h : j < n <;> simp [h,HB.out.1]),hbel⟩
end
end
section
open Go.RowKit

/-- f, but from limb i on m limbs of g. -/
def Nt.mid (f : Nat → Nat) (i m : Nat) (g : Nat → Nat) (j : Nat) : Nat := if i ≤ j ∧ j < i + m then g (j - i) else f j
theorem Nt.mid_val (f : Nat → Nat) (i m : Nat) (g : Nat → Nat) : Vl.val 4294967296 (Nt.mid f i m g) (i + m) = Vl.val 4294967296 f i + Vl.val 4294967296 g m * 4294967296 ^ i := by
  rw [Nt.val_split]
  rw [Vl.val_congr 4294967296 (Nt.mid f i m g) f i (fun j hj => by unfold Nt.mid; rw [if_neg (by omega)])]
  rw [Vl.val_congr 4294967296 (fun j => Nt.mid f i m g (i + j)) g m (fun j hj => by unfold Nt.mid; rw [if_pos ⟨by omega,by omega⟩,show i + j - i = j by omega])]
theorem Nt.Lim.shift {w : World} {b off N : Nat} {f : Nat → Nat} (h : Nt.Lim w b off N f) (i m : Nat) (hi : i + m ≤ N) : Nt.Lim w b (off + i) m (fun j => f (i + j)) :=
  ⟨fun j hj => by rw [Nat.add_assoc]; exact h.cell (i + j) (by omega),fun j hj => by rw [Nat.add_assoc]; exact h.fro (i + j) (by omega),fun j => h.dig _,h.lt⟩
theorem Nt.Lim.put {w w' : World} {b off N : Nat} {f : Nat → Nat} (h : Nt.Lim w b off N f) (i m : Nat) {g : Nat → Nat} (hg : Nt.Lim w' b (off + i) m g) (ho : Nt.Only b (off + i) m w w') : Nt.Lim w' b off N (Nt.mid f i m g) := by
  refine ⟨fun j hj => ?_,fun j hj => ?_,fun j => ?_,hg.lt⟩
  · unfold Nt.mid
    by_cases c : i ≤ j ∧ j < i + m
    · rw [if_pos c]
      have := hg.cell (j - i) (by omega)
      rwa [show off + i + (j - i) = off + j by omega] at this
    · rw [if_neg c,ho.cell _ (by omega)]
      exact h.cell j hj
  · rw [ho.fro]
    exact h.fro j hj
  · unfold Nt.mid
    split
    · exact hg.dig _
    · exact h.dig _
theorem Nt.Only.part {b off N i m : Nat} {w w' : World} (h : Nt.Only b (off + i) m w w') (hi : i + m ≤ N) : Nt.Only b off N w w' := ⟨h.os,h.tape,h.output,h.size,h.block,fun o ho => h.cell o (by omega),h.fro⟩
theorem Nt.Only.below {b off n B : Nat} {w w' : World} (h : Nt.Only b off n w w') (hb : B ≤ b) (hB : B ≤ w.heap.size) : Below B w w' := ⟨h.os,h.tape,h.output,h.size,fun k hk => h.block k (by omega) (by omega)⟩
theorem Nt.drewN_heap (w : World) (k : Nat) : (w.drewN k).heap = w.heap := by
  induction k with
  | zero => rfl
  | succ k ih => exact ih
theorem Nt.Lim.top {w : World} {b off n : Nat} {f : Nat → Nat} (h : Nt.Lim w b off n f) (m : Nat) (hm : m ≤ n) : Nt.Lim w b off m f := ⟨fun j hj => h.cell j (by omega),fun j hj => h.fro j (by omega),h.dig,h.lt⟩

/-- The slice of n limbs at ax is the number x: least first, the last one not 0. -/
structure Nt.Num (w : World) (ax : Option Addr) (n cx x : Nat) : Prop where
  cap : n ≤ cx
  ex : ∃ b off f,(0 < n → ax = some ⟨b,off,none⟩ ∧ Nt.Lim w b off n f) ∧ (∀ j,f j < 4294967296) ∧ Vl.val 4294967296 f n = x ∧ (n = 0 ∨ f (n - 1) ≠ 0)
theorem Nt.Num.nil (w : World) : Nt.Num w none 0 0 0 := ⟨Nat.le_refl _,0,0,fun _ => 0,fun h => absurd h (Nat.lt_irrefl 0),fun _ => (show (0 : Nat) < 4294967296 by decide),rfl,.inl rfl⟩
theorem Nt.Num.below {w w' : World} {ax : Option Addr} {n cx x : Nat} (h : Nt.Num w ax n cx x) (hb : Below w.heap.size w w') : Nt.Num w' ax n cx x := by
  obtain ⟨hc,b,off,f,h1,h2,h3,h4⟩ := h
  exact ⟨hc,b,off,f,fun h0 => ⟨(h1 h0).1,(h1 h0).2.below hb (h1 h0).2.lt⟩,h2,h3,h4⟩
theorem Nt.Num.drewN {w : World} {ax : Option Addr} {n cx x : Nat} (h : Nt.Num w ax n cx x) (k : Nat) : Nt.Num (w.drewN k) ax n cx x := h.below (below_drewN (Below.refl _ _) k)
theorem Nt.Num.zero {w : World} {ax : Option Addr} {n cx x : Nat} (h : Nt.Num w ax n cx x) : n = 0 ↔ x = 0 := by
  obtain ⟨_,b,off,f,_,h2,h3,h4⟩ := h
  constructor
  · rintro rfl
    rw [← h3]
    rfl
  · intro hx
    rcases h4 with h | h
    · exact h
    · rcases Nat.eq_zero_or_pos n with h0 | h0
      · exact h0
      · exfalso
        obtain ⟨m,rfl⟩ : ∃ m,n = m + 1 := ⟨n - 1,by omega⟩
        rw [hx] at h3
        unfold Vl.val at h3
        have : f m * 4294967296 ^ m = 0 := by omega
        rcases Nat.mul_eq_zero.1 this with h5 | h5
        · exact h h5
        · have := Nat.pow_pos (n := m) (show 0 < 4294967296 by decide)
          omega
/-- A number below B^m has m limbs at most. -/
theorem Nt.Num.len {w : World} {ax : Option Addr} {n cx x : Nat} (h : Nt.Num w ax n cx x) (m : Nat) (hx : x < 4294967296 ^ m) : n ≤ m := by
  obtain ⟨_,b,off,f,_,h2,h3,h4⟩ := h
  rcases h4 with rfl | h4
  · omega
  · rcases Nat.lt_or_ge m n with h0 | h0
    · exfalso
      obtain ⟨k,rfl⟩ : ∃ k,n = k + 1 := ⟨n - 1,by omega⟩
      unfold Vl.val at h3
      have h5 : 1 ≤ f k := Nat.pos_of_ne_zero h4
      have h6 : 4294967296 ^ k ≤ f k * 4294967296 ^ k := Nat.le_mul_of_pos_left _ h5
      have h7 : 4294967296 ^ m ≤ 4294967296 ^ k := Nat.pow_le_pow_right (by decide) (by omega)
      omega
    · exact h0
theorem Nt.Num.lt {w : World} {ax : Option Addr} {n cx x : Nat} (h : Nt.Num w ax n cx x) : x < 4294967296 ^ n := by
  obtain ⟨_,b,off,f,_,h2,h3,h4⟩ := h
  rw [← h3]
  exact Vl.val_lt _ (by decide) f n (fun j _ => h2 j)
theorem Nt.Num.mono {w : World} {ax ay : Option Addr} {n cx x m cy y : Nat} (h : Nt.Num w ax n cx x) (g : Nt.Num w ay m cy y) (hxy : x ≤ y) : n ≤ m := h.len m (Nat.lt_of_le_of_lt hxy g.lt)
/-- What trimmed leaves of a block. -/
theorem Nt.Num.of {w : World} {b off N m c : Nat} {f : Nat → Nat} (h : Nt.Lim w b off N f) (hm : m ≤ N) (hc : m ≤ c) (hz : ∀ j,m ≤ j → j < N → f j = 0) (ht : m = 0 ∨ f (m - 1) ≠ 0) : Nt.Num w (some ⟨b,off,none⟩) m c (Vl.val 4294967296 f N) :=
  ⟨hc,b,off,f,fun _ => ⟨rfl,h.top m hm⟩,h.dig,(Vl.val_high _ f m N hm hz).symm,ht⟩
end
end
section
section
open Go.RowKit

set_option maxRecDepth 100000 in
theorem Nt.addTimes_nil (w : World) (bx ox cx : Nat) (ay : Option Addr) (cy : Nat) (t : Nat) :
    Calls Tryz.prog 139 #[.slice (some ⟨bx,ox,none⟩) 0 cx,.slice ay 0 cy,.int .u32 (t : Int)] w fun e w' => e = .returned (.int .u32 0) ∧ w' = w := by
  go_enter Tryz.func139,Tryz.ntmps139
  go_wp2_with fail
  go_loopw [7,12] (fun cv iv wr => cv = .int .u64 0 ∧ iv = .int .i64 0 ∧ wr = w) (fun _ _ _ => 0)
  case atStart => exact ⟨rfl,rfl,rfl⟩
  case round =>
  obtain ⟨rfl,rfl,rfl⟩ := hrel
  go_wp2_with fail
  go_ret
  exact ⟨rfl,rfl⟩
theorem Nt.addTimes_opt (w : World) (bx ox n cx : Nat) (fx : Nat → Nat) (ay : Option Addr) (b' oy cy : Nat) (fy : Nat → Nat) (t : Nat) (hx : Nt.Lim w bx ox n fx) (hy : 0 < n → ay = some ⟨b',oy,none⟩ ∧ Nt.Lim w b' oy n fy ∧ b' ≠ bx) (hn : n ≤ 1000000) (ht : t < 4294967296) :
    Calls Tryz.prog 139 #[.slice (some ⟨bx,ox,none⟩) n cx,.slice ay n cy,.int .u32 (t : Int)] w fun e w' => ∃ c fo,e = .returned (.int .u32 ((c : Nat) : Int)) ∧ c < 4294967296 ∧ Nt.Lim w' bx ox n fo ∧ Vl.val 4294967296 fo n + c * 4294967296 ^ n = Vl.val 4294967296 fx n + t * Vl.val 4294967296 fy n ∧ Nt.Only bx ox n w w' := by
  rcases Nat.eq_zero_or_pos n with h0 | h0
  · subst h0
    refine (Nt.addTimes_nil w bx ox cx ay cy t).mono ?_
    rintro e w' ⟨rfl,rfl⟩
    exact ⟨0,fx,rfl,by decide,hx,by simp [Vl.val],Nt.Only.refl _ _ _ _⟩
  · obtain ⟨rfl,hL,hne⟩ := hy h0
    refine (Nt.addTimes_any w bx ox n cx fx b' oy n cy fy t hx hL (Nat.le_refl _) hn ht hne).mono ?_
    rintro e w' ⟨c,fo,h1,h2,h3,h4,_,h6⟩
    exact ⟨c,fo,h1,h2,h3,h4,h6⟩
theorem Tx.drewNb (w : World) (k : Nat) : ∀ {B : Nat},Below B w (w.drewN k) := fun {B} => below_drewN (Below.refl B w) k
theorem Nt.prod_step (fo fo2 : Nat → Nat) (i m c xi XI Y : Nat) (h1 : Vl.val 4294967296 fo (i + m) = XI * Y) (h2 : Vl.val 4294967296 fo2 m + c * 4294967296 ^ m = Vl.val 4294967296 (fun j => fo (i + j)) m + xi * Y) :
    Vl.val 4294967296 (Vl.upd (Nt.mid fo i m fo2) (i + m) c) (i + m + 1) = (XI + xi * 4294967296 ^ i) * Y := by
  have e0 : Vl.upd (Nt.mid fo i m fo2) (i + m) c (i + m) = c := by unfold Vl.upd; rw [if_pos rfl]
  rw [Vl.val,e0,Vl.val_congr 4294967296 (Vl.upd (Nt.mid fo i m fo2) (i + m) c) (Nt.mid fo i m fo2) (i + m) (fun j hj => by unfold Vl.upd; rw [if_neg (by omega)]),Nt.mid_val]
  rw [Nt.val_split] at h1
  obtain ⟨P,hP⟩ : ∃ P,4294967296 ^ i = P := ⟨_,rfl⟩
  obtain ⟨Q,hQ⟩ : ∃ Q,4294967296 ^ m = Q := ⟨_,rfl⟩
  rw [Nat.pow_add,hP,hQ]
  rw [hP] at h1
  rw [hQ] at h2
  rw [Nat.add_mul,← h1,Nat.mul_right_comm xi P Y,← Nat.mul_assoc]
  have h3 := congrArg (· * P) h2
  simp only [Nat.add_mul] at h3
  rw [Nat.mul_right_comm c P Q]
  omega

set_option maxHeartbeats 1000000 in
set_option maxRecDepth 100000 in
theorem Nt.product_any (w : World) (ax ay : Option Addr) (n cx x m cy y : Nat) (hx : Nt.Num w ax n cx x) (hy : Nt.Num w ay m cy y) (hn : n ≤ 400000) (hm : m ≤ 400000) :
    Calls Tryz.prog 127 #[.slice ax n cx,.slice ay m cy] w fun e w' => ∃ av k c,e = .returned (.slice av k c) ∧ Nt.Num w' av k c (x * y) ∧ Below w.heap.size w w' := by
  obtain ⟨_,bx,ox,fx,hLx,dx,hvx,_⟩ := hx
  obtain ⟨_,b',oy,fy,hLy,dy,hvy,_⟩ := hy
  subst hvx hvy
  obtain ⟨N,hN⟩ : ∃ N,n + m = N := ⟨_,rfl⟩
  have hNz : (n : Int) + (m : Int) = (N : Int) := by omega
  have hNb : N ≤ 1000000 := by omega
  have H0 := Lib.hid (And.intro hLx (And.intro hLy (And.intro dx (And.intro dy (And.intro hN (And.intro hn hm))))))
  clear hLx hLy dx dy hN hn hm
  go_enter Tryz.func127,Tryz.ntmps127
  go_upto_region 2 with (at_make; refine Nt.wpList_make rfl _ _ rfl N rfl rfl hNb ?_)
  have hL0 : Nt.Lim (w.alloc (Obj.cells (Array.replicate N (Value.int IntKind.u32 0)) 145)) w.heap.size 0 N (fun _ => 0) := by
    refine Nt.Lim.ofRow (T := 145) (l := List.replicate N (Value.int .u32 0)) ?_ (fun j hj => ?_) (fun _ => by decide)
    · rw [heap_alloc_new]; simp
    · rw [List.getElem?_replicate,if_pos hj]; rfl
  have hb0 := (Below.refl w.heap.size w).alloc (Nat.le_refl _) (Obj.cells (Array.replicate N (Value.int IntKind.u32 0)) 145)
  have hg : ∃ g,w.heap.size = g := ⟨_,rfl⟩
  revert hL0 hb0
  generalize w.alloc (Obj.cells (Array.replicate N (Value.int IntKind.u32 0)) 145) = w1
  intro hL0 hb0
  have HG := Lib.hid (And.intro hL0 hb0)
  clear hL0 hb0 hg
  go_wp2_with fail
  go_loopw [15] (fun iv wr => ∃ (i : Nat) (fo : Nat → Nat),i ≤ n ∧ iv = .int .i64 (i : Int) ∧ Nt.Lim wr w.heap.size 0 N fo ∧ Vl.val 4294967296 fo (i + m) = Vl.val 4294967296 fx i * Vl.val 4294967296 fy m ∧ (∀ j,i + m ≤ j → fo j = 0) ∧ Below w.heap.size w wr) (fun iv _ => n - (intOf iv).toNat)
  case atStart => exact ⟨0,fun _ => 0,Nat.zero_le _,rfl,HG.out.1,by rw [Vl.val_zero _ _ _ (fun _ _ => rfl)]; simp [Vl.val],fun _ _ => rfl,HG.out.2⟩
  case round =>
  obtain ⟨i,fo,hi,rfl,hL,hv,hz,hB⟩ := hrel
  obtain ⟨w2,rfl⟩ : ∃ w2,w2 = wr := ⟨_,rfl⟩
  by_cases hin : i < n
  · have hiz : (i : Int) < (n : Int) := by omega
    have hiz0 : 0 ≤ (i : Int) := by omega
    obtain ⟨rfl,hLx⟩ := H0.out.1 (by omega)
    obtain ⟨e,he⟩ : ∃ e,i + m = e := ⟨_,rfl⟩
    have hez : (i : Int) + (m : Int) = (e : Int) := by omega
    have heN : e < N := by have := H0.out.2.2.2.2.1; omega
    have heNz : (e : Int) < (N : Int) := by omega
    have hez0 : 0 ≤ (e : Int) := by omega
    have hie : (i : Int) ≤ (e : Int) := by omega
    have heN2 : (e : Int) ≤ (N : Int) := by omega
    have hew : IntKind.i64.wrap (e : Int) = (e : Int) := IntWalk.i64_in _ (by omega)
    have hNi : ¬ N = i := by omega
    have hei : e - i = m := by omega
    have cx2 := (hLx.below hB hLx.lt).cell i hin
    have fx2 := (hLx.below hB hLx.lt).fro i hin
    obtain ⟨x,ex⟩ : ∃ x,fx i = x := ⟨_,rfl⟩
    rw [ex] at cx2
    have hxb : x < 4294967296 := by rw [← ex]; exact H0.out.2.2.1 i
    have HA := Lib.hid (fun d => Nt.addTimes_opt (w2.drewN d) w.heap.size i m (N - i) (fun j => fo (i + j)) ay b' oy cy fy x (by have := ((hL.drewN d).shift i m (by omega)); rwa [Nat.zero_add] at this) (fun h0 => ⟨(H0.out.2.1 h0).1,((H0.out.2.1 h0).2.below hB (H0.out.2.1 h0).2.lt).drewN d,Nat.ne_of_lt (H0.out.2.1 h0).2.lt⟩) (by have := H0.out.2.2.2.2.2.2; omega) hxb)
    have HV := Lib.hid (And.intro hL (And.intro hv (And.intro hz (And.intro hB (And.intro he ex)))))
    clear hL hv hz hB he ex hxb hLx
    go_wp2_with fail
    go_region_with (go_at_call 139; refine Calls.mono (HA.out _) ?_; rintro e3 w3 ⟨c2,fo2,rfl,hcb2,hLo2,hv2,hO2⟩; have hL3 := (HV.out.1.drewN _).put i m (by rw [Nat.zero_add]; exact hLo2) (by rw [Nat.zero_add]; exact hO2); have c7 := hL3.cell e heN; have r7 := hL3.fro e heN; rw [Nat.zero_add] at c7 r7; have HO3 := Lib.hid (And.intro hL3 (And.intro hO2 (And.intro hv2 hcb2))); clear hv2 hL3 hLo2 hO2 hcb2)
    all_goals
      have hL4 := HO3.out.1.set e c2 heN HO3.out.2.2.2
      rw [Nat.zero_add] at hL4
      have hB4 := (((HV.out.2.2.2.1.trans (Tx.drewNb w2 _)).trans (HO3.out.2.1.below (Nat.le_refl _) (by rw [Nt.drewN_heap]; exact HV.out.2.2.2.1.size))).setCell (p := ⟨w.heap.size,e,none⟩) (Nat.le_refl _) (.int .u32 (c2 : Int)))
      have HL4 := Lib.hid (And.intro hL4 hB4)
      clear hL4 hB4 c7 r7
      go_wp2_with fail
      refine ⟨⟨i + 1,_,by omega,by go_num,HL4.out.1,?_,?_,HL4.out.2⟩,by simp [intOf]; omega⟩
      · have h1 := Nt.prod_step fo fo2 i m c2 x (Vl.val 4294967296 fx i) (Vl.val 4294967296 fy m) HV.out.2.1 HO3.out.2.2.1
        have he := HV.out.2.2.2.2.1
        rw [show i + 1 + m = i + m + 1 by omega,← he,h1]
        rw [← HV.out.2.2.2.2.2]
        rfl
      · intro j hj
        have he := HV.out.2.2.2.2.1
        unfold Vl.upd Nt.mid
        rw [if_neg (by omega),if_neg (by omega)]
        exact HV.out.2.2.1 j (by omega)
  · have hie : i = n := by omega
    have hiz : ¬ (i : Int) < (n : Int) := by omega
    have hv2 : Vl.val 4294967296 fo N = Vl.val 4294967296 fx n * Vl.val 4294967296 fy m := by rw [← H0.out.2.2.2.2.1,← hie]; exact hv
    have HT := Lib.hid (And.intro (Nt.trimmed_any w2 w.heap.size 0 N N fo hL (Nat.le_refl _) hNb) (And.intro hL (And.intro hB hv2)))
    clear hL hv hz hB hie hv2
    go_wp2_with (go_at_call 124; refine Calls.mono HT.out.1 ?_; rintro e1 w1 ⟨rfl,k,rfl,hk,hz,ht⟩; have HZ := Lib.hid (And.intro hk (And.intro hz ht)); clear hk hz ht)
    go_ret
    refine ⟨_,_,_,rfl,?_,HT.out.2.2.1⟩
    rw [← HT.out.2.2.2]
    exact Nt.Num.of HT.out.2.1 HZ.out.1 HZ.out.1 HZ.out.2.1 HZ.out.2.2
end
section
open Go.RowKit

/-- The limbs of a slice whose cells may be none. -/
def Nt.wide (f : Nat → Nat) (n j : Nat) : Nat := if j < n then f j else 0
theorem Nt.wide_val (f : Nat → Nat) (n m : Nat) (h : n ≤ m) : Vl.val 4294967296 (Nt.wide f n) m = Vl.val 4294967296 f n := by
  rw [Vl.val_high _ (Nt.wide f n) n m h (fun j h1 _ => by unfold Nt.wide; rw [if_neg (by omega)])]
  exact Vl.val_congr _ _ _ _ (fun j hj => by unfold Nt.wide; rw [if_pos hj])
end
end
end Go.Proofs.YthlecdggkolgmaaGreatDoor
