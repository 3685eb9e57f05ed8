/- The reference: Of, digit, Bit, Bits, Cmp. -/
import Derived.Test.YthlecdggkolgmaaGreatDoorNyC
namespace Go.Proofs.YthlecdggkolgmaaGreatDoor
section
open Go.RowKit

structure Rn.Lim (w : World) (b off n : Nat) (f : Nat → Nat) : Prop where
  cell : ∀ j,j < n → w.cell? ⟨b,off + j,none⟩ = some (.int .u64 (f j : Int))
  fro : ∀ j,j < n → w.frozen? ⟨b,off + j,none⟩ = false
  dig : ∀ j,f j < 65536
  lt : b < w.heap.size
theorem Rn.Lim.drewN {w : World} {b off n : Nat} {f : Nat → Nat} (h : Rn.Lim w b off n f) (k : Nat) : Rn.Lim (w.drewN k) b off n f := by
  have hc : (w.drewN k).heap = w.heap := by
    clear h
    induction k with
    | zero => rfl
    | succ k ih => exact ih
  exact ⟨fun j hj => by have := h.cell j hj; simp only [World.cell?,hc] at this ⊢; exact this,fun j hj => by have := h.fro j hj; simp only [World.frozen?,hc] at this ⊢; exact this,h.dig,by rw [hc]; exact h.lt⟩
theorem Rn.Lim.set {w : World} {b off n : Nat} {f : Nat → Nat} (h : Rn.Lim w b off n f) (i x : Nat) (hi : i < n) (hx : x < 65536) : Rn.Lim (w.setCell ⟨b,off + i,none⟩ (.int .u64 (x : Int))) b off n (Vl.upd f i x) := by
  refine ⟨fun j hj => ?_,fun j hj => ?_,fun j => ?_,by simpa [World.setCell] using h.lt⟩
  · unfold Vl.upd
    by_cases e : j = i
    · subst e
      rw [if_pos rfl]
      exact World.cell?_setCell_same _ _ _ (h.cell j hj)
    · rw [if_neg e,World.cell?_setCell_other _ _ _ _ (fun c => e (by have : off + i = off + j := congrArg Addr.off c; omega))]
      exact h.cell j hj
  · rw [World.frozen?_setCell]
    exact h.fro j hj
  · unfold Vl.upd
    split
    · exact hx
    · exact h.dig j
theorem Rn.Lim.only {w w' : World} {b off n c o m : Nat} {f : Nat → Nat} (h : Rn.Lim w b off n f) (ho : Nt.Only c o m w w') (hne : b ≠ c) : Rn.Lim w' b off n f := by
  have e := ho.block b h.lt hne
  exact ⟨fun j hj => by have := h.cell j hj; simp only [World.cell?,e] at this ⊢; exact this,fun j hj => by have := h.fro j hj; simp only [World.frozen?,e] at this ⊢; exact this,h.dig,Nat.lt_of_lt_of_le h.lt ho.size⟩
theorem Rn.Lim.below {w w' : World} {b off n B : Nat} {f : Nat → Nat} (h : Rn.Lim w b off n f) (hb : Below B w w') (hB : b < B) : Rn.Lim w' b off n f :=
  ⟨fun j hj => (hb.cell (p := ⟨b,off + j,none⟩) hB).trans (h.cell j hj),fun j hj => (hb.frozen (p := ⟨b,off + j,none⟩) hB).trans (h.fro j hj),h.dig,Nat.lt_of_lt_of_le h.lt hb.size⟩
theorem Rn.Lim.ofRow {w : World} {b n : Nat} {T : TypeId} {l : List Value} {f : Nat → Nat} (h : w.heap[b]? = some (.cells l.toArray T (0,0))) (hl : ∀ j,j < n → l[j]? = some (.int .u64 (f j : Int))) (hf : ∀ j,f j < 65536) : Rn.Lim w b 0 n f := by
  have hb : b < w.heap.size := (Array.getElem?_eq_some_iff.1 h).1
  have h' : w.heap[b]? = some (.cells l.toArray T (0,0)) := h
  refine ⟨fun j hj => ?_,fun j _ => ?_,hf,hb⟩
  · simp only [World.cell?,h',Nat.zero_add]
    simpa using hl j hj
  · simp [World.frozen?,h']
theorem Rn.info64 : (Tryz.prog.info? 76).map (fun i => (i.zero,i.size,i.bytes)) = some (some (.int .u64 0),1,8) := by kernel_rfl
theorem Rn.made (c : Nat) : madeCells (Value.int .u64 0).cells (c * 1) = (List.replicate c (Value.int .u64 0)).toArray := by
  apply Array.ext_getElem?
  intro j
  by_cases hj : j < c
  · simp [madeCells,Value.cells,hj,Nat.mod_one]
  · rw [Array.getElem?_eq_none (by rw [size_madeCells]; omega),Array.getElem?_eq_none (by simp; omega)]
theorem Rn.wpList_makeW {w : World} {ops : Array Oper} {rest : List Oper} {o : Oper} {a : Act} {Q : Exit → Act → World → Prop} (hg : o.guard = none) (l c : Operand) (hop : o.op = Op.makeSlice 49 l c) (C : Nat)
    (hl : a.eval l = .int .i64 (C : Int)) (hc : a.eval c = .int .i64 (C : Int)) (hC : C ≤ 10000000)
    (hK : wpList Tryz.prog ops Q rest (a.put o.dst (.slice (some ⟨w.heap.size,0,none⟩) C C)) (w.alloc (.cells (List.replicate C (Value.int .u64 0)).toArray 76))) : wpList Tryz.prog ops Q (o :: rest) a w := by
  obtain ⟨i0,hi,hz0,hz1,hz2⟩ := info_parts Rn.info64
  have hr := run_make (P := Tryz.prog) w 49 76 i0 (.int .u64 0) Tryz.underlying49 hi hz0 .i64 .i64 (C : Int) (C : Int) (by omega) (by omega) (by rw [hz2]; omega) (by omega)
  rw [hz1] at hr
  simp only [Int.toNat_natCast] at hr
  rw [Rn.made] at hr
  refine wpList_plain hg fun K hK2 => ?_
  unfold Oper.wp
  simp [execOp,hop,hl,hc,hr,Result.andThen]
  exact hK2 _ _ hK
theorem Rn.wpList_make {w : World} {ops : Array Oper} {rest : List Oper} {o : Oper} {a : Act} {Q : Exit → Act → World → Prop} (hg : o.guard = none) (l c : Operand) (hop : o.op = Op.makeSlice 49 l c) (C : Nat)
    (hl : a.eval l = .int .i64 (C : Int)) (hc : a.eval c = .int .i64 (C : Int)) (hC : C ≤ 1000000)
    (hK : wpList Tryz.prog ops Q rest (a.put o.dst (.slice (some ⟨w.heap.size,0,none⟩) C C)) (w.alloc (.cells (List.replicate C (Value.int .u64 0)).toArray 76))) : wpList Tryz.prog ops Q (o :: rest) a w :=
  Rn.wpList_makeW hg l c hop C hl hc (by omega) hK
theorem Rn.Lim.top {w : World} {b off n : Nat} {f : Nat → Nat} (h : Rn.Lim w b off n f) (m : Nat) (hm : m ≤ n) : Rn.Lim w b off m f := ⟨fun j hj => h.cell j (by omega),fun j hj => h.fro j (by omega),h.dig,h.lt⟩

/-- The slice of n limbs at ax is the number x: least first, the last one not 0. -/
structure Rn.Num (w : World) (ax : Option Addr) (n cx x : Nat) : Prop where
  cap : n ≤ cx
  ex : ∃ b off f,(0 < n → ax = some ⟨b,off,none⟩ ∧ Rn.Lim w b off n f) ∧ (∀ j,f j < 65536) ∧ Vl.val 65536 f n = x ∧ (n = 0 ∨ f (n - 1) ≠ 0)
theorem Rn.Num.nil (w : World) : Rn.Num w none 0 0 0 := ⟨Nat.le_refl _,0,0,fun _ => 0,fun h => absurd h (Nat.lt_irrefl 0),fun _ => (show (0 : Nat) < 65536 by decide),rfl,.inl rfl⟩
theorem Rn.Num.below {w w' : World} {ax : Option Addr} {n cx x : Nat} (h : Rn.Num w ax n cx x) (hb : Below w.heap.size w w') : Rn.Num w' ax n cx x := by
  obtain ⟨hc,b,off,f,h1,h2,h3,h4⟩ := h
  exact ⟨hc,b,off,f,fun h0 => ⟨(h1 h0).1,(h1 h0).2.below hb (h1 h0).2.lt⟩,h2,h3,h4⟩
theorem Rn.Num.drewN {w : World} {ax : Option Addr} {n cx x : Nat} (h : Rn.Num w ax n cx x) (k : Nat) : Rn.Num (w.drewN k) ax n cx x := h.below (below_drewN (Below.refl _ _) k)
theorem Rn.Num.zero {w : World} {ax : Option Addr} {n cx x : Nat} (h : Rn.Num w ax n cx x) : n = 0 ↔ x = 0 := by
  obtain ⟨_,b,off,f,_,h2,h3,h4⟩ := h
  constructor
  · rintro rfl
    rw [← h3]
    rfl
  · intro hx
    rcases h4 with h | h
    · exact h
    · rcases Nat.eq_zero_or_pos n with h0 | h0
      · exact h0
      · exfalso
        obtain ⟨m,rfl⟩ : ∃ m,n = m + 1 := ⟨n - 1,by omega⟩
        rw [hx] at h3
        unfold Vl.val at h3
        have : f m * 65536 ^ m = 0 := by omega
        rcases Nat.mul_eq_zero.1 this with h5 | h5
        · exact h h5
        · have := Nat.pow_pos (n := m) (show 0 < 65536 by decide)
          omega
/-- A number below B^m has m limbs at most. -/
theorem Rn.Num.len {w : World} {ax : Option Addr} {n cx x : Nat} (h : Rn.Num w ax n cx x) (m : Nat) (hx : x < 65536 ^ m) : n ≤ m := by
  obtain ⟨_,b,off,f,_,h2,h3,h4⟩ := h
  rcases h4 with rfl | h4
  · omega
  · rcases Nat.lt_or_ge m n with h0 | h0
    · exfalso
      obtain ⟨k,rfl⟩ : ∃ k,n = k + 1 := ⟨n - 1,by omega⟩
      unfold Vl.val at h3
      have h5 : 1 ≤ f k := Nat.pos_of_ne_zero h4
      have h6 : 65536 ^ k ≤ f k * 65536 ^ k := Nat.le_mul_of_pos_left _ h5
      have h7 : 65536 ^ m ≤ 65536 ^ k := Nat.pow_le_pow_right (by decide) (by omega)
      omega
    · exact h0
theorem Rn.Num.lt {w : World} {ax : Option Addr} {n cx x : Nat} (h : Rn.Num w ax n cx x) : x < 65536 ^ n := by
  obtain ⟨_,b,off,f,_,h2,h3,h4⟩ := h
  rw [← h3]
  exact Vl.val_lt _ (by decide) f n (fun j _ => h2 j)
theorem Rn.Num.mono {w : World} {ax ay : Option Addr} {n cx x m cy y : Nat} (h : Rn.Num w ax n cx x) (g : Rn.Num w ay m cy y) (hxy : x ≤ y) : n ≤ m := h.len m (Nat.lt_of_le_of_lt hxy g.lt)
/-- What trimmed leaves of a block. -/
theorem Rn.Num.of {w : World} {b off N m c : Nat} {f : Nat → Nat} (h : Rn.Lim w b off N f) (hm : m ≤ N) (hc : m ≤ c) (hz : ∀ j,m ≤ j → j < N → f j = 0) (ht : m = 0 ∨ f (m - 1) ≠ 0) : Rn.Num w (some ⟨b,off,none⟩) m c (Vl.val 65536 f N) :=
  ⟨hc,b,off,f,fun _ => ⟨rfl,h.top m hm⟩,h.dig,(Vl.val_high _ f m N hm hz).symm,ht⟩
set_option maxHeartbeats 1000000 in
set_option maxRecDepth 100000 in
theorem Rn.trimmed_anyW (w : World) (b o n c : Nat) (f : Nat → Nat) (hx : Rn.Lim w b o n f) (hc : n ≤ c) (hn : c ≤ 10000000) :
    Calls Tryz.prog 45 #[.slice (some ⟨b,o,none⟩) n c] w fun e w' => w' = w ∧ ∃ m,e = .returned (.slice (some ⟨b,o,none⟩) m c) ∧ m ≤ n ∧ (∀ j,m ≤ j → j < n → f j = 0) ∧ (m = 0 ∨ f (m - 1) ≠ 0) := by
  go_enter Tryz.func45,Tryz.ntmps45
  go_wp2_with fail
  go_loop [0] (fun v => ∃ (m : Nat),m ≤ n ∧ v = .slice (some ⟨b,o,none⟩) m c ∧ ∀ j,m ≤ j → j < n → f j = 0) (fun v => match v with | .slice _ m _ => m | _ => 0)
  case atStart => exact ⟨n,Nat.le_refl _,rfl,fun j h1 h2 => by omega⟩
  case round =>
  obtain ⟨m,hm,rfl,hz⟩ := hrel
  by_cases hm0 : m = 0
  · subst hm0
    have HZ := Lib.hid hz
    clear hz
    go_wp2_with fail
    go_ret
    exact ⟨rfl,0,rfl,Nat.zero_le _,HZ.out,.inl rfl⟩
  · obtain ⟨a,rfl⟩ : ∃ a,m = a + 1 := ⟨m - 1,by omega⟩
    have hmz : (0 : Int) < ((a + 1 : Nat) : Int) := by omega
    have ca := hx.cell a (by omega)
    have ea : ((a + 1 : Nat) : Int) - 1 = (a : Int) := by omega
    have ea0 : 0 ≤ (a : Int) := by omega
    have eal : (a : Int) < ((a + 1 : Nat) : Int) := by omega
    have eac : (a : Int) ≤ (c : Int) := by omega
    obtain ⟨x,ex⟩ : ∃ x,f a = x := ⟨_,rfl⟩
    rw [ex] at ca
    have HZ := Lib.hid (And.intro hz ex)
    obtain ⟨m1,hm1⟩ : ∃ m1,a + 1 = m1 := ⟨_,rfl⟩
    rw [hm1] at hmz ea eal hm ⊢
    have haw : wrap64 (a : Int) = (a : Int) := by unfold wrap64; omega
    have HM := Lib.hid hm1
    clear hz ex hm1 hm0
    by_cases hx0 : x = 0
    · subst hx0
      go_wp2_with fail
      refine ⟨⟨a,by have := HM.out; omega,rfl,fun j h1 h2 => ?_⟩,by have := HM.out; show a < m1; omega⟩
      by_cases hj : j = a
      · rw [hj]; exact HZ.out.2
      · exact HZ.out.1 j (by omega) h2
    · have hx0z : ((x : Int) == 0) = false := by rw [beq_eq_false_iff_ne]; omega
      go_wp2_with fail
      go_ret
      exact ⟨rfl,m1,rfl,hm,(by rw [← HM.out]; exact HZ.out.1),.inr (by rw [← HM.out]; show f a ≠ 0; rw [HZ.out.2]; exact hx0)⟩
theorem Rn.trimmed_any (w : World) (b o n c : Nat) (f : Nat → Nat) (hx : Rn.Lim w b o n f) (hc : n ≤ c) (hn : c ≤ 1000000) :
    Calls Tryz.prog 45 #[.slice (some ⟨b,o,none⟩) n c] w fun e w' => w' = w ∧ ∃ m,e = .returned (.slice (some ⟨b,o,none⟩) m c) ∧ m ≤ n ∧ (∀ j,m ≤ j → j < n → f j = 0) ∧ (m = 0 ∨ f (m - 1) ≠ 0) :=
  Rn.trimmed_anyW w b o n c f hx hc (by omega)
theorem Rn.Num.mono2 {w w2 : World} {ax ay : Option Addr} {n cx x m cy y : Nat} (h : Rn.Num w ax n cx x) (g : Rn.Num w2 ay m cy y) (hxy : x ≤ y) : n ≤ m := h.len m (Nat.lt_of_le_of_lt hxy g.lt)
theorem Rn.Num.bytes {w : World} {ax : Option Addr} {n cx x : Nat} (h : Rn.Num w ax n cx x) (k b : Nat) (hx : x < 256 ^ b) (hb : b ≤ 2 * k) : n ≤ k := h.len k (by
  have h2 : 256 ^ b ≤ 256 ^ (2 * k) := Nat.pow_le_pow_right (by decide) hb
  rw [Nat.pow_mul] at h2
  exact Nat.lt_of_lt_of_le hx h2)
end
section
section
open Go.RowKit

theorem Rn.of_step (f : Nat → Nat) (N V i a r c : Nat) (hi : i = 2 * a + r) (hr : r < 2) (ha : a < N) (hv : Vl.val 65536 f N = V) (hV : V < 256 ^ i) (hc : c < 256) :
    f a + c * 256 ^ r < 65536 ∧ Vl.val 65536 (Vl.upd f a (f a + c * 256 ^ r)) N = V + c * 256 ^ i := by
  have eP : (256 : Nat) ^ i = 256 ^ r * 65536 ^ a := by
    rw [hi,Nat.add_comm,Nat.pow_add,Nat.pow_mul]
  have hle : f a * 65536 ^ a ≤ V := by
    have e1 := Nt.val_split 65536 f a (N - a)
    rw [show a + (N - a) = N by omega,hv] at e1
    obtain ⟨m,hm⟩ : ∃ m,N - a = 1 + m := ⟨N - a - 1,by omega⟩
    have e2 := Nt.val_split 65536 (fun j => f (a + j)) 1 m
    rw [hm,e2] at e1
    have e3 : Vl.val 65536 (fun j => f (a + j)) 1 = f a := by simp [Vl.val]
    rw [e3,Nat.add_mul] at e1
    omega
  have h1 : f a < 256 ^ r := by
    rw [eP] at hV
    exact Nat.lt_of_mul_lt_mul_right (Nat.lt_of_le_of_lt hle hV)
  have hr2 : r = 0 ∨ r = 1 := by omega
  refine ⟨?_,?_⟩
  · rcases hr2 with rfl | rfl
    · rw [Nat.pow_zero] at h1 ⊢; omega
    · rw [Nat.pow_one] at h1 ⊢; omega
  · have h5 := Vl.val_upd 65536 f a (f a + c * 256 ^ r) N ha
    rw [Nat.add_mul,hv,Nat.mul_assoc c,← eP] at h5
    omega
theorem Rn.bit_val (f : Nat → Nat) (hf : ∀ j,f j < 65536) (n a r : Nat) (ha : a < n) (hr : r < 16) : Vl.val 65536 f n / 2 ^ (16 * a + r) % 2 = f a / 2 ^ r % 2 := by
  have e1 := Nt.val_split 65536 f a (n - a)
  rw [show a + (n - a) = n by omega] at e1
  obtain ⟨m,hm⟩ : ∃ m,n - a = 1 + m := ⟨n - a - 1,by omega⟩
  have e2 := Nt.val_split 65536 (fun j => f (a + j)) 1 m
  rw [hm,e2] at e1
  have e3 : Vl.val 65536 (fun j => f (a + j)) 1 = f a := by simp [Vl.val]
  rw [e3] at e1
  obtain ⟨H,hH⟩ : ∃ H,Vl.val 65536 (fun j => f (a + (1 + j))) m = H := ⟨_,rfl⟩
  rw [hH] at e1
  have hl : Vl.val 65536 f a < 65536 ^ a := Vl.val_lt _ (by decide) f a (fun j _ => hf j)
  have eP : (2 : Nat) ^ (16 * a) = 65536 ^ a := by rw [Nat.pow_mul]
  rw [Nat.pow_add,← Nat.div_div_eq_div_mul,eP,e1]
  have hp : 0 < 65536 ^ a := Nat.pow_pos (by decide)
  rw [Nat.add_mul_div_right _ _ hp,Nat.div_eq_of_lt hl,Nat.zero_add,Nat.pow_one]
  have e4 : (65536 : Nat) = 2 ^ r * (2 * 2 ^ (15 - r)) := by rw [← Nat.pow_succ',← Nat.pow_add,show r + (15 - r + 1) = 16 by omega]
  have hr0 : 0 < 2 ^ r := Nat.two_pow_pos r
  rw [e4,Nat.mul_left_comm,Nat.add_mul_div_left _ _ hr0,Nat.mul_left_comm,Nat.add_mul_mod_self_left]
/-- Two bytes more behind a number's form. -/
theorem Rn.fm_more (X d : Nat) (hX : 0 < X) (hd : d < 65536) : Nt.fm (X * 65536 + d) = Nt.fm X ++ [UInt8.ofNat (d / 256),UInt8.ofNat (d % 256)] := by
  have h : Nt.rd (Nt.fm X ++ [UInt8.ofNat (d / 256),UInt8.ofNat (d % 256)]) = X * 65536 + d := by
    rw [Nt.rd_append,Nt.rd_fm]
    show X * 256 ^ 2 + ((UInt8.ofNat (d / 256)).toNat * 256 ^ 1 + ((UInt8.ofNat (d % 256)).toNat * 256 ^ 0 + 0)) = _
    rw [UInt8.toNat_ofNat',UInt8.toNat_ofNat']
    omega
  rw [← h]
  refine (Nt.fm_rd _ (fun c hc => ?_))
  rcases hL : Nt.fm X with _ | ⟨e,t⟩
  · have := Nt.rd_fm X
    rw [hL] at this
    have : X = 0 := this.symm
    omega
  · rw [hL] at hc
    simp at hc
    subst hc
    exact Nt.fm_head X _ _ hL
theorem Rn.fm_two (d : Nat) (hd : d < 65536) (h : 255 < d) : Nt.fm d = [UInt8.ofNat (d / 256),UInt8.ofNat (d % 256)] := by
  have e : Nt.rd [UInt8.ofNat (d / 256),UInt8.ofNat (d % 256)] = d := by
    show (UInt8.ofNat (d / 256)).toNat * 256 ^ 1 + ((UInt8.ofNat (d % 256)).toNat * 256 ^ 0 + 0) = _
    rw [UInt8.toNat_ofNat',UInt8.toNat_ofNat']
    omega
  rw [← e]
  rw [e]
  have := Nt.fm_rd [UInt8.ofNat (d / 256),UInt8.ofNat (d % 256)] (fun c hc => by
    simp at hc
    subst hc
    intro h0
    have := congrArg UInt8.toNat h0
    rw [UInt8.toNat_ofNat'] at this
    have h1 : d / 256 % 256 = 0 := this
    omega)
  rw [e] at this
  exact this
theorem Rn.fm_one (d : Nat) (hd : d < 256) (h : 0 < d) : Nt.fm d = [UInt8.ofNat d] := by
  have e : Nt.rd [UInt8.ofNat d] = d := by
    show (UInt8.ofNat d).toNat * 256 ^ 0 + 0 = d
    rw [UInt8.toNat_ofNat']
    omega
  have := Nt.fm_rd [UInt8.ofNat d] (fun c hc => by
    simp at hc
    subst hc
    intro h0
    have := congrArg UInt8.toNat h0
    rw [UInt8.toNat_ofNat'] at this
    have h1 : d % 256 = 0 := this
    omega)
  rw [e] at this
  exact this
end
section
open Go.RowKit

theorem Rn.u64_eq (x : Int) (y : Nat) (h : x = (y : Int)) (hy : y < 18446744073709551616) : IntKind.u64.wrap x = (y : Int) := by rw [h]; exact IntWalk.u64_in _ (by omega)
set_option maxHeartbeats 1000000 in
set_option maxRecDepth 100000 in
theorem Rn.Of_any (w : World) (s : ByteArray) (hs : s.size ≤ 8000000) :
    Calls Tryz.prog 24 #[.string s] w fun e w' => ∃ av k c,e = .returned (.slice av k c) ∧ Rn.Num w' av k c (Nt.nv s) ∧ Below w.heap.size w w' := by
  obtain ⟨L,hL⟩ : ∃ L,s.size = L := ⟨_,rfl⟩
  have hsz : (s.size : Int) = (L : Int) := by rw [hL]
  have hlist : s.data.toList.length = L := by rw [← hL]; simp
  have hval := Nt.rd_val s.data.toList
  rw [hlist] at hval
  obtain ⟨h,hh⟩ : ∃ h,L / 2 = h := ⟨_,rfl⟩
  obtain ⟨N,hN⟩ : ∃ N,h + 1 = N := ⟨_,rfl⟩
  have hhz : (L : Int) / 2 = (h : Int) := by omega
  have hNz : (h : Int) + 1 = (N : Int) := by omega
  have hLb : (L : Int) ≤ 8000000 := by omega
  have hhb : (h : Int) ≤ 8000000 := by omega
  have hNb : (N : Int) ≤ 8000001 := by omega
  have hNb2 : N ≤ 10000000 := by omega
  have H0 := Lib.hid (And.intro hL (And.intro hlist (And.intro hval (And.intro hh hN))))
  clear hL hlist hval hh hN hs
  go_enter Tryz.func24,Tryz.ntmps24
  go_upto_region 2 with (at_make; refine Rn.wpList_makeW rfl _ _ rfl N rfl rfl hNb2 ?_)
  have hL0 : Rn.Lim (w.alloc (Obj.cells (Array.replicate N (Value.int IntKind.u64 0)) 76)) w.heap.size 0 N (fun _ => 0) := by
    refine Rn.Lim.ofRow (T := 76) (l := List.replicate N (Value.int .u64 0)) ?_ (fun j hj => ?_) (fun _ => by decide)
    · rw [heap_alloc_new]; simp
    · rw [List.getElem?_replicate,if_pos hj]; rfl
  have hb0 := (Below.refl w.heap.size w).alloc (Nat.le_refl _) (Obj.cells (Array.replicate N (Value.int IntKind.u64 0)) 76)
  obtain ⟨g,hg⟩ : ∃ g,w.heap.size = g := ⟨_,rfl⟩
  revert hL0 hb0
  generalize w.alloc (Obj.cells (Array.replicate N (Value.int IntKind.u64 0)) 76) = w1
  rw [hg]
  intro hL0 hb0
  have HG := Lib.hid (And.intro hg (And.intro hL0 hb0))
  clear hg hL0 hb0
  go_wp2_with fail
  go_loopw [4] (fun iv wr => ∃ (i : Nat) (f : Nat → Nat),i ≤ L ∧ iv = .int .i64 (i : Int) ∧ Rn.Lim wr g 0 N f ∧ Vl.val 65536 f N = Vl.val 256 (Nt.lo s.data.toList) i ∧ Below g w wr) (fun iv _ => L - (intOf iv).toNat)
  case atStart => exact ⟨0,_,Nat.zero_le _,rfl,HG.out.2.1,by rw [Vl.val_zero _ _ _ (fun _ _ => rfl)]; rfl,HG.out.2.2⟩
  case round =>
  obtain ⟨i,f,hi,rfl,hLm,hv,hB⟩ := hrel
  obtain ⟨w3,rfl⟩ : ∃ w3,w3 = wr := ⟨_,rfl⟩
  by_cases hin : i < L
  · have hiz : (i : Int) < (L : Int) := by omega
    have hiz0 : 0 ≤ (i : Int) := by omega
    obtain ⟨L1,hL1⟩ : ∃ L1,L - 1 = L1 := ⟨_,rfl⟩
    obtain ⟨p,hp⟩ : ∃ p,L1 - i = p := ⟨_,rfl⟩
    obtain ⟨a,ha⟩ : ∃ a,i / 2 = a := ⟨_,rfl⟩
    obtain ⟨r,hr⟩ : ∃ r,i % 2 = r := ⟨_,rfl⟩
    have hall := H0.out
    have haN : a < N := by omega
    have hps : p < s.size := by omega
    obtain ⟨c,hc⟩ : ∃ c,s[p] = c := ⟨_,rfl⟩
    obtain ⟨ch,hch⟩ : ∃ ch,c.toNat = ch := ⟨_,rfl⟩
    have hchb : ch < 256 := by rw [← hch]; exact c.toNat_lt
    have hlo : Nt.lo s.data.toList i = ch := by
      unfold Nt.lo
      rw [hall.2.1,show L - 1 - i = p by omega,List.getD_eq_getElem?_getD,List.getElem?_eq_getElem (by rw [hall.2.1]; omega)]
      show (s[p]).toNat = ch
      rw [hc,hch]
    have hVb : Vl.val 256 (Nt.lo s.data.toList) i < 256 ^ i := Vl.val_lt 256 (by decide) _ i (fun j _ => UInt8.toNat_lt _)
    have hst := Rn.of_step f N _ i a r ch (by omega) (by omega) haN hv hVb hchb
    have cx := hLm.cell a haN
    have rx := hLm.fro a haN
    have dx := hLm.dig a
    obtain ⟨x,ex⟩ : ∃ x,f a = x := ⟨_,rfl⟩
    rw [ex] at hst cx dx
    rw [Nat.zero_add] at cx rx
    obtain ⟨v,hv2⟩ : ∃ v,ch * 256 ^ r = v := ⟨_,rfl⟩
    rw [hv2] at hst
    obtain ⟨y,hy⟩ : ∃ y,x + v = y := ⟨_,rfl⟩
    rw [hy] at hst
    have hLs := hLm.set a y haN hst.1
    have hBs := hB.setCell (p := ⟨g,a,none⟩) (Nat.le_refl _) (.int .u64 (y : Int))
    rw [Nat.zero_add] at hLs
    have e1 : Vl.val 65536 (Vl.upd f a y) N = Vl.val 256 (Nt.lo s.data.toList) (i + 1) := by
      rw [hst.2,Vl.val,hlo]
    have hL1z : (L : Int) - 1 = (L1 : Int) := by omega
    have hpz : (L1 : Int) - (i : Int) = (p : Int) := by omega
    have haz0 : 0 ≤ (a : Int) := by omega
    have haNz : (a : Int) < (N : Int) := by omega
    have hpz0 : 0 ≤ (p : Int) := by omega
    have hpL : (p : Int) < (L : Int) := by omega
    have hq3 : (i : Int) / 2 = (a : Int) := by omega
    have hq4 : (i : Int) % 2 = (r : Int) := by omega
    have hpb : (p : Int) ≤ 8000000 := by omega
    have hab : (a : Int) ≤ 8000000 := by omega
    have hL1b : (L1 : Int) ≤ 8000000 := by omega
    have hyz : (x : Int) + (v : Int) = (y : Int) := by omega
    have hyb := hst.1
    have hvb : v < 65536 := by omega
    have hchv : r = 0 → v = ch := fun h0 => by rw [← hv2,h0,Nat.pow_zero,Nat.mul_one]
    have hchw : r = 1 → (ch : Int) * 256 = (v : Int) := fun h0 => by rw [← hv2,h0]; simp
    have HV := Lib.hid (And.intro hLs (And.intro hBs e1))
    have hr01 : r = 0 ∨ r = 1 := by omega
    have k1 : IntKind.u64.wrap (ch : Int) = (ch : Int) := Rn.u64_eq _ _ rfl (by omega)
    have k2 : IntKind.u64.wrap (v : Int) = (v : Int) := Rn.u64_eq _ _ rfl (by omega)
    have k3 : IntKind.u64.wrap (y : Int) = (y : Int) := Rn.u64_eq _ _ rfl (by omega)
    clear hst hLs hBs e1 hv hB hLm hL1 hp ha hr hall hv2 hy ex hlo hVb hchb dx
    rcases hr01 with hr0 | hr1
    · obtain rfl := hchv hr0
      subst hr0
      clear hchv hchw
      go_wp2_with fail
      exact ⟨⟨i + 1,_,by omega,by go_num,HV.out.1,HV.out.2.2,HV.out.2.1⟩,by simp [intOf]; omega⟩
    · have hmul := hchw hr1
      subst hr1
      clear hchv hchw
      go_wp2_with fail
      exact ⟨⟨i + 1,_,by omega,by go_num,HV.out.1,HV.out.2.2,HV.out.2.1⟩,by simp [intOf]; omega⟩
  · have hie : i = L := by omega
    have hiz : ¬ (i : Int) < (L : Int) := by omega
    have HT := Lib.hid (And.intro (Rn.trimmed_anyW w3 g 0 N N f hLm (Nat.le_refl _) hNb2) (And.intro hLm (And.intro hB (by rw [hv,hie,H0.out.2.2.1]; rfl : Vl.val 65536 f N = Nt.nv s))))
    clear hLm hv hB hie
    go_wp2_with (go_at_call 45; refine Calls.mono HT.out.1 ?_; rintro e1 w4 ⟨rfl,k,rfl,hk,hz,ht⟩; have HZ := Lib.hid (And.intro hk (And.intro hz ht)); clear hk hz ht)
    go_ret
    refine ⟨_,_,_,rfl,?_,HT.out.2.2.1.mono (Nat.le_of_eq HG.out.1)⟩
    rw [← HT.out.2.2.2]
    exact Rn.Num.of HT.out.2.1 HZ.out.1 HZ.out.1 HZ.out.2.1 HZ.out.2.2
theorem Rn.digit_in (w : World) (b off n cx : Nat) (f : Nat → Nat) (h : Rn.Lim w b off n f) (i : Nat) (hi : i < n) :
    Calls Tryz.prog 71 #[.slice (some ⟨b,off,none⟩) n cx,.int .i64 (i : Int)] w fun e w' => e = .returned (.int .u64 ((f i : Nat) : Int)) ∧ w' = w := by
  have hc := h.cell i hi
  obtain ⟨x,hx⟩ : ∃ x,f i = x := ⟨_,rfl⟩
  rw [hx] at hc ⊢
  have hiz : (i : Int) < (n : Int) := by omega
  have hi0 : 0 ≤ (i : Int) := by omega
  clear h hx
  go_enter Tryz.func71,Tryz.ntmps71
  go_wp2_with fail
  go_ret
  exact ⟨rfl,rfl⟩
theorem Rn.digit_out (w : World) (ax : Option Addr) (n cx : Nat) (i : Nat) (hi : n ≤ i) :
    Calls Tryz.prog 71 #[.slice ax n cx,.int .i64 (i : Int)] w fun e w' => e = .returned (.int .u64 0) ∧ w' = w := by
  have hiz : ¬ (i : Int) < (n : Int) := by omega
  go_enter Tryz.func71,Tryz.ntmps71
  go_wp2_with fail
  go_ret
  exact ⟨rfl,rfl⟩
theorem Rn.Bit_any (w : World) (ax : Option Addr) (n cx x k : Nat) (hx : Rn.Num w ax n cx x) (hn : n ≤ 1000000) (hk : k < 16 * n) :
    Calls Tryz.prog 44 #[.slice ax n cx,.int .i64 (k : Int)] w fun e w' => e = .returned (.int .u64 ((x / 2 ^ k % 2 : Nat) : Int)) ∧ w' = w := by
  obtain ⟨_,bx,ox,fx,hLx,dx,hvx,_⟩ := hx
  obtain ⟨rfl,hL⟩ := hLx (by omega)
  obtain ⟨a,ha⟩ : ∃ a,k / 16 = a := ⟨_,rfl⟩
  obtain ⟨r,hr⟩ : ∃ r,k % 16 = r := ⟨_,rfl⟩
  have hr16 : r < 16 := by omega
  have han : a < n := by omega
  have hb := Rn.bit_val fx dx n a r han hr16
  rw [show 16 * a + r = k by omega,hvx] at hb
  rw [hb]
  have hD := Rn.digit_in w bx ox n cx fx hL a han
  have htb := dx a
  obtain ⟨t,et⟩ : ∃ t,fx a = t := ⟨_,rfl⟩
  rw [et] at hD htb ⊢
  have haz : (k : Int) / 16 = (a : Int) := by omega
  have hrz : (k : Int) % 16 = (r : Int) := by omega
  have hr0 : ¬ (r : Int) < 0 := by omega
  have hk0 : 0 ≤ (k : Int) := by omega
  have hmin : min r 64 = r := Nat.min_eq_left (by omega)
  have hs : (t : Int) / 2 ^ r = ((t / 2 ^ r : Nat) : Int) := by simp
  obtain ⟨s,es⟩ : ∃ s,t / 2 ^ r = s := ⟨_,rfl⟩
  rw [es] at hs ⊢
  have hsb : s < 65536 := by rw [← es]; exact Nat.lt_of_le_of_lt (Nat.div_le_self _ _) htb
  have hand : bits .and .u64 (s : Int) 1 = ((s % 2 : Nat) : Int) := by
    have := u64_and_nat s 1 (by omega) (by decide)
    rw [Nat.and_one_is_mod] at this
    exact this
  have HD := Lib.hid hD
  clear hb hLx hL dx hvx et ha hr es htb hsb hD
  go_enter Tryz.func44,Tryz.ntmps44
  go_wp2_with (go_at_call 71; refine Calls.mono HD.out ?_; rintro e1 w1 ⟨rfl,rfl⟩)
  go_ret
  exact ⟨rfl,rfl⟩
set_option maxHeartbeats 1000000 in
theorem Rn.Bits_any (w : World) (ax : Option Addr) (n cx x : Nat) (hx : Rn.Num w ax n cx x) (hn : n ≤ 1000000) :
    Calls Tryz.prog 23 #[.slice ax n cx] w fun e w' => e = .returned (.int .i64 ((Nt.dig x : Nat) : Int)) ∧ w' = w := by
  have hlt : x < 2 ^ (16 * n) := by rw [Nat.pow_mul]; exact hx.lt
  have HB := Lib.hid (fun k hk => Rn.Bit_any w ax n cx x k hx hn hk)
  obtain ⟨T,hT⟩ : ∃ T,16 * n = T := ⟨_,rfl⟩
  have hTz : 16 * (n : Int) = (T : Int) := by omega
  have hTb : (T : Int) ≤ 16000000 := by omega
  obtain ⟨D,hD⟩ : ∃ D,Nt.dig x = D := ⟨_,rfl⟩
  rw [hT] at hlt
  rw [hD]
  have H0 := Lib.hid (And.intro hlt (And.intro hT hD))
  clear hx hlt hT hD
  go_enter Tryz.func23,Tryz.ntmps23
  go_wp2_with fail
  go_loop [3] (fun v => ∃ (m : Nat),m ≤ T ∧ v = .int .i64 (m : Int) ∧ x < 2 ^ m) (fun v => (intOf v).toNat)
  case atStart => exact ⟨T,Nat.le_refl _,rfl,H0.out.1⟩
  case round =>
  obtain ⟨m,hm,rfl,hz⟩ := hrel
  by_cases hm0 : m = 0
  · subst hm0
    have hd : D = 0 := by
      rw [← H0.out.2.2]
      have : x = 0 := by omega
      rw [this]; rfl
    have HD := Lib.hid hd
    clear hz hd
    go_wp2_with fail
    go_ret
    exact ⟨by rw [HD.out]; rfl,rfl⟩
  · obtain ⟨q,hq⟩ : ∃ q,m - 1 = q := ⟨_,rfl⟩
    have hmz : (0 : Int) < (m : Int) := by omega
    have hqz : (m : Int) - 1 = (q : Int) := by omega
    have hqb : (q : Int) ≤ 16000000 := by omega
    have hq0 : 0 ≤ (q : Int) := by omega
    have hBt := HB.out q (by have := H0.out; omega)
    obtain ⟨b,hb⟩ : ∃ b,x / 2 ^ q % 2 = b := ⟨_,rfl⟩
    rw [hb] at hBt
    have hb2 : b < 2 := by rw [← hb]; exact Nat.mod_lt _ (by decide)
    have hmq : m = q + 1 := by omega
    have hz2 : x / 2 ^ q < 2 := Nat.div_lt_of_lt_mul (by rw [hmq,Nat.pow_succ] at hz; exact hz)
    have HBt := Lib.hid hBt
    have HM := Lib.hid (And.intro hmq (And.intro hb (And.intro hz hz2)))
    clear hBt hq hmq hb hz hz2 hm0
    rcases (show b = 0 ∨ b = 1 by omega) with rfl | rfl
    · go_wp2_with (go_at_call 44; refine Calls.mono HBt.out ?_; rintro e1 w1 ⟨rfl,rfl⟩)
      refine ⟨⟨q,by have := HM.out.1; omega,rfl,?_⟩,by have := HM.out.1; simp [intOf]; omega⟩
      have h1 := HM.out.2.1
      have h2 := HM.out.2.2.2
      have h3 : x / 2 ^ q = 0 := by
        obtain ⟨z,hz⟩ : ∃ z,x / 2 ^ q = z := ⟨_,rfl⟩
        rw [hz] at h1 h2 ⊢
        omega
      rcases Nat.div_eq_zero_iff.1 h3 with h | h
      · exact absurd h (Nat.ne_of_gt (Nat.two_pow_pos q))
      · exact h
    · have hd : D = m := by
        rw [← H0.out.2.2,HM.out.1]
        refine Nt.dig_spec x q ?_ (by rw [← HM.out.1]; exact HM.out.2.2.1)
        have h1 := HM.out.2.1
        have h2 : 1 ≤ x / 2 ^ q := by
          obtain ⟨z,hz⟩ : ∃ z,x / 2 ^ q = z := ⟨_,rfl⟩
          rw [hz] at h1 ⊢
          omega
        have h3 := (Nat.le_div_iff_mul_le (Nat.two_pow_pos q)).1 h2
        omega
      have HD := Lib.hid hd
      clear hd
      go_wp2_with (go_at_call 44; refine Calls.mono HBt.out ?_; rintro e1 w1 ⟨rfl,rfl⟩)
      go_ret
      exact ⟨by rw [HD.out]; rfl,rfl⟩
end
end
end Go.Proofs.YthlecdggkolgmaaGreatDoor
