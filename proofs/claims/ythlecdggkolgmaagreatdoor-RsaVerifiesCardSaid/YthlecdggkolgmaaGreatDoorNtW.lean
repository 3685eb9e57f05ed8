/- form: a number's bytes. -/
import Derived.Test.YthlecdggkolgmaaGreatDoorNtV
namespace Go.Proofs.YthlecdggkolgmaaGreatDoor
open Go.RowKit

/-- n bytes in block b from off on, told by a function; they may be written. -/
structure Nt.Byt (w : World) (b off n : Nat) (f : Nat → Nat) : Prop where
  cell : ∀ j,j < n → w.cell? ⟨b,off + j,none⟩ = some (.int .u8 (f j : Int))
  fro : ∀ j,j < n → w.frozen? ⟨b,off + j,none⟩ = false
  lt : b < w.heap.size
theorem Nt.Byt.set {w : World} {b off n : Nat} {f : Nat → Nat} (h : Nt.Byt w b off n f) (i x : Nat) : Nt.Byt (w.setCell ⟨b,off + i,none⟩ (.int .u8 (x : Int))) b off n (Vl.upd f i x) := by
  refine ⟨fun j hj => ?_,fun j hj => ?_,by simpa [World.setCell] using h.lt⟩
  · unfold Vl.upd
    by_cases e : j = i
    · subst e
      rw [if_pos rfl]
      exact World.cell?_setCell_same _ _ _ (h.cell j hj)
    · rw [if_neg e,World.cell?_setCell_other _ _ _ _ (fun c => e (by have : off + i = off + j := congrArg Addr.off c; omega))]
      exact h.cell j hj
  · rw [World.frozen?_setCell]
    exact h.fro j hj
theorem Nt.info8 : (Tryz.prog.info? 5).map (fun i => (i.zero,i.size,i.bytes)) = some (some (.int .u8 0),1,1) := by kernel_rfl
theorem Nt.made8 (c : Nat) : madeCells (Value.int .u8 0).cells (c * 1) = (List.replicate c (Value.int .u8 0)).toArray := by
  apply Array.ext_getElem?
  intro j
  by_cases hj : j < c
  · simp [madeCells,Value.cells,hj,Nat.mod_one]
  · rw [Array.getElem?_eq_none (by rw [size_madeCells]; omega),Array.getElem?_eq_none (by simp; omega)]
theorem Nt.wpList_make8 {w : World} {ops : Array Oper} {rest : List Oper} {o : Oper} {a : Act} {Q : Exit → Act → World → Prop} (hg : o.guard = none) (l c : Operand) (hop : o.op = Op.makeSlice 36 l c) (C : Nat)
    (hl : a.eval l = .int .i64 (C : Int)) (hc : a.eval c = .int .i64 (C : Int)) (hC : C ≤ 10000000)
    (hK : wpList Tryz.prog ops Q rest (a.put o.dst (.slice (some ⟨w.heap.size,0,none⟩) C C)) (w.alloc (.cells (List.replicate C (Value.int .u8 0)).toArray 5))) : wpList Tryz.prog ops Q (o :: rest) a w := by
  obtain ⟨i0,hi,hz0,hz1,hz2⟩ := info_parts Nt.info8
  have hr := run_make (P := Tryz.prog) w 36 5 i0 (.int .u8 0) Tryz.underlying36 hi hz0 .i64 .i64 (C : Int) (C : Int) (by omega) (by omega) (by rw [hz2]; omega) (by omega)
  rw [hz1] at hr
  simp only [Int.toNat_natCast] at hr
  rw [Nt.made8] at hr
  refine wpList_plain hg fun K hK2 => ?_
  unfold Oper.wp
  simp [execOp,hop,hl,hc,hr,Result.andThen]
  exact hK2 _ _ hK
theorem Nt.Byt.zeroAt {w : World} {b n : Nat} {T : TypeId} (h : w.heap[b]? = some (.cells (Array.replicate n (Value.int .u8 0)) T (0,0))) : Nt.Byt w b 0 n (fun _ => 0) := by
  refine ⟨fun j hj => ?_,fun j hj => ?_,(Array.getElem?_eq_some_iff.1 h).1⟩
  · simp only [World.cell?,h,Nat.zero_add]
    simp [hj]
  · simp [World.frozen?,h]
theorem Nt.Byt.zero (w : World) (n : Nat) : Nt.Byt (w.alloc (.cells (Array.replicate n (Value.int .u8 0)) 5)) w.heap.size 0 n (fun _ => 0) := Nt.Byt.zeroAt (heap_alloc_new _ _)
theorem Nt.Byt.drewN {w : World} {b off n : Nat} {f : Nat → Nat} (h : Nt.Byt w b off n f) (k : Nat) : Nt.Byt (w.drewN k) b off n f := by
  have hc := Nt.drewN_heap w k
  exact ⟨fun j hj => by have := h.cell j hj; simp only [World.cell?,hc] at this ⊢; exact this,fun j hj => by have := h.fro j hj; simp only [World.frozen?,hc] at this ⊢; exact this,by rw [hc]; exact h.lt⟩
/-- string(b). -/
theorem Nt.Byt.conv {w : World} {b cap : Nat} {f : Nat → Nat} {l : List UInt8} (h : Nt.Byt w b 0 l.length f) (hf : ∀ j (hj : j < l.length),f j = (l[j]'hj).toNat) : (convert 36 9 (.slice (some ⟨b,0,none⟩) l.length cap)).run Tryz.prog w = .ok (.string ⟨l.toArray⟩) w := by
  refine run_convert_bytes_back (P := Tryz.prog) w _ _ _ _ cap l Tryz.underlying36 Tryz.underlying5 Tryz.underlying9 (fun j hj => ?_)
  have ea : ((⟨b,0,none⟩ : Addr).add j) = ⟨b,0 + j,none⟩ := by unfold Addr.add; split <;> simp_all
  rw [ea,h.cell j hj,hf j hj]
theorem Nt.part_val (f : Nat → Nat) (hf : ∀ j,f j < 4294967296) (n a r q : Nat) (ha : a < n) (hr : r + q ≤ 32) : Vl.val 4294967296 f n / 2 ^ (32 * a + r) % 2 ^ q = f a / 2 ^ r % 2 ^ q := by
  have e1 := Nt.val_split 4294967296 f a (n - a)
  rw [show a + (n - a) = n by omega] at e1
  obtain ⟨m,hm⟩ : ∃ m,n - a = 1 + m := ⟨n - a - 1,by omega⟩
  have e2 := Nt.val_split 4294967296 (fun j => f (a + j)) 1 m
  rw [hm,e2] at e1
  have e3 : Vl.val 4294967296 (fun j => f (a + j)) 1 = f a := by simp [Vl.val]
  rw [e3] at e1
  obtain ⟨H,hH⟩ : ∃ H,Vl.val 4294967296 (fun j => f (a + (1 + j))) m = H := ⟨_,rfl⟩
  rw [hH] at e1
  have hl : Vl.val 4294967296 f a < 4294967296 ^ a := Vl.val_lt _ (by decide) f a (fun j _ => hf j)
  have eP : (2 : Nat) ^ (32 * a) = 4294967296 ^ a := by rw [Nat.pow_mul]
  rw [Nat.pow_add,← Nat.div_div_eq_div_mul,eP,e1]
  have hp : 0 < 4294967296 ^ a := Nat.pow_pos (by decide)
  rw [Nat.add_mul_div_right _ _ hp,Nat.div_eq_of_lt hl,Nat.zero_add,Nat.pow_one]
  have e4 : (4294967296 : Nat) = 2 ^ r * (2 ^ q * 2 ^ (32 - q - r)) := by rw [← Nat.pow_add,← Nat.pow_add,show r + (q + (32 - q - r)) = 32 by omega]
  have hr0 : 0 < 2 ^ r := Nat.two_pow_pos r
  rw [e4,Nat.mul_left_comm,Nat.add_mul_div_left _ _ hr0,Nat.mul_left_comm,Nat.add_mul_mod_self_left]
set_option maxHeartbeats 1000000 in
set_option maxRecDepth 100000 in
theorem Nt.form_any (w : World) (ax : Option Addr) (n cx x : Nat) (hx : Nt.Num w ax n cx x) (hn : n ≤ 1000000) :
    Calls Tryz.prog 107 #[.slice ax n cx] w fun e w' => e = .returned (.string ⟨(Nt.fm x).toArray⟩) ∧ Below w.heap.size w w' := by
  have HB := Lib.hid (Nt.bits_any w ax n cx x hx hn)
  have hlt := hx.lt
  obtain ⟨_,bx,ox,fx,hLx,dx,hvx,_⟩ := hx
  obtain ⟨D,hD⟩ : ∃ D,Nt.dig x = D := ⟨_,rfl⟩
  obtain ⟨Y,hY⟩ : ∃ Y,Nt.by x = Y := ⟨_,rfl⟩
  have hYn : Y ≤ 4 * n := by
    rw [← hY]
    refine Nt.by_le x (4 * n) ?_
    rw [Nat.pow_mul]
    exact hlt
  obtain ⟨D7,hD7⟩ : ∃ D7,D + 7 = D7 := ⟨_,rfl⟩
  have hq : (D7 : Int) / 8 = (Y : Int) := by rw [← hY,← hD7,← hD]; unfold Nt.by; omega
  have hD7z : (D : Int) + 7 = (D7 : Int) := by omega
  have hl := Nt.fm_len x
  rw [hY] at hl
  have hfm : ∀ i,i < Y → (Nt.fm x)[Y - 1 - i]? = some (UInt8.ofNat (x / 256 ^ i % 256)) := fun i hi => by
    unfold Nt.fm
    rw [hY]
    exact Nt.fmN_get Y x i hi
  rw [hD] at HB
  have HH := Lib.hid (And.intro hLx (And.intro dx (And.intro hvx (And.intro hl hfm))))
  have HS := Lib.hid (And.intro hYn hlt)
  have hYb : Y ≤ 10000000 := by omega
  have hDb : D ≤ 100000000 := by have h := Nt.dig_of_lt x (32 * n) (by rw [Nat.pow_mul]; exact hlt); omega
  have hD7b : (D7 : Int) ≤ 100000007 := by omega
  have hYbz : (Y : Int) ≤ 10000000 := by omega
  clear hLx dx hvx hl hfm hYn hD hY hlt hD7
  go_enter Tryz.func107,Tryz.ntmps107
  go_upto_region 3 with (first | (go_at_call 109; refine Calls.mono HB.out ?_; rintro e1 w1 ⟨rfl,rfl⟩) | (at_make; refine Nt.wpList_make8 rfl _ _ rfl Y rfl rfl hYb ?_))
  have hY0 := Nt.Byt.zero w1 Y
  have hb0 := (Below.refl w1.heap.size w1).alloc (Nat.le_refl _) (Obj.cells (Array.replicate Y (Value.int IntKind.u8 0)) 5)
  obtain ⟨g,hg⟩ : ∃ g,w1.heap.size = g := ⟨_,rfl⟩
  revert hY0 hb0
  generalize w1.alloc (Obj.cells (Array.replicate Y (Value.int IntKind.u8 0)) 5) = w2
  rw [hg]
  intro hY0 hb0
  have HG := Lib.hid (And.intro hg (And.intro hY0 hb0))
  clear hg hY0 hb0
  go_wp2_with fail
  go_loopw [13] (fun iv wr => ∃ (i : Nat) (f : Nat → Nat),i ≤ Y ∧ iv = .int .i64 (i : Int) ∧ Nt.Byt wr g 0 Y f ∧ (∀ j,Y - i ≤ j → j < Y → f j = x / 256 ^ (Y - 1 - j) % 256) ∧ Below g w1 wr) (fun iv _ => Y - (intOf iv).toNat)
  case atStart => exact ⟨0,_,Nat.zero_le _,rfl,HG.out.2.1,fun j h1 h2 => by omega,HG.out.2.2⟩
  case round =>
  obtain ⟨i,f,hi,rfl,hL,hv,hB⟩ := hrel
  obtain ⟨w3,rfl⟩ : ∃ w3,w3 = wr := ⟨_,rfl⟩
  by_cases hin : i < Y
  · have hiz : (i : Int) < (Y : Int) := by omega
    have hiz0 : 0 ≤ (i : Int) := by omega
    obtain ⟨Y1,hY1⟩ : ∃ Y1,Y - 1 = Y1 := ⟨_,rfl⟩
    obtain ⟨p,hp⟩ : ∃ p,Y1 - i = p := ⟨_,rfl⟩
    obtain ⟨a,ha⟩ : ∃ a,i / 4 = a := ⟨_,rfl⟩
    obtain ⟨r,hr⟩ : ∃ r,i % 4 = r := ⟨_,rfl⟩
    obtain ⟨s,hs⟩ : ∃ s,8 * r = s := ⟨_,rfl⟩
    have hYn := HS.out.1
    have han : a < n := by omega
    have hs32 : s ≤ 24 := by omega
    obtain ⟨rfl,hLx⟩ := HH.out.1 (by omega)
    have hbl : bx ≠ g := by have h := hLx.lt; have h2 := HG.out.1; omega
    have cx2 := (hLx.below hB (by have h := hLx.lt; have h2 := HG.out.1; omega)).cell a han
    have dx2 := HH.out.2.1 a
    have hpv := Nt.part_val fx HH.out.2.1 n a s 8 han (by omega)
    rw [HH.out.2.2.1,show 32 * a + s = 8 * i by omega,Nat.pow_mul] at hpv
    obtain ⟨t,et⟩ : ∃ t,fx a = t := ⟨_,rfl⟩
    rw [et] at cx2 dx2 hpv
    obtain ⟨u,hu⟩ : ∃ u,t / 2 ^ s = u := ⟨_,rfl⟩
    rw [hu] at hpv
    obtain ⟨z,hz⟩ : ∃ z,u % 256 = z := ⟨_,rfl⟩
    have hpv : x / 256 ^ i % 256 = z := by rw [← hz]; exact hpv
    have hub : u < 4294967296 := by rw [← hu]; exact Nat.lt_of_le_of_lt (Nat.div_le_self _ _) dx2
    have hY1z : (Y : Int) - 1 = (Y1 : Int) := by omega
    have hpz : (Y1 : Int) - (i : Int) = (p : Int) := by omega
    have haz : (i : Int) / 4 = (a : Int) := by omega
    have hrz : (i : Int) % 4 = (r : Int) := by omega
    have hsz : 8 * (r : Int) = (s : Int) := by omega
    have hs0 : ¬ (s : Int) < 0 := by omega
    have hsm : min s 64 = s := Nat.min_eq_left (by omega)
    have huz : (t : Int) / 2 ^ s = (u : Int) := by rw [← hu]; simp
    have hzz : (u : Int) % 256 = (z : Int) := by omega
    have haz0 : 0 ≤ (a : Int) := by omega
    have hanz : (a : Int) < (n : Int) := by omega
    have hpz0 : 0 ≤ (p : Int) := by omega
    have hpY : p < Y := by omega
    have hpYz : (p : Int) < (Y : Int) := by omega
    have hY1b : (Y1 : Int) ≤ 10000000 := by omega
    have hpb : (p : Int) ≤ 10000000 := by omega
    have hab : (a : Int) ≤ 10000000 := by omega
    have hrb : (r : Int) ≤ 3 := by omega
    have hrb0 : 0 ≤ (r : Int) := by omega
    have hsb : (s : Int) ≤ 24 := by omega
    have hYbz : (Y : Int) ≤ 10000000 := by omega
    have cp := hL.cell p hpY
    have fp := hL.fro p hpY
    rw [Nat.zero_add] at cp fp
    have hLs := hL.set p z
    rw [Nat.zero_add] at hLs
    have hBs := hB.setCell (p := ⟨g,p,none⟩) (Nat.le_refl _) (.int .u8 (z : Int))
    have HV := Lib.hid (And.intro hLs (And.intro hBs (And.intro hv (And.intro hpv (And.intro hY1 hp)))))
    have hwz : IntKind.u8.wrap (u : Int) = (z : Int) := by
      unfold IntKind.wrap
      simpa [IntKind.bits,IntKind.signed] using hzz
    clear hL hv hB hLs hBs hpv hY1 hp ha hr hs hYn han hu hz et hub dx2 hbl hLx hpY
    go_wp2_with fail
    refine ⟨⟨i + 1,_,by omega,by go_num,HV.out.1,?_,HV.out.2.1⟩,by simp [intOf]; omega⟩
    intro j h1 h2
    have hpp := HV.out.2.2.2.2
    unfold Vl.upd
    by_cases hj : j = p
    · rw [if_pos hj,show Y - 1 - j = i by omega]
      exact HV.out.2.2.2.1.symm
    · rw [if_neg hj]
      exact HV.out.2.2.1 j (by omega) h2
  · have hie : i = Y := by omega
    have hiz : ¬ (i : Int) < (Y : Int) := by omega
    have hcv : (convert 36 9 (.slice (some ⟨g,0,none⟩) Y Y)).run Tryz.prog w3 = .ok (.string ⟨(Nt.fm x).toArray⟩) w3 := by
      have h := Nt.Byt.conv (w := w3) (b := g) (cap := Y) (f := f) (l := Nt.fm x) (by rw [HH.out.2.2.2.1]; exact hL) (fun j hj => by
        rw [HH.out.2.2.2.1] at hj
        rw [hv j (by omega) hj]
        have h2 := HH.out.2.2.2.2 (Y - 1 - j) (by omega)
        rw [show Y - 1 - (Y - 1 - j) = j by omega] at h2
        rw [(List.getElem?_eq_some_iff.1 h2).2]
        simp [UInt8.toNat_ofNat'])
      rw [HH.out.2.2.2.1] at h
      exact h
    have HB3 := Lib.hid hB
    clear hL hv hB hie
    go_wp2_with fail
    go_ret
    exact ⟨rfl,HB3.out.mono (Nat.le_of_eq HG.out.1)⟩
end Go.Proofs.YthlecdggkolgmaaGreatDoor
