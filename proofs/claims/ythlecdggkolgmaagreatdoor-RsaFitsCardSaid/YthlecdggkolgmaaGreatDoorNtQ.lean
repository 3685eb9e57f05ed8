/- sum, without. -/
import Derived.Test.YthlecdggkolgmaaGreatDoorNtN
import Derived.Deep.RegionWith
namespace Go.Proofs.YthlecdggkolgmaaGreatDoor
section
open Go.RowKit

set_option maxRecDepth 100000 in
theorem Nt.addTimes_nil (w : World) (bx ox cx : Nat) (ay : Option Addr) (cy : Nat) (t : Nat) :
    Calls Tryz.prog 139 #[.slice (some ⟨bx, ox, none⟩) 0 cx, .slice ay 0 cy, .int .u32 (t : Int)] w fun e w' => e = .returned (.int .u32 0) ∧ w' = w := by
  go_enter Tryz.func139, Tryz.ntmps139
  go_wp2_with fail
  go_loopw [7, 12] (fun cv iv wr => cv = .int .u64 0 ∧ iv = .int .i64 0 ∧ wr = w) (fun _ _ _ => 0)
  case atStart => exact ⟨rfl, rfl, rfl⟩
  case round =>
  obtain ⟨rfl, rfl, rfl⟩ := hrel
  go_wp2_with fail
  go_ret
  exact ⟨rfl, rfl⟩
theorem Nt.addTimes_opt (w : World) (bx ox n cx : Nat) (fx : Nat → Nat) (ay : Option Addr) (b' oy cy : Nat) (fy : Nat → Nat) (t : Nat) (hx : Nt.Lim w bx ox n fx) (hy : 0 < n → ay = some ⟨b', oy, none⟩ ∧ Nt.Lim w b' oy n fy ∧ b' ≠ bx) (hn : n ≤ 1000000) (ht : t < 4294967296) :
    Calls Tryz.prog 139 #[.slice (some ⟨bx, ox, none⟩) n cx, .slice ay n cy, .int .u32 (t : Int)] w fun e w' => ∃ c fo, e = .returned (.int .u32 ((c : Nat) : Int)) ∧ c < 4294967296 ∧ Nt.Lim w' bx ox n fo ∧ Vl.val 4294967296 fo n + c * 4294967296 ^ n = Vl.val 4294967296 fx n + t * Vl.val 4294967296 fy n ∧ Nt.Only bx ox n w w' := by
  rcases Nat.eq_zero_or_pos n with h0 | h0
  · subst h0
    refine (Nt.addTimes_nil w bx ox cx ay cy t).mono ?_
    rintro e w' ⟨rfl, rfl⟩
    exact ⟨0, fx, rfl, by decide, hx, by simp [Vl.val], Nt.Only.refl _ _ _ _⟩
  · obtain ⟨rfl, hL, hne⟩ := hy h0
    refine (Nt.addTimes_any w bx ox n cx fx b' oy n cy fy t hx hL (Nat.le_refl _) hn ht hne).mono ?_
    rintro e w' ⟨c, fo, h1, h2, h3, h4, _, h6⟩
    exact ⟨c, fo, h1, h2, h3, h4, h6⟩
theorem Tx.drewNb (w : World) (k : Nat) : ∀ {B : Nat}, Below B w (w.drewN k) := fun {B} => below_drewN (Below.refl B w) k
theorem Nt.prod_step (fo fo2 : Nat → Nat) (i m c xi XI Y : Nat) (h1 : Vl.val 4294967296 fo (i + m) = XI * Y) (h2 : Vl.val 4294967296 fo2 m + c * 4294967296 ^ m = Vl.val 4294967296 (fun j => fo (i + j)) m + xi * Y) :
    Vl.val 4294967296 (Vl.upd (Nt.mid fo i m fo2) (i + m) c) (i + m + 1) = (XI + xi * 4294967296 ^ i) * Y := by
  have e0 : Vl.upd (Nt.mid fo i m fo2) (i + m) c (i + m) = c := by unfold Vl.upd; rw [if_pos rfl]
  rw [Vl.val, e0, Vl.val_congr 4294967296 (Vl.upd (Nt.mid fo i m fo2) (i + m) c) (Nt.mid fo i m fo2) (i + m) (fun j hj => by unfold Vl.upd; rw [if_neg (by omega)]), Nt.mid_val]
  rw [Nt.val_split] at h1
  obtain ⟨P, hP⟩ : ∃ P, 4294967296 ^ i = P := ⟨_, rfl⟩
  obtain ⟨Q, hQ⟩ : ∃ Q, 4294967296 ^ m = Q := ⟨_, rfl⟩
  rw [Nat.pow_add, hP, hQ]
  rw [hP] at h1
  rw [hQ] at h2
  rw [Nat.add_mul, ← h1, Nat.mul_right_comm xi P Y, ← Nat.mul_assoc]
  have h3 := congrArg (· * P) h2
  simp only [Nat.add_mul] at h3
  rw [Nat.mul_right_comm c P Q]
  omega

set_option maxHeartbeats 1000000 in
set_option maxRecDepth 100000 in
theorem Nt.product_any (w : World) (ax ay : Option Addr) (n cx x m cy y : Nat) (hx : Nt.Num w ax n cx x) (hy : Nt.Num w ay m cy y) (hn : n ≤ 400000) (hm : m ≤ 400000) :
    Calls Tryz.prog 127 #[.slice ax n cx, .slice ay m cy] w fun e w' => ∃ av k c, e = .returned (.slice av k c) ∧ Nt.Num w' av k c (x * y) ∧ Below w.heap.size w w' := by
  obtain ⟨_, bx, ox, fx, hLx, dx, hvx, _⟩ := hx
  obtain ⟨_, b', oy, fy, hLy, dy, hvy, _⟩ := hy
  subst hvx hvy
  obtain ⟨N, hN⟩ : ∃ N, n + m = N := ⟨_, rfl⟩
  have hNz : (n : Int) + (m : Int) = (N : Int) := by omega
  have hNb : N ≤ 1000000 := by omega
  have H0 := Lib.hid (And.intro hLx (And.intro hLy (And.intro dx (And.intro dy (And.intro hN (And.intro hn hm))))))
  clear hLx hLy dx dy hN hn hm
  go_enter Tryz.func127, Tryz.ntmps127
  go_upto_region 2 with (at_make; refine Nt.wpList_make rfl _ _ rfl N rfl rfl hNb ?_)
  have hL0 : Nt.Lim (w.alloc (Obj.cells (Array.replicate N (Value.int IntKind.u32 0)) 145)) w.heap.size 0 N (fun _ => 0) := by
    refine Nt.Lim.ofRow (T := 145) (l := List.replicate N (Value.int .u32 0)) ?_ (fun j hj => ?_) (fun _ => by decide)
    · rw [heap_alloc_new]; simp
    · rw [List.getElem?_replicate, if_pos hj]; rfl
  have hb0 := (Below.refl w.heap.size w).alloc (Nat.le_refl _) (Obj.cells (Array.replicate N (Value.int IntKind.u32 0)) 145)
  have hg : ∃ g, w.heap.size = g := ⟨_, rfl⟩
  revert hL0 hb0
  generalize w.alloc (Obj.cells (Array.replicate N (Value.int IntKind.u32 0)) 145) = w1
  intro hL0 hb0
  have HG := Lib.hid (And.intro hL0 hb0)
  clear hL0 hb0 hg
  go_wp2_with fail
  go_loopw [15] (fun iv wr => ∃ (i : Nat) (fo : Nat → Nat), i ≤ n ∧ iv = .int .i64 (i : Int) ∧ Nt.Lim wr w.heap.size 0 N fo ∧ Vl.val 4294967296 fo (i + m) = Vl.val 4294967296 fx i * Vl.val 4294967296 fy m ∧ (∀ j, i + m ≤ j → fo j = 0) ∧ Below w.heap.size w wr) (fun iv _ => n - (intOf iv).toNat)
  case atStart => exact ⟨0, fun _ => 0, Nat.zero_le _, rfl, HG.out.1, by rw [Vl.val_zero _ _ _ (fun _ _ => rfl)]; simp [Vl.val], fun _ _ => rfl, HG.out.2⟩
  case round =>
  obtain ⟨i, fo, hi, rfl, hL, hv, hz, hB⟩ := hrel
  obtain ⟨w2, rfl⟩ : ∃ w2, w2 = wr := ⟨_, rfl⟩
  by_cases hin : i < n
  · have hiz : (i : Int) < (n : Int) := by omega
    have hiz0 : 0 ≤ (i : Int) := by omega
    obtain ⟨rfl, hLx⟩ := H0.out.1 (by omega)
    obtain ⟨e, he⟩ : ∃ e, i + m = e := ⟨_, rfl⟩
    have hez : (i : Int) + (m : Int) = (e : Int) := by omega
    have heN : e < N := by have := H0.out.2.2.2.2.1; omega
    have heNz : (e : Int) < (N : Int) := by omega
    have hez0 : 0 ≤ (e : Int) := by omega
    have hie : (i : Int) ≤ (e : Int) := by omega
    have heN2 : (e : Int) ≤ (N : Int) := by omega
    have hew : IntKind.i64.wrap (e : Int) = (e : Int) := IntWalk.i64_in _ (by omega)
    have hNi : ¬ N = i := by omega
    have hei : e - i = m := by omega
    have cx2 := (hLx.below hB hLx.lt).cell i hin
    have fx2 := (hLx.below hB hLx.lt).fro i hin
    obtain ⟨x, ex⟩ : ∃ x, fx i = x := ⟨_, rfl⟩
    rw [ex] at cx2
    have hxb : x < 4294967296 := by rw [← ex]; exact H0.out.2.2.1 i
    have HA := Lib.hid (fun d => Nt.addTimes_opt (w2.drewN d) w.heap.size i m (N - i) (fun j => fo (i + j)) ay b' oy cy fy x (by have := ((hL.drewN d).shift i m (by omega)); rwa [Nat.zero_add] at this) (fun h0 => ⟨(H0.out.2.1 h0).1, ((H0.out.2.1 h0).2.below hB (H0.out.2.1 h0).2.lt).drewN d, Nat.ne_of_lt (H0.out.2.1 h0).2.lt⟩) (by have := H0.out.2.2.2.2.2.2; omega) hxb)
    have HV := Lib.hid (And.intro hL (And.intro hv (And.intro hz (And.intro hB (And.intro he ex)))))
    clear hL hv hz hB he ex hxb hLx
    go_wp2_with fail
    go_region_with (go_at_call 139; refine Calls.mono (HA.out _) ?_; rintro e3 w3 ⟨c2, fo2, rfl, hcb2, hLo2, hv2, hO2⟩; have hL3 := (HV.out.1.drewN _).put i m (by rw [Nat.zero_add]; exact hLo2) (by rw [Nat.zero_add]; exact hO2); have c7 := hL3.cell e heN; have r7 := hL3.fro e heN; rw [Nat.zero_add] at c7 r7; have HO3 := Lib.hid (And.intro hL3 (And.intro hO2 (And.intro hv2 hcb2))); clear hv2 hL3 hLo2 hO2 hcb2)
    all_goals
      have hL4 := HO3.out.1.set e c2 heN HO3.out.2.2.2
      rw [Nat.zero_add] at hL4
      have hB4 := (((HV.out.2.2.2.1.trans (Tx.drewNb w2 _)).trans (HO3.out.2.1.below (Nat.le_refl _) (by rw [Nt.drewN_heap]; exact HV.out.2.2.2.1.size))).setCell (p := ⟨w.heap.size, e, none⟩) (Nat.le_refl _) (.int .u32 (c2 : Int)))
      have HL4 := Lib.hid (And.intro hL4 hB4)
      clear hL4 hB4 c7 r7
      go_wp2_with fail
      refine ⟨⟨i + 1, _, by omega, by go_num, HL4.out.1, ?_, ?_, HL4.out.2⟩, by simp [intOf]; omega⟩
      · have h1 := Nt.prod_step fo fo2 i m c2 x (Vl.val 4294967296 fx i) (Vl.val 4294967296 fy m) HV.out.2.1 HO3.out.2.2.1
        have he := HV.out.2.2.2.2.1
        rw [show i + 1 + m = i + m + 1 by omega, ← he, h1]
        rw [← HV.out.2.2.2.2.2]
        rfl
      · intro j hj
        have he := HV.out.2.2.2.2.1
        unfold Vl.upd Nt.mid
        rw [if_neg (by omega), if_neg (by omega)]
        exact HV.out.2.2.1 j (by omega)
  · have hie : i = n := by omega
    have hiz : ¬ (i : Int) < (n : Int) := by omega
    have hv2 : Vl.val 4294967296 fo N = Vl.val 4294967296 fx n * Vl.val 4294967296 fy m := by rw [← H0.out.2.2.2.2.1, ← hie]; exact hv
    have HT := Lib.hid (And.intro (Nt.trimmed_any w2 w.heap.size 0 N N fo hL (Nat.le_refl _) hNb) (And.intro hL (And.intro hB hv2)))
    clear hL hv hz hB hie hv2
    go_wp2_with (go_at_call 124; refine Calls.mono HT.out.1 ?_; rintro e1 w1 ⟨rfl, k, rfl, hk, hz, ht⟩; have HZ := Lib.hid (And.intro hk (And.intro hz ht)); clear hk hz ht)
    go_ret
    refine ⟨_, _, _, rfl, ?_, HT.out.2.2.1⟩
    rw [← HT.out.2.2.2]
    exact Nt.Num.of HT.out.2.1 HZ.out.1 HZ.out.1 HZ.out.2.1 HZ.out.2.2
end
section
open Go.RowKit

/-- The limbs of a slice whose cells may be none. -/
def Nt.wide (f : Nat → Nat) (n j : Nat) : Nat := if j < n then f j else 0
theorem Nt.wide_val (f : Nat → Nat) (n m : Nat) (h : n ≤ m) : Vl.val 4294967296 (Nt.wide f n) m = Vl.val 4294967296 f n := by
  rw [Vl.val_high _ (Nt.wide f n) n m h (fun j h1 _ => by unfold Nt.wide; rw [if_neg (by omega)])]
  exact Vl.val_congr _ _ _ _ (fun j hj => by unfold Nt.wide; rw [if_pos hj])
/-- widened of a number. -/
theorem Nt.widened_num (w : World) (ax : Option Addr) (n cx x m : Nat) (hx : Nt.Num w ax n cx x) (hnm : n ≤ m) (hm : m ≤ 1000000) :
    Calls Tryz.prog 134 #[.slice ax n cx, .int .i64 (m : Int)] w fun e w' => ∃ g f, e = .returned (.slice (some ⟨g, 0, none⟩) m m) ∧ w.heap.size ≤ g ∧ Nt.Lim w' g 0 m f ∧ Vl.val 4294967296 f m = x ∧ (∀ j, n ≤ j → f j = 0) ∧ Below w.heap.size w w' := by
  obtain ⟨_, b, off, f, h1, h2, h3, _⟩ := hx
  refine (Nt.widened_any w ax b off n cx f m h1 h2 hnm hm).mono ?_
  rintro e w' ⟨g, rfl, hg, hL, hb⟩
  exact ⟨g, Nt.wide f n, rfl, hg, hL, by rw [Nt.wide_val f n m hnm]; exact h3, fun j hj => by unfold Nt.wide; rw [if_neg (by omega)], hb⟩
end
end Go.Proofs.YthlecdggkolgmaaGreatDoor
