/- The reference's Check. -/
import Derived.Test.YthlecdggkolgmaaGreatDoorRsI
import Derived.Test.YthlecdggkolgmaaGreatDoorRnF
namespace Go.Proofs.YthlecdggkolgmaaGreatDoor
open Go.RowKit
theorem Rn.three_lim (w : World) : Rn.Num (w.alloc (Obj.cells #[Value.int IntKind.u64 3] 76)) (some ⟨w.heap.size,0,none⟩) 1 1 3 := by
  have h : Rn.Lim (w.alloc (Obj.cells #[Value.int IntKind.u64 3] 76)) w.heap.size 0 1 (fun _ => 3) := by
    refine Rn.Lim.ofRow (T := 76) (l := [Value.int .u64 3]) (heap_alloc_new _ _) (fun j hj => ?_) (fun _ => (show 3 < 65536 by decide))
    obtain rfl : j = 0 := by omega
    rfl
  exact ⟨Nat.le_refl _,w.heap.size,0,fun _ => 3,fun _ => ⟨rfl,h⟩,fun _ => (show 3 < 65536 by decide),rfl,.inr (by decide)⟩
set_option maxRecDepth 100000 in
theorem Rn.Bit_low (w : World) (ax : Option Addr) (n cx x : Nat) (hx : Rn.Num w ax n cx x) (hn : n ≤ 1000000) :
    Calls Tryz.prog 44 #[.slice ax n cx,.int .i64 0] w fun e w' => e = .returned (.int .u64 ((x % 2 : Nat) : Int)) ∧ w' = w := by
  rcases Nat.eq_zero_or_pos n with h0 | h0
  · have hx0 := hx.zero.1 h0
    subst h0
    subst hx0
    have HD := Lib.hid (Rn.digit_out w ax 0 cx 0 (Nat.le_refl _))
    clear hx
    go_enter Tryz.func44,Tryz.ntmps44
    go_wp2_with (go_at_call 71; refine Calls.mono HD.out ?_; rintro e w' ⟨rfl,rfl⟩)
    go_ret
    exact ⟨rfl,rfl⟩
  · have h := Rn.Bit_any w ax n cx x 0 hx hn (by omega)
    rw [Nat.pow_zero,Nat.div_one] at h
    exact h
/-- What holds of the world while the reference looks at a key. -/
structure Rs.KeyS (w : World) (p : Nat) (n e : ByteArray) (an : Option Addr) (kn cn : Nat) (ae : Option Addr) (ke ce : Nat) (W : World) : Prop where
  c0 : W.cell? ⟨p,0,none⟩ = some (.string n)
  c1 : W.cell? ⟨p,1,none⟩ = some (.string e)
  n : Rn.Num W an kn cn (Nt.nv n)
  e : Rn.Num W ae ke ce (Nt.nv e)
  bel : Below w.heap.size w W
theorem Rs.KeyS.below {w W W' : World} {p : Nat} {n e : ByteArray} {an : Option Addr} {kn cn : Nat} {ae : Option Addr} {ke ce : Nat} (h : Rs.KeyS w p n e an kn cn ae ke ce W) (hb : Below W.heap.size W W') : Rs.KeyS w p n e an kn cn ae ke ce W' :=
  ⟨(hb.cell (p := ⟨p,0,none⟩) (World.block_lt_of_cell? W _ h.c0)).trans h.c0,(hb.cell (p := ⟨p,1,none⟩) (World.block_lt_of_cell? W _ h.c1)).trans h.c1,h.n.below hb,h.e.below hb,h.bel.trans (hb.mono h.bel.size)⟩
/-- The same, ahead of the numbers. -/
structure Rs.BoxS (w : World) (p : Nat) (n e : ByteArray) (W : World) : Prop where
  c0 : W.cell? ⟨p,0,none⟩ = some (.string n)
  c1 : W.cell? ⟨p,1,none⟩ = some (.string e)
  bel : Below w.heap.size w W
theorem Rs.BoxS.below {w W W' : World} {p : Nat} {n e : ByteArray} (h : Rs.BoxS w p n e W) (hb : Below W.heap.size W W') : Rs.BoxS w p n e W' :=
  ⟨(hb.cell (p := ⟨p,0,none⟩) (World.block_lt_of_cell? W _ h.c0)).trans h.c0,(hb.cell (p := ⟨p,1,none⟩) (World.block_lt_of_cell? W _ h.c1)).trans h.c1,h.bel.trans (hb.mono h.bel.size)⟩
theorem Rn.beyond2 (w : World) (k : Nat) : Below w.heap.size w (w.drewN k) := below_drewN (Below.refl _ _) k
set_option maxHeartbeats 4000000 in
set_option maxRecDepth 100000 in
theorem Rs.RCheck_0 (w : World) (n e TN TE : ByteArray) (DN DE : Nat) (hn : n.size ≤ 4000) (he : e.size ≤ 4000) (hTN : (⟨(Nt.fm (Nt.nv n)).toArray⟩ : ByteArray) = TN) (hTE : (⟨(Nt.fm (Nt.nv e)).toArray⟩ : ByteArray) = TE) (hDN : Nt.dig (Nt.nv n) = DN) (hDE : Nt.dig (Nt.nv e) = DE) (hc1 : TN = n) (hc2 : TE = e) (hc3 : Nt.nv n % 2 = 1) (hc4 : Nt.nv e % 2 = 1) (hc5 : 512 ≤ DN) (hc6 : DN ≤ 2048) (hc7 : 3 ≤ Nt.nv e) (hc8 : DE ≤ 32) :
    Calls Tryz.prog 39 #[.agg #[.string n,.string e]] w fun r w' => r = .returned (.bool true) ∧ Below w.heap.size w w' := by
  have CN : ∀ W an kn cn,Rn.Num W an kn cn (Nt.nv n) → kn ≤ 1000000 := fun W an kn cn h => Nat.le_trans (h.bytes 2000 n.size (Nt.nv_lt n) (by omega)) (by decide)
  have CE : ∀ W an kn cn,Rn.Num W an kn cn (Nt.nv e) → kn ≤ 1000000 := fun W an kn cn h => Nat.le_trans (h.bytes 2000 e.size (Nt.nv_lt e) (by omega)) (by decide)
  have FN : ∀ W an kn cn,Rn.Num W an kn cn (Nt.nv n) → Calls Tryz.prog 67 #[.slice an kn cn] W fun r w' => r = .returned (.string TN) ∧ Below W.heap.size W w' := fun W an kn cn h => by
    have := Rn.Form_any W an kn cn _ h (CN W an kn cn h)
    rw [hTN] at this
    exact this
  have FE : ∀ W an kn cn,Rn.Num W an kn cn (Nt.nv e) → Calls Tryz.prog 67 #[.slice an kn cn] W fun r w' => r = .returned (.string TE) ∧ Below W.heap.size W w' := fun W an kn cn h => by
    have := Rn.Form_any W an kn cn _ h (CE W an kn cn h)
    rw [hTE] at this
    exact this
  have BN : ∀ W an kn cn,Rn.Num W an kn cn (Nt.nv n) → Calls Tryz.prog 23 #[.slice an kn cn] W fun r w' => r = .returned (.int .i64 (DN : Int)) ∧ w' = W := fun W an kn cn h => by
    have := Rn.Bits_any W an kn cn _ h (CN W an kn cn h)
    rw [hDN] at this
    exact this
  have BE : ∀ W an kn cn,Rn.Num W an kn cn (Nt.nv e) → Calls Tryz.prog 23 #[.slice an kn cn] W fun r w' => r = .returned (.int .i64 (DE : Int)) ∧ w' = W := fun W an kn cn h => by
    have := Rn.Bits_any W an kn cn _ h (CE W an kn cn h)
    rw [hDE] at this
    exact this
  have LN : ∀ W an kn cn,Rn.Num W an kn cn (Nt.nv n) → Calls Tryz.prog 44 #[.slice an kn cn,.int .i64 0] W fun r w' => r = .returned (.int .u64 1) ∧ w' = W := fun W an kn cn h => by
    have := Rn.Bit_low W an kn cn _ h (CN W an kn cn h)
    rw [hc3] at this
    exact this
  have LE : ∀ W an kn cn,Rn.Num W an kn cn (Nt.nv e) → Calls Tryz.prog 44 #[.slice an kn cn,.int .i64 0] W fun r w' => r = .returned (.int .u64 1) ∧ w' = W := fun W an kn cn h => by
    have := Rn.Bit_low W an kn cn _ h (CE W an kn cn h)
    rw [hc4] at this
    exact this
  have M3 : ∀ W an kn cn av,Rn.Num W an kn cn (Nt.nv e) → Rn.Num W av 1 1 3 → ∃ r : Int,(0 ≤ r) ∧ Calls Tryz.prog 40 #[.slice an kn cn,.slice av 1 1] W fun x w' => x = .returned (.int .i64 r) ∧ ∃ k,w' = W.drewN k := fun W an kn cn av h g => by
    refine ⟨_,?_,Rn.Cmp_any W an av kn cn _ 1 1 3 h g (CE W an kn cn h) (by decide)⟩
    unfold Nt.cmp
    rw [if_neg (by omega)]; split <;> decide
  have HZ := Lib.hid (And.intro hn he)
  have FN := Lib.hid FN
  have FE := Lib.hid FE
  have BN := Lib.hid BN
  have BE := Lib.hid BE
  have LN := Lib.hid LN
  have LE := Lib.hid LE
  have M3 := Lib.hid M3
  subst hc1
  subst hc2
  have z5 : 512 ≤ (DN : Int) := by omega
  have z6 : (DN : Int) ≤ 2048 := by omega
  have z8 : (DE : Int) ≤ 32 := by omega
  clear CN CE hTN hTE hDN hDE hn he
  have S0 : Rs.BoxS w w.heap.size TN TE (w.alloc (Obj.cells #[.string TN,.string TE] 25)) := ⟨by simp,by simp,(Below.refl _ _).alloc (Nat.le_refl _) _⟩
  have HS0 := Lib.hid S0
  clear S0
  go_enter Tryz.func39,Tryz.ntmps39
  go_wp2_with fail
  have S0 := HS0.out
  clear HS0
  revert S0
  generalize w.alloc (Obj.cells #[.string TN,.string TE] 25) = w1
  intro S0
  refine wp_region_held_drew (S := fun W => Rs.BoxS w w.heap.size TN TE W) (by kernel_rfl) (S0.below (below_drewN (Below.refl _ _) 1)) (fun hHeld0 => ?_)
  clear S0
  refine wpAnyH_take (i := 0) (oi := ⟨_,_,_,_,_,_⟩) (v := ?vg1_1) rfl (by kernel_rfl) (by kernel_rfl) (by kernel_rfl) (fun _ _ _ h => h) (Or.inl ⟨by rfl,?hyg1_1⟩) (by assumption) ?restg1_1
  case hyg1_1 => (intro W hW; go_simp; try with_reducible rfl)
  try simp only [Act.put,List.setIfInBounds_toArray,List.set_cons_zero,List.set_cons_succ]
  refine wpAnyH_take (i := 1) (oi := ⟨_,_,_,_,_,_⟩) (v := .string TN) rfl (by kernel_rfl) (by kernel_rfl) (by kernel_rfl) (fun _ _ _ h => h) (Or.inl ⟨by rfl,fun W hW => (by have c0 := hW.c0; go_simp)⟩) (by assumption) ?restg1_2
  try simp only [Act.put,List.setIfInBounds_toArray,List.set_cons_zero,List.set_cons_succ]
  refine wpAnyH_take (i := 3) (oi := ⟨_,_,_,_,_,_⟩) (v := ?vg1_3) rfl (by kernel_rfl) (by kernel_rfl) (by kernel_rfl) (fun _ _ _ h => h) (Or.inl ⟨by rfl,?hyg1_3⟩) (by assumption) ?restg1_3
  case hyg1_3 => (intro W hW; go_simp; try with_reducible rfl)
  try simp only [Act.put,List.setIfInBounds_toArray,List.set_cons_zero,List.set_cons_succ]
  refine wpAnyH_take (i := 4) (oi := ⟨_,_,_,_,_,_⟩) (v := .string TE) rfl (by kernel_rfl) (by kernel_rfl) (by kernel_rfl) (fun _ _ _ h => h) (Or.inl ⟨by rfl,fun W hW => (by have c1 := hW.c1; go_simp)⟩) (by assumption) ?restg1_4
  try simp only [Act.put,List.setIfInBounds_toArray,List.set_cons_zero,List.set_cons_succ]
  refine wpAnyH_ready (rs := [2]) (by kernel_rfl) (by simp) ?_
  refine AllReadyH.cons (o := ⟨_,_,_,_,_,_⟩) rfl (fun K hK => ?_) AllReadyH.nil
  go_simp
  refine Calls.mono (Rn.Of_any _ TN (Nat.le_trans HZ.out.1 (by decide))) ?_
  rintro e2 w2 ⟨an,kn,cn,rfl,hN,b2⟩
  have S2 := hHeld0.below b2
  go_wp2_with fail
  refine hK.out _ _ (S2) (fun hHeld1 => ?_)
  clear hK K hHeld0
  try simp only [Act.put,List.setIfInBounds_toArray,List.set_cons_zero,List.set_cons_succ]
  refine wpAnyH_ready (rs := [5]) (by kernel_rfl) (by simp) ?_
  refine AllReadyH.cons (o := ⟨_,_,_,_,_,_⟩) rfl (fun K hK => ?_) AllReadyH.nil
  go_simp
  refine Calls.mono (Rn.Of_any _ TE (Nat.le_trans HZ.out.2 (by decide))) ?_
  rintro e3 w3 ⟨ae,ke,ce,rfl,hE,b3⟩
  have S3 := S2.below b3
  have T0 : Rs.KeyS w w.heap.size TN TE an kn cn ae ke ce w3 := ⟨S3.c0,S3.c1,hN.below b3,hE,S3.bel⟩
  go_wp2_with fail
  refine hK.out _ _ (S3) (fun hHeld2 => ?_)
  clear hK K hHeld1
  try simp only [Act.put,List.setIfInBounds_toArray,List.set_cons_zero,List.set_cons_succ]
  refine wpAnyH_take (i := 6) (oi := ⟨_,_,_,_,_,_⟩) (v := ?vg1_5) rfl (by kernel_rfl) (by kernel_rfl) (by kernel_rfl) (fun _ _ _ h => h) (Or.inl ⟨by rfl,?hyg1_5⟩) (by assumption) ?restg1_5
  case hyg1_5 => (intro W hW; go_simp; try with_reducible rfl)
  try simp only [Act.put,List.setIfInBounds_toArray,List.set_cons_zero,List.set_cons_succ]
  refine wpAnyH_take (i := 7) (oi := ⟨_,_,_,_,_,_⟩) (v := ?vg1_6) rfl (by kernel_rfl) (by kernel_rfl) (by kernel_rfl) (fun _ _ _ h => h) (Or.inl ⟨by rfl,?hyg1_6⟩) (by assumption) ?restg1_6
  case hyg1_6 => (intro W hW; go_simp; try with_reducible rfl)
  try simp only [Act.put,List.setIfInBounds_toArray,List.set_cons_zero,List.set_cons_succ]
  refine wpAnyH_done (by kernel_rfl) ?_ _
  clear S2 S3 hHeld2 hN hE b2 b3
  go_wp2_with fail
  refine wp_region_held_drew (S := fun W => Rs.KeyS w w.heap.size TN TE an kn cn ae ke ce W) (by kernel_rfl) (T0.below (below_drewN (Below.refl _ _) 1)) (fun hHeld0 => ?_)
  clear T0
  refine wpAnyH_take (i := 0) (oi := ⟨_,_,_,_,_,_⟩) (v := ?vg1_7) rfl (by kernel_rfl) (by kernel_rfl) (by kernel_rfl) (fun _ _ _ h => h) (Or.inl ⟨by rfl,?hyg1_7⟩) (by assumption) ?restg1_7
  case hyg1_7 => (intro W hW; go_simp; try with_reducible rfl)
  try simp only [Act.put,List.setIfInBounds_toArray,List.set_cons_zero,List.set_cons_succ]
  refine wpAnyH_take (i := 2) (oi := ⟨_,_,_,_,_,_⟩) (v := ?vg1_8) rfl (by kernel_rfl) (by kernel_rfl) (by kernel_rfl) (fun _ _ _ h => h) (Or.inl ⟨by rfl,?hyg1_8⟩) (by assumption) ?restg1_8
  case hyg1_8 => (intro W hW; go_simp; try with_reducible rfl)
  try simp only [Act.put,List.setIfInBounds_toArray,List.set_cons_zero,List.set_cons_succ]
  refine wpAnyH_take (i := 3) (oi := ⟨_,_,_,_,_,_⟩) (v := .string TN) rfl (by kernel_rfl) (by kernel_rfl) (by kernel_rfl) (fun _ _ _ h => h) (Or.inl ⟨by rfl,fun W hW => (by have c0 := hW.c0; go_simp)⟩) (by assumption) ?restg1_9
  try simp only [Act.put,List.setIfInBounds_toArray,List.set_cons_zero,List.set_cons_succ]
  refine wpAnyH_ready (rs := [1]) (by kernel_rfl) (by simp) ?_
  refine AllReadyH.cons (o := ⟨_,_,_,_,_,_⟩) rfl (fun K hK => ?_) AllReadyH.nil
  go_simp
  refine Calls.mono (FN.out _ _ _ _ hHeld0.n) ?_
  rintro r w4 ⟨rfl,b4⟩
  have T1 := hHeld0.below b4
  clear b4
  go_wp2_with fail
  refine hK.out _ _ (T1) (fun hHeld1 => ?_)
  clear hK K hHeld0
  try simp only [Act.put,List.setIfInBounds_toArray,List.set_cons_zero,List.set_cons_succ]
  refine wpAnyH_take (i := 4) (oi := ⟨_,_,_,_,_,_⟩) (v := ?vg1_10) rfl (by kernel_rfl) (by kernel_rfl) (by kernel_rfl) (fun _ _ _ h => h) (Or.inl ⟨by rfl,?hyg1_10⟩) (by assumption) ?restg1_10
  case hyg1_10 => (intro W hW; go_simp; try with_reducible rfl)
  try simp only [Act.put,List.setIfInBounds_toArray,List.set_cons_zero,List.set_cons_succ]
  refine wpAnyH_take (i := 5) (oi := ⟨_,_,_,_,_,_⟩) (v := ?vg1_11) rfl (by kernel_rfl) (by kernel_rfl) (by kernel_rfl) (fun _ _ _ h => h) (Or.inl ⟨by rfl,?hyg1_11⟩) (by assumption) ?restg1_11
  case hyg1_11 => (intro W hW; go_simp; try with_reducible rfl)
  try simp only [Act.put,List.setIfInBounds_toArray,List.set_cons_zero,List.set_cons_succ]
  refine wpAnyH_take (i := 6) (oi := ⟨_,_,_,_,_,_⟩) (v := ?vg1_12) rfl (by kernel_rfl) (by kernel_rfl) (by kernel_rfl) (fun _ _ _ h => h) (Or.inl ⟨by rfl,?hyg1_12⟩) (by assumption) ?restg1_12
  case hyg1_12 => (intro W hW; go_simp; try with_reducible rfl)
  try simp only [Act.put,List.setIfInBounds_toArray,List.set_cons_zero,List.set_cons_succ]
  refine wpAnyH_take (i := 8) (oi := ⟨_,_,_,_,_,_⟩) (v := ?vg1_13) rfl (by kernel_rfl) (by kernel_rfl) (by kernel_rfl) (fun _ _ _ h => h) (Or.inl ⟨by rfl,?hyg1_13⟩) (by assumption) ?restg1_13
  case hyg1_13 => (intro W hW; go_simp; try with_reducible rfl)
  try simp only [Act.put,List.setIfInBounds_toArray,List.set_cons_zero,List.set_cons_succ]
  refine wpAnyH_take (i := 9) (oi := ⟨_,_,_,_,_,_⟩) (v := .string TE) rfl (by kernel_rfl) (by kernel_rfl) (by kernel_rfl) (fun _ _ _ h => h) (Or.inl ⟨by rfl,fun W hW => (by have c1 := hW.c1; go_simp)⟩) (by assumption) ?restg1_14
  try simp only [Act.put,List.setIfInBounds_toArray,List.set_cons_zero,List.set_cons_succ]
  refine wpAnyH_ready (rs := [7]) (by kernel_rfl) (by simp) ?_
  refine AllReadyH.cons (o := ⟨_,_,_,_,_,_⟩) rfl (fun K hK => ?_) AllReadyH.nil
  go_simp
  refine Calls.mono (FE.out _ _ _ _ hHeld1.e) ?_
  rintro r w5 ⟨rfl,b5⟩
  have T2 := hHeld1.below b5
  clear b5
  go_wp2_with fail
  refine hK.out _ _ (T2) (fun hHeld2 => ?_)
  clear hK K hHeld1
  try simp only [Act.put,List.setIfInBounds_toArray,List.set_cons_zero,List.set_cons_succ]
  refine wpAnyH_take (i := 10) (oi := ⟨_,_,_,_,_,_⟩) (v := ?vg1_15) rfl (by kernel_rfl) (by kernel_rfl) (by kernel_rfl) (fun _ _ _ h => h) (Or.inl ⟨by rfl,?hyg1_15⟩) (by assumption) ?restg1_15
  case hyg1_15 => (intro W hW; go_simp; try with_reducible rfl)
  try simp only [Act.put,List.setIfInBounds_toArray,List.set_cons_zero,List.set_cons_succ]
  refine wpAnyH_take (i := 11) (oi := ⟨_,_,_,_,_,_⟩) (v := ?vg1_16) rfl (by kernel_rfl) (by kernel_rfl) (by kernel_rfl) (fun _ _ _ h => h) (Or.inl ⟨by rfl,?hyg1_16⟩) (by assumption) ?restg1_16
  case hyg1_16 => (intro W hW; go_simp; try with_reducible rfl)
  try simp only [Act.put,List.setIfInBounds_toArray,List.set_cons_zero,List.set_cons_succ]
  refine wpAnyH_take (i := 12) (oi := ⟨_,_,_,_,_,_⟩) (v := ?vg1_17) rfl (by kernel_rfl) (by kernel_rfl) (by kernel_rfl) (fun _ _ _ h => h) (Or.inl ⟨by rfl,?hyg1_17⟩) (by assumption) ?restg1_17
  case hyg1_17 => (intro W hW; go_simp; try with_reducible rfl)
  try simp only [Act.put,List.setIfInBounds_toArray,List.set_cons_zero,List.set_cons_succ]
  refine wpAnyH_take (i := 13) (oi := ⟨_,_,_,_,_,_⟩) (v := ?vg1_18) rfl (by kernel_rfl) (by kernel_rfl) (by kernel_rfl) (fun _ _ _ h => h) (Or.inl ⟨by rfl,?hyg1_18⟩) (by assumption) ?restg1_18
  case hyg1_18 => (intro W hW; go_simp; try with_reducible rfl)
  try simp only [Act.put,List.setIfInBounds_toArray,List.set_cons_zero,List.set_cons_succ]
  refine wpAnyH_ready (rs := [14]) (by kernel_rfl) (by simp) ?_
  refine AllReadyH.cons (o := ⟨_,_,_,_,_,_⟩) rfl (fun K hK => ?_) AllReadyH.nil
  go_simp
  refine Calls.mono (LN.out _ _ _ _ hHeld2.n) ?_
  rintro r wz ⟨rfl,rfl⟩
  go_wp2_with fail
  refine hK.out _ _ (hHeld2) (fun hHeld3 => ?_)
  clear hK K hHeld2
  try simp only [Act.put,List.setIfInBounds_toArray,List.set_cons_zero,List.set_cons_succ]
  refine wpAnyH_take (i := 15) (oi := ⟨_,_,_,_,_,_⟩) (v := ?vg1_19) rfl (by kernel_rfl) (by kernel_rfl) (by kernel_rfl) (fun _ _ _ h => h) (Or.inl ⟨by rfl,?hyg1_19⟩) (by assumption) ?restg1_19
  case hyg1_19 => (intro W hW; go_simp; try with_reducible rfl)
  try simp only [Act.put,List.setIfInBounds_toArray,List.set_cons_zero,List.set_cons_succ]
  refine wpAnyH_take (i := 16) (oi := ⟨_,_,_,_,_,_⟩) (v := ?vg1_20) rfl (by kernel_rfl) (by kernel_rfl) (by kernel_rfl) (fun _ _ _ h => h) (Or.inl ⟨by rfl,?hyg1_20⟩) (by assumption) ?restg1_20
  case hyg1_20 => (intro W hW; go_simp; try with_reducible rfl)
  try simp only [Act.put,List.setIfInBounds_toArray,List.set_cons_zero,List.set_cons_succ]
  refine wpAnyH_take (i := 17) (oi := ⟨_,_,_,_,_,_⟩) (v := ?vg1_21) rfl (by kernel_rfl) (by kernel_rfl) (by kernel_rfl) (fun _ _ _ h => h) (Or.inl ⟨by rfl,?hyg1_21⟩) (by assumption) ?restg1_21
  case hyg1_21 => (intro W hW; go_simp; try with_reducible rfl)
  try simp only [Act.put,List.setIfInBounds_toArray,List.set_cons_zero,List.set_cons_succ]
  refine wpAnyH_take (i := 18) (oi := ⟨_,_,_,_,_,_⟩) (v := ?vg1_22) rfl (by kernel_rfl) (by kernel_rfl) (by kernel_rfl) (fun _ _ _ h => h) (Or.inl ⟨by rfl,?hyg1_22⟩) (by assumption) ?restg1_22
  case hyg1_22 => (intro W hW; go_simp; try with_reducible rfl)
  try simp only [Act.put,List.setIfInBounds_toArray,List.set_cons_zero,List.set_cons_succ]
  refine wpAnyH_ready (rs := [19]) (by kernel_rfl) (by simp) ?_
  refine AllReadyH.cons (o := ⟨_,_,_,_,_,_⟩) rfl (fun K hK => ?_) AllReadyH.nil
  go_simp
  refine Calls.mono (LE.out _ _ _ _ hHeld3.e) ?_
  rintro r wz ⟨rfl,rfl⟩
  go_wp2_with fail
  refine hK.out _ _ (hHeld3) (fun hHeld4 => ?_)
  clear hK K hHeld3
  try simp only [Act.put,List.setIfInBounds_toArray,List.set_cons_zero,List.set_cons_succ]
  refine wpAnyH_take (i := 20) (oi := ⟨_,_,_,_,_,_⟩) (v := ?vg1_23) rfl (by kernel_rfl) (by kernel_rfl) (by kernel_rfl) (fun _ _ _ h => h) (Or.inl ⟨by rfl,?hyg1_23⟩) (by assumption) ?restg1_23
  case hyg1_23 => (intro W hW; go_simp; try with_reducible rfl)
  try simp only [Act.put,List.setIfInBounds_toArray,List.set_cons_zero,List.set_cons_succ]
  refine wpAnyH_take (i := 21) (oi := ⟨_,_,_,_,_,_⟩) (v := ?vg1_24) rfl (by kernel_rfl) (by kernel_rfl) (by kernel_rfl) (fun _ _ _ h => h) (Or.inl ⟨by rfl,?hyg1_24⟩) (by assumption) ?restg1_24
  case hyg1_24 => (intro W hW; go_simp; try with_reducible rfl)
  try simp only [Act.put,List.setIfInBounds_toArray,List.set_cons_zero,List.set_cons_succ]
  refine wpAnyH_take (i := 22) (oi := ⟨_,_,_,_,_,_⟩) (v := ?vg1_25) rfl (by kernel_rfl) (by kernel_rfl) (by kernel_rfl) (fun _ _ _ h => h) (Or.inl ⟨by rfl,?hyg1_25⟩) (by assumption) ?restg1_25
  case hyg1_25 => (intro W hW; go_simp; try with_reducible rfl)
  try simp only [Act.put,List.setIfInBounds_toArray,List.set_cons_zero,List.set_cons_succ]
  refine wpAnyH_take (i := 23) (oi := ⟨_,_,_,_,_,_⟩) (v := ?vg1_26) rfl (by kernel_rfl) (by kernel_rfl) (by kernel_rfl) (fun _ _ _ h => h) (Or.inl ⟨by rfl,?hyg1_26⟩) (by assumption) ?restg1_26
  case hyg1_26 => (intro W hW; go_simp; try with_reducible rfl)
  try simp only [Act.put,List.setIfInBounds_toArray,List.set_cons_zero,List.set_cons_succ]
  refine wpAnyH_ready (rs := [24]) (by kernel_rfl) (by simp) ?_
  refine AllReadyH.cons (o := ⟨_,_,_,_,_,_⟩) rfl (fun K hK => ?_) AllReadyH.nil
  go_simp
  refine Calls.mono (BN.out _ _ _ _ hHeld4.n) ?_
  rintro r wz ⟨rfl,rfl⟩
  go_wp2_with fail
  refine hK.out _ _ (hHeld4) (fun hHeld5 => ?_)
  clear hK K hHeld4
  try simp only [Act.put,List.setIfInBounds_toArray,List.set_cons_zero,List.set_cons_succ]
  refine wpAnyH_take (i := 25) (oi := ⟨_,_,_,_,_,_⟩) (v := ?vg1_27) rfl (by kernel_rfl) (by kernel_rfl) (by kernel_rfl) (fun _ _ _ h => h) (Or.inl ⟨by rfl,?hyg1_27⟩) (by assumption) ?restg1_27
  case hyg1_27 => (intro W hW; go_simp; try with_reducible rfl)
  try simp only [Act.put,List.setIfInBounds_toArray,List.set_cons_zero,List.set_cons_succ]
  refine wpAnyH_take (i := 26) (oi := ⟨_,_,_,_,_,_⟩) (v := ?vg1_28) rfl (by kernel_rfl) (by kernel_rfl) (by kernel_rfl) (fun _ _ _ h => h) (Or.inl ⟨by rfl,?hyg1_28⟩) (by assumption) ?restg1_28
  case hyg1_28 => (intro W hW; go_simp; try with_reducible rfl)
  try simp only [Act.put,List.setIfInBounds_toArray,List.set_cons_zero,List.set_cons_succ]
  refine wpAnyH_take (i := 27) (oi := ⟨_,_,_,_,_,_⟩) (v := ?vg1_29) rfl (by kernel_rfl) (by kernel_rfl) (by kernel_rfl) (fun _ _ _ h => h) (Or.inl ⟨by rfl,?hyg1_29⟩) (by assumption) ?restg1_29
  case hyg1_29 => (intro W hW; go_simp; try with_reducible rfl)
  try simp only [Act.put,List.setIfInBounds_toArray,List.set_cons_zero,List.set_cons_succ]
  refine wpAnyH_take (i := 28) (oi := ⟨_,_,_,_,_,_⟩) (v := ?vg1_30) rfl (by kernel_rfl) (by kernel_rfl) (by kernel_rfl) (fun _ _ _ h => h) (Or.inl ⟨by rfl,?hyg1_30⟩) (by assumption) ?restg1_30
  case hyg1_30 => (intro W hW; go_simp; try with_reducible rfl)
  try simp only [Act.put,List.setIfInBounds_toArray,List.set_cons_zero,List.set_cons_succ]
  refine wpAnyH_ready (rs := [29]) (by kernel_rfl) (by simp) ?_
  refine AllReadyH.cons (o := ⟨_,_,_,_,_,_⟩) rfl (fun K hK => ?_) AllReadyH.nil
  go_simp
  refine Calls.mono (BN.out _ _ _ _ hHeld5.n) ?_
  rintro r wz ⟨rfl,rfl⟩
  go_wp2_with fail
  refine hK.out _ _ (hHeld5) (fun hHeld6 => ?_)
  clear hK K hHeld5
  try simp only [Act.put,List.setIfInBounds_toArray,List.set_cons_zero,List.set_cons_succ]
  refine wpAnyH_take (i := 30) (oi := ⟨_,_,_,_,_,_⟩) (v := ?vg1_31) rfl (by kernel_rfl) (by kernel_rfl) (by kernel_rfl) (fun _ _ _ h => h) (Or.inl ⟨by rfl,?hyg1_31⟩) (by assumption) ?restg1_31
  case hyg1_31 => (intro W hW; go_simp; try with_reducible rfl)
  try simp only [Act.put,List.setIfInBounds_toArray,List.set_cons_zero,List.set_cons_succ]
  refine wpAnyH_take (i := 31) (oi := ⟨_,_,_,_,_,_⟩) (v := ?vg1_32) rfl (by kernel_rfl) (by kernel_rfl) (by kernel_rfl) (fun _ _ _ h => h) (Or.inl ⟨by rfl,?hyg1_32⟩) (by assumption) ?restg1_32
  case hyg1_32 => (intro W hW; go_simp; try with_reducible rfl)
  try simp only [Act.put,List.setIfInBounds_toArray,List.set_cons_zero,List.set_cons_succ]
  refine wpAnyH_take (i := 32) (oi := ⟨_,_,_,_,_,_⟩) (v := ?vg1_33) rfl (by kernel_rfl) (by kernel_rfl) (by kernel_rfl) (fun _ _ _ h => h) (Or.inl ⟨by rfl,?hyg1_33⟩) (by assumption) ?restg1_33
  case hyg1_33 => (intro W hW; go_simp; try with_reducible rfl)
  try simp only [Act.put,List.setIfInBounds_toArray,List.set_cons_zero,List.set_cons_succ]
  refine wpAnyH_take (i := 33) (oi := ⟨_,_,_,_,_,_⟩) (v := ?vg1_34) rfl (by kernel_rfl) (by kernel_rfl) (by kernel_rfl) (fun _ _ _ h => h) (Or.inl ⟨by rfl,?hyg1_34⟩) (by assumption) ?restg1_34
  case hyg1_34 => (intro W hW; go_simp; try with_reducible rfl)
  try simp only [Act.put,List.setIfInBounds_toArray,List.set_cons_zero,List.set_cons_succ]
  refine wpAnyH_ready (rs := [34]) (by kernel_rfl) (by simp) ?_
  refine AllReadyH.cons (o := ⟨_,_,_,_,_,_⟩) rfl (fun K hK => ?_) AllReadyH.nil
  go_simp
  refine hK.out _ _ ((hHeld6.below ((Below.refl _ _).alloc (Nat.le_refl _) _))) (fun hHeld7 => ?_)
  clear hK K hHeld6
  try simp only [Act.put,List.setIfInBounds_toArray,List.set_cons_zero,List.set_cons_succ]
  obtain ⟨r7,z7,M7⟩ := M3.out _ _ _ _ _ hHeld7.e (Rn.three_lim _)
  refine wpAnyH_ready (rs := [35]) (by kernel_rfl) (by simp) ?_
  refine AllReadyH.cons (o := ⟨_,_,_,_,_,_⟩) rfl (fun K hK => ?_) AllReadyH.nil
  go_simp
  refine Calls.mono (M7) ?_
  rintro r w7 ⟨rfl,j7,hw7⟩
  have T7 : Rs.KeyS w w.heap.size TN TE an kn cn ae ke ce w7 := by rw [hw7]; exact hHeld7.below (Rn.beyond2 _ j7)
  clear hw7 M7
  go_wp2_with fail
  refine hK.out _ _ (T7) (fun hHeld8 => ?_)
  clear hK K hHeld7
  try simp only [Act.put,List.setIfInBounds_toArray,List.set_cons_zero,List.set_cons_succ]
  refine wpAnyH_take (i := 36) (oi := ⟨_,_,_,_,_,_⟩) (v := ?vg1_35) rfl (by kernel_rfl) (by kernel_rfl) (by kernel_rfl) (fun _ _ _ h => h) (Or.inl ⟨by rfl,?hyg1_35⟩) (by assumption) ?restg1_35
  case hyg1_35 => (intro W hW; go_simp; try with_reducible rfl)
  try simp only [Act.put,List.setIfInBounds_toArray,List.set_cons_zero,List.set_cons_succ]
  refine wpAnyH_take (i := 37) (oi := ⟨_,_,_,_,_,_⟩) (v := ?vg1_36) rfl (by kernel_rfl) (by kernel_rfl) (by kernel_rfl) (fun _ _ _ h => h) (Or.inl ⟨by rfl,?hyg1_36⟩) (by assumption) ?restg1_36
  case hyg1_36 => (intro W hW; go_simp; try with_reducible rfl)
  try simp only [Act.put,List.setIfInBounds_toArray,List.set_cons_zero,List.set_cons_succ]
  refine wpAnyH_take (i := 38) (oi := ⟨_,_,_,_,_,_⟩) (v := ?vg1_37) rfl (by kernel_rfl) (by kernel_rfl) (by kernel_rfl) (fun _ _ _ h => h) (Or.inl ⟨by rfl,?hyg1_37⟩) (by assumption) ?restg1_37
  case hyg1_37 => (intro W hW; go_simp; try with_reducible rfl)
  try simp only [Act.put,List.setIfInBounds_toArray,List.set_cons_zero,List.set_cons_succ]
  refine wpAnyH_take (i := 39) (oi := ⟨_,_,_,_,_,_⟩) (v := ?vg1_38) rfl (by kernel_rfl) (by kernel_rfl) (by kernel_rfl) (fun _ _ _ h => h) (Or.inl ⟨by rfl,?hyg1_38⟩) (by assumption) ?restg1_38
  case hyg1_38 => (intro W hW; go_simp; try with_reducible rfl)
  try simp only [Act.put,List.setIfInBounds_toArray,List.set_cons_zero,List.set_cons_succ]
  refine wpAnyH_ready (rs := [40]) (by kernel_rfl) (by simp) ?_
  refine AllReadyH.cons (o := ⟨_,_,_,_,_,_⟩) rfl (fun K hK => ?_) AllReadyH.nil
  go_simp
  refine Calls.mono (BE.out _ _ _ _ hHeld8.e) ?_
  rintro r wz ⟨rfl,rfl⟩
  go_wp2_with fail
  refine hK.out _ _ (hHeld8) (fun hHeld9 => ?_)
  clear hK K hHeld8
  try simp only [Act.put,List.setIfInBounds_toArray,List.set_cons_zero,List.set_cons_succ]
  refine wpAnyH_take (i := 41) (oi := ⟨_,_,_,_,_,_⟩) (v := ?vg1_39) rfl (by kernel_rfl) (by kernel_rfl) (by kernel_rfl) (fun _ _ _ h => h) (Or.inl ⟨by rfl,?hyg1_39⟩) (by assumption) ?restg1_39
  case hyg1_39 => (intro W hW; go_simp; try with_reducible rfl)
  try simp only [Act.put,List.setIfInBounds_toArray,List.set_cons_zero,List.set_cons_succ]
  refine wpAnyH_take (i := 42) (oi := ⟨_,_,_,_,_,_⟩) (v := ?vg1_40) rfl (by kernel_rfl) (by kernel_rfl) (by kernel_rfl) (fun _ _ _ h => h) (Or.inl ⟨by rfl,?hyg1_40⟩) (by assumption) ?restg1_40
  case hyg1_40 => (intro W hW; go_simp; try with_reducible rfl)
  try simp only [Act.put,List.setIfInBounds_toArray,List.set_cons_zero,List.set_cons_succ]
  refine wpAnyH_take (i := 43) (oi := ⟨_,_,_,_,_,_⟩) (v := ?vg1_41) rfl (by kernel_rfl) (by kernel_rfl) (by kernel_rfl) (fun _ _ _ h => h) (Or.inl ⟨by rfl,?hyg1_41⟩) (by assumption) ?restg1_41
  case hyg1_41 => (intro W hW; go_simp; try with_reducible rfl)
  try simp only [Act.put,List.setIfInBounds_toArray,List.set_cons_zero,List.set_cons_succ]
  refine wpAnyH_done (by kernel_rfl) ?_ _
  have HB := Lib.hid hHeld9.bel
  go_wp2_with fail
  go_ret
  exact ⟨rfl,HB.out⟩
set_option maxHeartbeats 4000000 in
set_option maxRecDepth 100000 in
theorem Rs.RCheck_1 (w : World) (n e TN TE : ByteArray) (DN DE : Nat) (hn : n.size ≤ 4000) (he : e.size ≤ 4000) (hTN : (⟨(Nt.fm (Nt.nv n)).toArray⟩ : ByteArray) = TN) (hTE : (⟨(Nt.fm (Nt.nv e)).toArray⟩ : ByteArray) = TE) (hDN : Nt.dig (Nt.nv n) = DN) (hDE : Nt.dig (Nt.nv e) = DE) (hc1 : TN ≠ n) :
    Calls Tryz.prog 39 #[.agg #[.string n,.string e]] w fun r w' => r = .returned (.bool false) ∧ Below w.heap.size w w' := by
  have CN : ∀ W an kn cn,Rn.Num W an kn cn (Nt.nv n) → kn ≤ 1000000 := fun W an kn cn h => Nat.le_trans (h.bytes 2000 n.size (Nt.nv_lt n) (by omega)) (by decide)
  have CE : ∀ W an kn cn,Rn.Num W an kn cn (Nt.nv e) → kn ≤ 1000000 := fun W an kn cn h => Nat.le_trans (h.bytes 2000 e.size (Nt.nv_lt e) (by omega)) (by decide)
  have FN : ∀ W an kn cn,Rn.Num W an kn cn (Nt.nv n) → Calls Tryz.prog 67 #[.slice an kn cn] W fun r w' => r = .returned (.string TN) ∧ Below W.heap.size W w' := fun W an kn cn h => by
    have := Rn.Form_any W an kn cn _ h (CN W an kn cn h)
    rw [hTN] at this
    exact this
  have FE : ∀ W an kn cn,Rn.Num W an kn cn (Nt.nv e) → Calls Tryz.prog 67 #[.slice an kn cn] W fun r w' => r = .returned (.string TE) ∧ Below W.heap.size W w' := fun W an kn cn h => by
    have := Rn.Form_any W an kn cn _ h (CE W an kn cn h)
    rw [hTE] at this
    exact this
  have BN : ∀ W an kn cn,Rn.Num W an kn cn (Nt.nv n) → Calls Tryz.prog 23 #[.slice an kn cn] W fun r w' => r = .returned (.int .i64 (DN : Int)) ∧ w' = W := fun W an kn cn h => by
    have := Rn.Bits_any W an kn cn _ h (CN W an kn cn h)
    rw [hDN] at this
    exact this
  have BE : ∀ W an kn cn,Rn.Num W an kn cn (Nt.nv e) → Calls Tryz.prog 23 #[.slice an kn cn] W fun r w' => r = .returned (.int .i64 (DE : Int)) ∧ w' = W := fun W an kn cn h => by
    have := Rn.Bits_any W an kn cn _ h (CE W an kn cn h)
    rw [hDE] at this
    exact this
  have HZ := Lib.hid (And.intro hn he)
  have FN := Lib.hid FN
  have FE := Lib.hid FE
  have BN := Lib.hid BN
  have BE := Lib.hid BE
  have b1 := Nt.toList_beq2 hc1
  have n1 := Nt.toList_ne2 hc1
  clear CN CE hTN hTE hDN hDE hn he
  have S0 : Rs.BoxS w w.heap.size n e (w.alloc (Obj.cells #[.string n,.string e] 25)) := ⟨by simp,by simp,(Below.refl _ _).alloc (Nat.le_refl _) _⟩
  have HS0 := Lib.hid S0
  clear S0
  go_enter Tryz.func39,Tryz.ntmps39
  go_wp2_with fail
  have S0 := HS0.out
  clear HS0
  revert S0
  generalize w.alloc (Obj.cells #[.string n,.string e] 25) = w1
  intro S0
  refine wp_region_held_drew (S := fun W => Rs.BoxS w w.heap.size n e W) (by kernel_rfl) (S0.below (below_drewN (Below.refl _ _) 1)) (fun hHeld0 => ?_)
  clear S0
  refine wpAnyH_take (i := 0) (oi := ⟨_,_,_,_,_,_⟩) (v := ?vg2_1) rfl (by kernel_rfl) (by kernel_rfl) (by kernel_rfl) (fun _ _ _ h => h) (Or.inl ⟨by rfl,?hyg2_1⟩) (by assumption) ?restg2_1
  case hyg2_1 => (intro W hW; go_simp; try with_reducible rfl)
  try simp only [Act.put,List.setIfInBounds_toArray,List.set_cons_zero,List.set_cons_succ]
  refine wpAnyH_take (i := 1) (oi := ⟨_,_,_,_,_,_⟩) (v := .string n) rfl (by kernel_rfl) (by kernel_rfl) (by kernel_rfl) (fun _ _ _ h => h) (Or.inl ⟨by rfl,fun W hW => (by have c0 := hW.c0; go_simp)⟩) (by assumption) ?restg2_2
  try simp only [Act.put,List.setIfInBounds_toArray,List.set_cons_zero,List.set_cons_succ]
  refine wpAnyH_take (i := 3) (oi := ⟨_,_,_,_,_,_⟩) (v := ?vg2_3) rfl (by kernel_rfl) (by kernel_rfl) (by kernel_rfl) (fun _ _ _ h => h) (Or.inl ⟨by rfl,?hyg2_3⟩) (by assumption) ?restg2_3
  case hyg2_3 => (intro W hW; go_simp; try with_reducible rfl)
  try simp only [Act.put,List.setIfInBounds_toArray,List.set_cons_zero,List.set_cons_succ]
  refine wpAnyH_take (i := 4) (oi := ⟨_,_,_,_,_,_⟩) (v := .string e) rfl (by kernel_rfl) (by kernel_rfl) (by kernel_rfl) (fun _ _ _ h => h) (Or.inl ⟨by rfl,fun W hW => (by have c1 := hW.c1; go_simp)⟩) (by assumption) ?restg2_4
  try simp only [Act.put,List.setIfInBounds_toArray,List.set_cons_zero,List.set_cons_succ]
  refine wpAnyH_ready (rs := [2]) (by kernel_rfl) (by simp) ?_
  refine AllReadyH.cons (o := ⟨_,_,_,_,_,_⟩) rfl (fun K hK => ?_) AllReadyH.nil
  go_simp
  refine Calls.mono (Rn.Of_any _ n (Nat.le_trans HZ.out.1 (by decide))) ?_
  rintro e2 w2 ⟨an,kn,cn,rfl,hN,b2⟩
  have S2 := hHeld0.below b2
  go_wp2_with fail
  refine hK.out _ _ (S2) (fun hHeld1 => ?_)
  clear hK K hHeld0
  try simp only [Act.put,List.setIfInBounds_toArray,List.set_cons_zero,List.set_cons_succ]
  refine wpAnyH_ready (rs := [5]) (by kernel_rfl) (by simp) ?_
  refine AllReadyH.cons (o := ⟨_,_,_,_,_,_⟩) rfl (fun K hK => ?_) AllReadyH.nil
  go_simp
  refine Calls.mono (Rn.Of_any _ e (Nat.le_trans HZ.out.2 (by decide))) ?_
  rintro e3 w3 ⟨ae,ke,ce,rfl,hE,b3⟩
  have S3 := S2.below b3
  have T0 : Rs.KeyS w w.heap.size n e an kn cn ae ke ce w3 := ⟨S3.c0,S3.c1,hN.below b3,hE,S3.bel⟩
  go_wp2_with fail
  refine hK.out _ _ (S3) (fun hHeld2 => ?_)
  clear hK K hHeld1
  try simp only [Act.put,List.setIfInBounds_toArray,List.set_cons_zero,List.set_cons_succ]
  refine wpAnyH_take (i := 6) (oi := ⟨_,_,_,_,_,_⟩) (v := ?vg2_5) rfl (by kernel_rfl) (by kernel_rfl) (by kernel_rfl) (fun _ _ _ h => h) (Or.inl ⟨by rfl,?hyg2_5⟩) (by assumption) ?restg2_5
  case hyg2_5 => (intro W hW; go_simp; try with_reducible rfl)
  try simp only [Act.put,List.setIfInBounds_toArray,List.set_cons_zero,List.set_cons_succ]
  refine wpAnyH_take (i := 7) (oi := ⟨_,_,_,_,_,_⟩) (v := ?vg2_6) rfl (by kernel_rfl) (by kernel_rfl) (by kernel_rfl) (fun _ _ _ h => h) (Or.inl ⟨by rfl,?hyg2_6⟩) (by assumption) ?restg2_6
  case hyg2_6 => (intro W hW; go_simp; try with_reducible rfl)
  try simp only [Act.put,List.setIfInBounds_toArray,List.set_cons_zero,List.set_cons_succ]
  refine wpAnyH_done (by kernel_rfl) ?_ _
  clear S2 S3 hHeld2 hN hE b2 b3
  go_wp2_with fail
  refine wp_region_held_drew (S := fun W => Rs.KeyS w w.heap.size n e an kn cn ae ke ce W) (by kernel_rfl) (T0.below (below_drewN (Below.refl _ _) 1)) (fun hHeld0 => ?_)
  clear T0
  refine wpAnyH_take (i := 0) (oi := ⟨_,_,_,_,_,_⟩) (v := ?vg2_7) rfl (by kernel_rfl) (by kernel_rfl) (by kernel_rfl) (fun _ _ _ h => h) (Or.inl ⟨by rfl,?hyg2_7⟩) (by assumption) ?restg2_7
  case hyg2_7 => (intro W hW; go_simp; try with_reducible rfl)
  try simp only [Act.put,List.setIfInBounds_toArray,List.set_cons_zero,List.set_cons_succ]
  refine wpAnyH_take (i := 2) (oi := ⟨_,_,_,_,_,_⟩) (v := ?vg2_8) rfl (by kernel_rfl) (by kernel_rfl) (by kernel_rfl) (fun _ _ _ h => h) (Or.inl ⟨by rfl,?hyg2_8⟩) (by assumption) ?restg2_8
  case hyg2_8 => (intro W hW; go_simp; try with_reducible rfl)
  try simp only [Act.put,List.setIfInBounds_toArray,List.set_cons_zero,List.set_cons_succ]
  refine wpAnyH_take (i := 3) (oi := ⟨_,_,_,_,_,_⟩) (v := .string n) rfl (by kernel_rfl) (by kernel_rfl) (by kernel_rfl) (fun _ _ _ h => h) (Or.inl ⟨by rfl,fun W hW => (by have c0 := hW.c0; go_simp)⟩) (by assumption) ?restg2_9
  try simp only [Act.put,List.setIfInBounds_toArray,List.set_cons_zero,List.set_cons_succ]
  refine wpAnyH_ready (rs := [1]) (by kernel_rfl) (by simp) ?_
  refine AllReadyH.cons (o := ⟨_,_,_,_,_,_⟩) rfl (fun K hK => ?_) AllReadyH.nil
  go_simp
  refine Calls.mono (FN.out _ _ _ _ hHeld0.n) ?_
  rintro r w4 ⟨rfl,b4⟩
  have T1 := hHeld0.below b4
  clear b4
  go_wp2_with fail
  refine hK.out _ _ (T1) (fun hHeld1 => ?_)
  clear hK K hHeld0
  try simp only [Act.put,List.setIfInBounds_toArray,List.set_cons_zero,List.set_cons_succ]
  refine wpAnyH_take (i := 4) (oi := ⟨_,_,_,_,_,_⟩) (v := ?vg2_10) rfl (by kernel_rfl) (by kernel_rfl) (by kernel_rfl) (fun _ _ _ h => h) (Or.inl ⟨by rfl,?hyg2_10⟩) (by assumption) ?restg2_10
  case hyg2_10 => (intro W hW; go_simp; try with_reducible rfl)
  try simp only [Act.put,List.setIfInBounds_toArray,List.set_cons_zero,List.set_cons_succ]
  refine wpAnyH_take (i := 5) (oi := ⟨_,_,_,_,_,_⟩) (v := ?vg2_11) rfl (by kernel_rfl) (by kernel_rfl) (by kernel_rfl) (fun _ _ _ h => h) (Or.inl ⟨by rfl,?hyg2_11⟩) (by assumption) ?restg2_11
  case hyg2_11 => (intro W hW; go_simp; try with_reducible rfl)
  try simp only [Act.put,List.setIfInBounds_toArray,List.set_cons_zero,List.set_cons_succ]
  refine wpAnyH_take (i := 6) (oi := ⟨_,_,_,_,_,_⟩) (v := undef) rfl (by kernel_rfl) (by kernel_rfl) (by kernel_rfl) (fun _ _ _ h => h) (Or.inr ⟨by rfl,rfl⟩) (by assumption) ?restg2_12
  try simp only [Act.put,List.setIfInBounds_toArray,List.set_cons_zero,List.set_cons_succ]
  refine wpAnyH_take (i := 7) (oi := ⟨_,_,_,_,_,_⟩) (v := undef) rfl (by kernel_rfl) (by kernel_rfl) (by kernel_rfl) (fun _ _ _ h => h) (Or.inr ⟨by rfl,rfl⟩) (by assumption) ?restg2_13
  try simp only [Act.put,List.setIfInBounds_toArray,List.set_cons_zero,List.set_cons_succ]
  refine wpAnyH_take (i := 8) (oi := ⟨_,_,_,_,_,_⟩) (v := undef) rfl (by kernel_rfl) (by kernel_rfl) (by kernel_rfl) (fun _ _ _ h => h) (Or.inr ⟨by rfl,rfl⟩) (by assumption) ?restg2_14
  try simp only [Act.put,List.setIfInBounds_toArray,List.set_cons_zero,List.set_cons_succ]
  refine wpAnyH_take (i := 9) (oi := ⟨_,_,_,_,_,_⟩) (v := undef) rfl (by kernel_rfl) (by kernel_rfl) (by kernel_rfl) (fun _ _ _ h => h) (Or.inr ⟨by rfl,rfl⟩) (by assumption) ?restg2_15
  try simp only [Act.put,List.setIfInBounds_toArray,List.set_cons_zero,List.set_cons_succ]
  refine wpAnyH_take (i := 10) (oi := ⟨_,_,_,_,_,_⟩) (v := undef) rfl (by kernel_rfl) (by kernel_rfl) (by kernel_rfl) (fun _ _ _ h => h) (Or.inr ⟨by rfl,rfl⟩) (by assumption) ?restg2_16
  try simp only [Act.put,List.setIfInBounds_toArray,List.set_cons_zero,List.set_cons_succ]
  refine wpAnyH_take (i := 11) (oi := ⟨_,_,_,_,_,_⟩) (v := ?vg2_17) rfl (by kernel_rfl) (by kernel_rfl) (by kernel_rfl) (fun _ _ _ h => h) (Or.inl ⟨by rfl,?hyg2_17⟩) (by assumption) ?restg2_17
  case hyg2_17 => (intro W hW; go_simp; try with_reducible rfl)
  try simp only [Act.put,List.setIfInBounds_toArray,List.set_cons_zero,List.set_cons_succ]
  refine wpAnyH_take (i := 12) (oi := ⟨_,_,_,_,_,_⟩) (v := ?vg2_18) rfl (by kernel_rfl) (by kernel_rfl) (by kernel_rfl) (fun _ _ _ h => h) (Or.inl ⟨by rfl,?hyg2_18⟩) (by assumption) ?restg2_18
  case hyg2_18 => (intro W hW; go_simp; try with_reducible rfl)
  try simp only [Act.put,List.setIfInBounds_toArray,List.set_cons_zero,List.set_cons_succ]
  refine wpAnyH_take (i := 13) (oi := ⟨_,_,_,_,_,_⟩) (v := undef) rfl (by kernel_rfl) (by kernel_rfl) (by kernel_rfl) (fun _ _ _ h => h) (Or.inr ⟨by rfl,rfl⟩) (by assumption) ?restg2_19
  try simp only [Act.put,List.setIfInBounds_toArray,List.set_cons_zero,List.set_cons_succ]
  refine wpAnyH_take (i := 14) (oi := ⟨_,_,_,_,_,_⟩) (v := undef) rfl (by kernel_rfl) (by kernel_rfl) (by kernel_rfl) (fun _ _ _ h => h) (Or.inr ⟨by rfl,rfl⟩) (by assumption) ?restg2_20
  try simp only [Act.put,List.setIfInBounds_toArray,List.set_cons_zero,List.set_cons_succ]
  refine wpAnyH_take (i := 15) (oi := ⟨_,_,_,_,_,_⟩) (v := undef) rfl (by kernel_rfl) (by kernel_rfl) (by kernel_rfl) (fun _ _ _ h => h) (Or.inr ⟨by rfl,rfl⟩) (by assumption) ?restg2_21
  try simp only [Act.put,List.setIfInBounds_toArray,List.set_cons_zero,List.set_cons_succ]
  refine wpAnyH_take (i := 16) (oi := ⟨_,_,_,_,_,_⟩) (v := ?vg2_22) rfl (by kernel_rfl) (by kernel_rfl) (by kernel_rfl) (fun _ _ _ h => h) (Or.inl ⟨by rfl,?hyg2_22⟩) (by assumption) ?restg2_22
  case hyg2_22 => (intro W hW; go_simp; try with_reducible rfl)
  try simp only [Act.put,List.setIfInBounds_toArray,List.set_cons_zero,List.set_cons_succ]
  refine wpAnyH_take (i := 17) (oi := ⟨_,_,_,_,_,_⟩) (v := ?vg2_23) rfl (by kernel_rfl) (by kernel_rfl) (by kernel_rfl) (fun _ _ _ h => h) (Or.inl ⟨by rfl,?hyg2_23⟩) (by assumption) ?restg2_23
  case hyg2_23 => (intro W hW; go_simp; try with_reducible rfl)
  try simp only [Act.put,List.setIfInBounds_toArray,List.set_cons_zero,List.set_cons_succ]
  refine wpAnyH_take (i := 18) (oi := ⟨_,_,_,_,_,_⟩) (v := undef) rfl (by kernel_rfl) (by kernel_rfl) (by kernel_rfl) (fun _ _ _ h => h) (Or.inr ⟨by rfl,rfl⟩) (by assumption) ?restg2_24
  try simp only [Act.put,List.setIfInBounds_toArray,List.set_cons_zero,List.set_cons_succ]
  refine wpAnyH_take (i := 19) (oi := ⟨_,_,_,_,_,_⟩) (v := undef) rfl (by kernel_rfl) (by kernel_rfl) (by kernel_rfl) (fun _ _ _ h => h) (Or.inr ⟨by rfl,rfl⟩) (by assumption) ?restg2_25
  try simp only [Act.put,List.setIfInBounds_toArray,List.set_cons_zero,List.set_cons_succ]
  refine wpAnyH_take (i := 20) (oi := ⟨_,_,_,_,_,_⟩) (v := undef) rfl (by kernel_rfl) (by kernel_rfl) (by kernel_rfl) (fun _ _ _ h => h) (Or.inr ⟨by rfl,rfl⟩) (by assumption) ?restg2_26
  try simp only [Act.put,List.setIfInBounds_toArray,List.set_cons_zero,List.set_cons_succ]
  refine wpAnyH_take (i := 21) (oi := ⟨_,_,_,_,_,_⟩) (v := ?vg2_27) rfl (by kernel_rfl) (by kernel_rfl) (by kernel_rfl) (fun _ _ _ h => h) (Or.inl ⟨by rfl,?hyg2_27⟩) (by assumption) ?restg2_27
  case hyg2_27 => (intro W hW; go_simp; try with_reducible rfl)
  try simp only [Act.put,List.setIfInBounds_toArray,List.set_cons_zero,List.set_cons_succ]
  refine wpAnyH_take (i := 22) (oi := ⟨_,_,_,_,_,_⟩) (v := ?vg2_28) rfl (by kernel_rfl) (by kernel_rfl) (by kernel_rfl) (fun _ _ _ h => h) (Or.inl ⟨by rfl,?hyg2_28⟩) (by assumption) ?restg2_28
  case hyg2_28 => (intro W hW; go_simp; try with_reducible rfl)
  try simp only [Act.put,List.setIfInBounds_toArray,List.set_cons_zero,List.set_cons_succ]
  refine wpAnyH_take (i := 23) (oi := ⟨_,_,_,_,_,_⟩) (v := undef) rfl (by kernel_rfl) (by kernel_rfl) (by kernel_rfl) (fun _ _ _ h => h) (Or.inr ⟨by rfl,rfl⟩) (by assumption) ?restg2_29
  try simp only [Act.put,List.setIfInBounds_toArray,List.set_cons_zero,List.set_cons_succ]
  refine wpAnyH_take (i := 24) (oi := ⟨_,_,_,_,_,_⟩) (v := undef) rfl (by kernel_rfl) (by kernel_rfl) (by kernel_rfl) (fun _ _ _ h => h) (Or.inr ⟨by rfl,rfl⟩) (by assumption) ?restg2_30
  try simp only [Act.put,List.setIfInBounds_toArray,List.set_cons_zero,List.set_cons_succ]
  refine wpAnyH_take (i := 25) (oi := ⟨_,_,_,_,_,_⟩) (v := undef) rfl (by kernel_rfl) (by kernel_rfl) (by kernel_rfl) (fun _ _ _ h => h) (Or.inr ⟨by rfl,rfl⟩) (by assumption) ?restg2_31
  try simp only [Act.put,List.setIfInBounds_toArray,List.set_cons_zero,List.set_cons_succ]
  refine wpAnyH_take (i := 26) (oi := ⟨_,_,_,_,_,_⟩) (v := ?vg2_32) rfl (by kernel_rfl) (by kernel_rfl) (by kernel_rfl) (fun _ _ _ h => h) (Or.inl ⟨by rfl,?hyg2_32⟩) (by assumption) ?restg2_32
  case hyg2_32 => (intro W hW; go_simp; try with_reducible rfl)
  try simp only [Act.put,List.setIfInBounds_toArray,List.set_cons_zero,List.set_cons_succ]
  refine wpAnyH_take (i := 27) (oi := ⟨_,_,_,_,_,_⟩) (v := ?vg2_33) rfl (by kernel_rfl) (by kernel_rfl) (by kernel_rfl) (fun _ _ _ h => h) (Or.inl ⟨by rfl,?hyg2_33⟩) (by assumption) ?restg2_33
  case hyg2_33 => (intro W hW; go_simp; try with_reducible rfl)
  try simp only [Act.put,List.setIfInBounds_toArray,List.set_cons_zero,List.set_cons_succ]
  refine wpAnyH_take (i := 28) (oi := ⟨_,_,_,_,_,_⟩) (v := undef) rfl (by kernel_rfl) (by kernel_rfl) (by kernel_rfl) (fun _ _ _ h => h) (Or.inr ⟨by rfl,rfl⟩) (by assumption) ?restg2_34
  try simp only [Act.put,List.setIfInBounds_toArray,List.set_cons_zero,List.set_cons_succ]
  refine wpAnyH_take (i := 29) (oi := ⟨_,_,_,_,_,_⟩) (v := undef) rfl (by kernel_rfl) (by kernel_rfl) (by kernel_rfl) (fun _ _ _ h => h) (Or.inr ⟨by rfl,rfl⟩) (by assumption) ?restg2_35
  try simp only [Act.put,List.setIfInBounds_toArray,List.set_cons_zero,List.set_cons_succ]
  refine wpAnyH_take (i := 30) (oi := ⟨_,_,_,_,_,_⟩) (v := undef) rfl (by kernel_rfl) (by kernel_rfl) (by kernel_rfl) (fun _ _ _ h => h) (Or.inr ⟨by rfl,rfl⟩) (by assumption) ?restg2_36
  try simp only [Act.put,List.setIfInBounds_toArray,List.set_cons_zero,List.set_cons_succ]
  refine wpAnyH_take (i := 31) (oi := ⟨_,_,_,_,_,_⟩) (v := ?vg2_37) rfl (by kernel_rfl) (by kernel_rfl) (by kernel_rfl) (fun _ _ _ h => h) (Or.inl ⟨by rfl,?hyg2_37⟩) (by assumption) ?restg2_37
  case hyg2_37 => (intro W hW; go_simp; try with_reducible rfl)
  try simp only [Act.put,List.setIfInBounds_toArray,List.set_cons_zero,List.set_cons_succ]
  refine wpAnyH_take (i := 32) (oi := ⟨_,_,_,_,_,_⟩) (v := ?vg2_38) rfl (by kernel_rfl) (by kernel_rfl) (by kernel_rfl) (fun _ _ _ h => h) (Or.inl ⟨by rfl,?hyg2_38⟩) (by assumption) ?restg2_38
  case hyg2_38 => (intro W hW; go_simp; try with_reducible rfl)
  try simp only [Act.put,List.setIfInBounds_toArray,List.set_cons_zero,List.set_cons_succ]
  refine wpAnyH_take (i := 33) (oi := ⟨_,_,_,_,_,_⟩) (v := undef) rfl (by kernel_rfl) (by kernel_rfl) (by kernel_rfl) (fun _ _ _ h => h) (Or.inr ⟨by rfl,rfl⟩) (by assumption) ?restg2_39
  try simp only [Act.put,List.setIfInBounds_toArray,List.set_cons_zero,List.set_cons_succ]
  refine wpAnyH_take (i := 34) (oi := ⟨_,_,_,_,_,_⟩) (v := undef) rfl (by kernel_rfl) (by kernel_rfl) (by kernel_rfl) (fun _ _ _ h => h) (Or.inr ⟨by rfl,rfl⟩) (by assumption) ?restg2_40
  try simp only [Act.put,List.setIfInBounds_toArray,List.set_cons_zero,List.set_cons_succ]
  refine wpAnyH_take (i := 35) (oi := ⟨_,_,_,_,_,_⟩) (v := undef) rfl (by kernel_rfl) (by kernel_rfl) (by kernel_rfl) (fun _ _ _ h => h) (Or.inr ⟨by rfl,rfl⟩) (by assumption) ?restg2_41
  try simp only [Act.put,List.setIfInBounds_toArray,List.set_cons_zero,List.set_cons_succ]
  refine wpAnyH_take (i := 36) (oi := ⟨_,_,_,_,_,_⟩) (v := undef) rfl (by kernel_rfl) (by kernel_rfl) (by kernel_rfl) (fun _ _ _ h => h) (Or.inr ⟨by rfl,rfl⟩) (by assumption) ?restg2_42
  try simp only [Act.put,List.setIfInBounds_toArray,List.set_cons_zero,List.set_cons_succ]
  refine wpAnyH_take (i := 37) (oi := ⟨_,_,_,_,_,_⟩) (v := ?vg2_43) rfl (by kernel_rfl) (by kernel_rfl) (by kernel_rfl) (fun _ _ _ h => h) (Or.inl ⟨by rfl,?hyg2_43⟩) (by assumption) ?restg2_43
  case hyg2_43 => (intro W hW; go_simp; try with_reducible rfl)
  try simp only [Act.put,List.setIfInBounds_toArray,List.set_cons_zero,List.set_cons_succ]
  refine wpAnyH_take (i := 38) (oi := ⟨_,_,_,_,_,_⟩) (v := ?vg2_44) rfl (by kernel_rfl) (by kernel_rfl) (by kernel_rfl) (fun _ _ _ h => h) (Or.inl ⟨by rfl,?hyg2_44⟩) (by assumption) ?restg2_44
  case hyg2_44 => (intro W hW; go_simp; try with_reducible rfl)
  try simp only [Act.put,List.setIfInBounds_toArray,List.set_cons_zero,List.set_cons_succ]
  refine wpAnyH_take (i := 39) (oi := ⟨_,_,_,_,_,_⟩) (v := undef) rfl (by kernel_rfl) (by kernel_rfl) (by kernel_rfl) (fun _ _ _ h => h) (Or.inr ⟨by rfl,rfl⟩) (by assumption) ?restg2_45
  try simp only [Act.put,List.setIfInBounds_toArray,List.set_cons_zero,List.set_cons_succ]
  refine wpAnyH_take (i := 40) (oi := ⟨_,_,_,_,_,_⟩) (v := undef) rfl (by kernel_rfl) (by kernel_rfl) (by kernel_rfl) (fun _ _ _ h => h) (Or.inr ⟨by rfl,rfl⟩) (by assumption) ?restg2_46
  try simp only [Act.put,List.setIfInBounds_toArray,List.set_cons_zero,List.set_cons_succ]
  refine wpAnyH_take (i := 41) (oi := ⟨_,_,_,_,_,_⟩) (v := undef) rfl (by kernel_rfl) (by kernel_rfl) (by kernel_rfl) (fun _ _ _ h => h) (Or.inr ⟨by rfl,rfl⟩) (by assumption) ?restg2_47
  try simp only [Act.put,List.setIfInBounds_toArray,List.set_cons_zero,List.set_cons_succ]
  refine wpAnyH_take (i := 42) (oi := ⟨_,_,_,_,_,_⟩) (v := ?vg2_48) rfl (by kernel_rfl) (by kernel_rfl) (by kernel_rfl) (fun _ _ _ h => h) (Or.inl ⟨by rfl,?hyg2_48⟩) (by assumption) ?restg2_48
  case hyg2_48 => (intro W hW; go_simp; try with_reducible rfl)
  try simp only [Act.put,List.setIfInBounds_toArray,List.set_cons_zero,List.set_cons_succ]
  refine wpAnyH_take (i := 43) (oi := ⟨_,_,_,_,_,_⟩) (v := ?vg2_49) rfl (by kernel_rfl) (by kernel_rfl) (by kernel_rfl) (fun _ _ _ h => h) (Or.inl ⟨by rfl,?hyg2_49⟩) (by assumption) ?restg2_49
  case hyg2_49 => (intro W hW; go_simp; try with_reducible rfl)
  try simp only [Act.put,List.setIfInBounds_toArray,List.set_cons_zero,List.set_cons_succ]
  refine wpAnyH_done (by kernel_rfl) ?_ _
  have HB := Lib.hid hHeld1.bel
  go_wp2_with fail
  go_ret
  exact ⟨rfl,HB.out⟩
set_option maxHeartbeats 4000000 in
set_option maxRecDepth 100000 in
theorem Rs.RCheck_2 (w : World) (n e TN TE : ByteArray) (DN DE : Nat) (hn : n.size ≤ 4000) (he : e.size ≤ 4000) (hTN : (⟨(Nt.fm (Nt.nv n)).toArray⟩ : ByteArray) = TN) (hTE : (⟨(Nt.fm (Nt.nv e)).toArray⟩ : ByteArray) = TE) (hDN : Nt.dig (Nt.nv n) = DN) (hDE : Nt.dig (Nt.nv e) = DE) (hc1 : TN = n) (hc2 : TE ≠ e) :
    Calls Tryz.prog 39 #[.agg #[.string n,.string e]] w fun r w' => r = .returned (.bool false) ∧ Below w.heap.size w w' := by
  have CN : ∀ W an kn cn,Rn.Num W an kn cn (Nt.nv n) → kn ≤ 1000000 := fun W an kn cn h => Nat.le_trans (h.bytes 2000 n.size (Nt.nv_lt n) (by omega)) (by decide)
  have CE : ∀ W an kn cn,Rn.Num W an kn cn (Nt.nv e) → kn ≤ 1000000 := fun W an kn cn h => Nat.le_trans (h.bytes 2000 e.size (Nt.nv_lt e) (by omega)) (by decide)
  have FN : ∀ W an kn cn,Rn.Num W an kn cn (Nt.nv n) → Calls Tryz.prog 67 #[.slice an kn cn] W fun r w' => r = .returned (.string TN) ∧ Below W.heap.size W w' := fun W an kn cn h => by
    have := Rn.Form_any W an kn cn _ h (CN W an kn cn h)
    rw [hTN] at this
    exact this
  have FE : ∀ W an kn cn,Rn.Num W an kn cn (Nt.nv e) → Calls Tryz.prog 67 #[.slice an kn cn] W fun r w' => r = .returned (.string TE) ∧ Below W.heap.size W w' := fun W an kn cn h => by
    have := Rn.Form_any W an kn cn _ h (CE W an kn cn h)
    rw [hTE] at this
    exact this
  have BN : ∀ W an kn cn,Rn.Num W an kn cn (Nt.nv n) → Calls Tryz.prog 23 #[.slice an kn cn] W fun r w' => r = .returned (.int .i64 (DN : Int)) ∧ w' = W := fun W an kn cn h => by
    have := Rn.Bits_any W an kn cn _ h (CN W an kn cn h)
    rw [hDN] at this
    exact this
  have BE : ∀ W an kn cn,Rn.Num W an kn cn (Nt.nv e) → Calls Tryz.prog 23 #[.slice an kn cn] W fun r w' => r = .returned (.int .i64 (DE : Int)) ∧ w' = W := fun W an kn cn h => by
    have := Rn.Bits_any W an kn cn _ h (CE W an kn cn h)
    rw [hDE] at this
    exact this
  have HZ := Lib.hid (And.intro hn he)
  have FN := Lib.hid FN
  have FE := Lib.hid FE
  have BN := Lib.hid BN
  have BE := Lib.hid BE
  subst hc1
  have b2 := Nt.toList_beq2 hc2
  have n2 := Nt.toList_ne2 hc2
  clear CN CE hTN hTE hDN hDE hn he
  have S0 : Rs.BoxS w w.heap.size TN e (w.alloc (Obj.cells #[.string TN,.string e] 25)) := ⟨by simp,by simp,(Below.refl _ _).alloc (Nat.le_refl _) _⟩
  have HS0 := Lib.hid S0
  clear S0
  go_enter Tryz.func39,Tryz.ntmps39
  go_wp2_with fail
  have S0 := HS0.out
  clear HS0
  revert S0
  generalize w.alloc (Obj.cells #[.string TN,.string e] 25) = w1
  intro S0
  refine wp_region_held_drew (S := fun W => Rs.BoxS w w.heap.size TN e W) (by kernel_rfl) (S0.below (below_drewN (Below.refl _ _) 1)) (fun hHeld0 => ?_)
  clear S0
  refine wpAnyH_take (i := 0) (oi := ⟨_,_,_,_,_,_⟩) (v := ?vg3_1) rfl (by kernel_rfl) (by kernel_rfl) (by kernel_rfl) (fun _ _ _ h => h) (Or.inl ⟨by rfl,?hyg3_1⟩) (by assumption) ?restg3_1
  case hyg3_1 => (intro W hW; go_simp; try with_reducible rfl)
  try simp only [Act.put,List.setIfInBounds_toArray,List.set_cons_zero,List.set_cons_succ]
  refine wpAnyH_take (i := 1) (oi := ⟨_,_,_,_,_,_⟩) (v := .string TN) rfl (by kernel_rfl) (by kernel_rfl) (by kernel_rfl) (fun _ _ _ h => h) (Or.inl ⟨by rfl,fun W hW => (by have c0 := hW.c0; go_simp)⟩) (by assumption) ?restg3_2
  try simp only [Act.put,List.setIfInBounds_toArray,List.set_cons_zero,List.set_cons_succ]
  refine wpAnyH_take (i := 3) (oi := ⟨_,_,_,_,_,_⟩) (v := ?vg3_3) rfl (by kernel_rfl) (by kernel_rfl) (by kernel_rfl) (fun _ _ _ h => h) (Or.inl ⟨by rfl,?hyg3_3⟩) (by assumption) ?restg3_3
  case hyg3_3 => (intro W hW; go_simp; try with_reducible rfl)
  try simp only [Act.put,List.setIfInBounds_toArray,List.set_cons_zero,List.set_cons_succ]
  refine wpAnyH_take (i := 4) (oi := ⟨_,_,_,_,_,_⟩) (v := .string e) rfl (by kernel_rfl) (by kernel_rfl) (by kernel_rfl) (fun _ _ _ h => h) (Or.inl ⟨by rfl,fun W hW => (by have c1 := hW.c1; go_simp)⟩) (by assumption) ?restg3_4
  try simp only [Act.put,List.setIfInBounds_toArray,List.set_cons_zero,List.set_cons_succ]
  refine wpAnyH_ready (rs := [2]) (by kernel_rfl) (by simp) ?_
  refine AllReadyH.cons (o := ⟨_,_,_,_,_,_⟩) rfl (fun K hK => ?_) AllReadyH.nil
  go_simp
  refine Calls.mono (Rn.Of_any _ TN (Nat.le_trans HZ.out.1 (by decide))) ?_
  rintro e2 w2 ⟨an,kn,cn,rfl,hN,b2⟩
  have S2 := hHeld0.below b2
  go_wp2_with fail
  refine hK.out _ _ (S2) (fun hHeld1 => ?_)
  clear hK K hHeld0
  try simp only [Act.put,List.setIfInBounds_toArray,List.set_cons_zero,List.set_cons_succ]
  refine wpAnyH_ready (rs := [5]) (by kernel_rfl) (by simp) ?_
  refine AllReadyH.cons (o := ⟨_,_,_,_,_,_⟩) rfl (fun K hK => ?_) AllReadyH.nil
  go_simp
  refine Calls.mono (Rn.Of_any _ e (Nat.le_trans HZ.out.2 (by decide))) ?_
  rintro e3 w3 ⟨ae,ke,ce,rfl,hE,b3⟩
  have S3 := S2.below b3
  have T0 : Rs.KeyS w w.heap.size TN e an kn cn ae ke ce w3 := ⟨S3.c0,S3.c1,hN.below b3,hE,S3.bel⟩
  go_wp2_with fail
  refine hK.out _ _ (S3) (fun hHeld2 => ?_)
  clear hK K hHeld1
  try simp only [Act.put,List.setIfInBounds_toArray,List.set_cons_zero,List.set_cons_succ]
  refine wpAnyH_take (i := 6) (oi := ⟨_,_,_,_,_,_⟩) (v := ?vg3_5) rfl (by kernel_rfl) (by kernel_rfl) (by kernel_rfl) (fun _ _ _ h => h) (Or.inl ⟨by rfl,?hyg3_5⟩) (by assumption) ?restg3_5
  case hyg3_5 => (intro W hW; go_simp; try with_reducible rfl)
  try simp only [Act.put,List.setIfInBounds_toArray,List.set_cons_zero,List.set_cons_succ]
  refine wpAnyH_take (i := 7) (oi := ⟨_,_,_,_,_,_⟩) (v := ?vg3_6) rfl (by kernel_rfl) (by kernel_rfl) (by kernel_rfl) (fun _ _ _ h => h) (Or.inl ⟨by rfl,?hyg3_6⟩) (by assumption) ?restg3_6
  case hyg3_6 => (intro W hW; go_simp; try with_reducible rfl)
  try simp only [Act.put,List.setIfInBounds_toArray,List.set_cons_zero,List.set_cons_succ]
  refine wpAnyH_done (by kernel_rfl) ?_ _
  clear S2 S3 hHeld2 hN hE b2 b3
  go_wp2_with fail
  refine wp_region_held_drew (S := fun W => Rs.KeyS w w.heap.size TN e an kn cn ae ke ce W) (by kernel_rfl) (T0.below (below_drewN (Below.refl _ _) 1)) (fun hHeld0 => ?_)
  clear T0
  refine wpAnyH_take (i := 0) (oi := ⟨_,_,_,_,_,_⟩) (v := ?vg3_7) rfl (by kernel_rfl) (by kernel_rfl) (by kernel_rfl) (fun _ _ _ h => h) (Or.inl ⟨by rfl,?hyg3_7⟩) (by assumption) ?restg3_7
  case hyg3_7 => (intro W hW; go_simp; try with_reducible rfl)
  try simp only [Act.put,List.setIfInBounds_toArray,List.set_cons_zero,List.set_cons_succ]
  refine wpAnyH_take (i := 2) (oi := ⟨_,_,_,_,_,_⟩) (v := ?vg3_8) rfl (by kernel_rfl) (by kernel_rfl) (by kernel_rfl) (fun _ _ _ h => h) (Or.inl ⟨by rfl,?hyg3_8⟩) (by assumption) ?restg3_8
  case hyg3_8 => (intro W hW; go_simp; try with_reducible rfl)
  try simp only [Act.put,List.setIfInBounds_toArray,List.set_cons_zero,List.set_cons_succ]
  refine wpAnyH_take (i := 3) (oi := ⟨_,_,_,_,_,_⟩) (v := .string TN) rfl (by kernel_rfl) (by kernel_rfl) (by kernel_rfl) (fun _ _ _ h => h) (Or.inl ⟨by rfl,fun W hW => (by have c0 := hW.c0; go_simp)⟩) (by assumption) ?restg3_9
  try simp only [Act.put,List.setIfInBounds_toArray,List.set_cons_zero,List.set_cons_succ]
  refine wpAnyH_ready (rs := [1]) (by kernel_rfl) (by simp) ?_
  refine AllReadyH.cons (o := ⟨_,_,_,_,_,_⟩) rfl (fun K hK => ?_) AllReadyH.nil
  go_simp
  refine Calls.mono (FN.out _ _ _ _ hHeld0.n) ?_
  rintro r w4 ⟨rfl,b4⟩
  have T1 := hHeld0.below b4
  clear b4
  go_wp2_with fail
  refine hK.out _ _ (T1) (fun hHeld1 => ?_)
  clear hK K hHeld0
  try simp only [Act.put,List.setIfInBounds_toArray,List.set_cons_zero,List.set_cons_succ]
  refine wpAnyH_take (i := 4) (oi := ⟨_,_,_,_,_,_⟩) (v := ?vg3_10) rfl (by kernel_rfl) (by kernel_rfl) (by kernel_rfl) (fun _ _ _ h => h) (Or.inl ⟨by rfl,?hyg3_10⟩) (by assumption) ?restg3_10
  case hyg3_10 => (intro W hW; go_simp; try with_reducible rfl)
  try simp only [Act.put,List.setIfInBounds_toArray,List.set_cons_zero,List.set_cons_succ]
  refine wpAnyH_take (i := 5) (oi := ⟨_,_,_,_,_,_⟩) (v := ?vg3_11) rfl (by kernel_rfl) (by kernel_rfl) (by kernel_rfl) (fun _ _ _ h => h) (Or.inl ⟨by rfl,?hyg3_11⟩) (by assumption) ?restg3_11
  case hyg3_11 => (intro W hW; go_simp; try with_reducible rfl)
  try simp only [Act.put,List.setIfInBounds_toArray,List.set_cons_zero,List.set_cons_succ]
  refine wpAnyH_take (i := 6) (oi := ⟨_,_,_,_,_,_⟩) (v := ?vg3_12) rfl (by kernel_rfl) (by kernel_rfl) (by kernel_rfl) (fun _ _ _ h => h) (Or.inl ⟨by rfl,?hyg3_12⟩) (by assumption) ?restg3_12
  case hyg3_12 => (intro W hW; go_simp; try with_reducible rfl)
  try simp only [Act.put,List.setIfInBounds_toArray,List.set_cons_zero,List.set_cons_succ]
  refine wpAnyH_take (i := 8) (oi := ⟨_,_,_,_,_,_⟩) (v := ?vg3_13) rfl (by kernel_rfl) (by kernel_rfl) (by kernel_rfl) (fun _ _ _ h => h) (Or.inl ⟨by rfl,?hyg3_13⟩) (by assumption) ?restg3_13
  case hyg3_13 => (intro W hW; go_simp; try with_reducible rfl)
  try simp only [Act.put,List.setIfInBounds_toArray,List.set_cons_zero,List.set_cons_succ]
  refine wpAnyH_take (i := 9) (oi := ⟨_,_,_,_,_,_⟩) (v := .string e) rfl (by kernel_rfl) (by kernel_rfl) (by kernel_rfl) (fun _ _ _ h => h) (Or.inl ⟨by rfl,fun W hW => (by have c1 := hW.c1; go_simp)⟩) (by assumption) ?restg3_14
  try simp only [Act.put,List.setIfInBounds_toArray,List.set_cons_zero,List.set_cons_succ]
  refine wpAnyH_ready (rs := [7]) (by kernel_rfl) (by simp) ?_
  refine AllReadyH.cons (o := ⟨_,_,_,_,_,_⟩) rfl (fun K hK => ?_) AllReadyH.nil
  go_simp
  refine Calls.mono (FE.out _ _ _ _ hHeld1.e) ?_
  rintro r w5 ⟨rfl,b5⟩
  have T2 := hHeld1.below b5
  clear b5
  go_wp2_with fail
  refine hK.out _ _ (T2) (fun hHeld2 => ?_)
  clear hK K hHeld1
  try simp only [Act.put,List.setIfInBounds_toArray,List.set_cons_zero,List.set_cons_succ]
  refine wpAnyH_take (i := 10) (oi := ⟨_,_,_,_,_,_⟩) (v := ?vg3_15) rfl (by kernel_rfl) (by kernel_rfl) (by kernel_rfl) (fun _ _ _ h => h) (Or.inl ⟨by rfl,?hyg3_15⟩) (by assumption) ?restg3_15
  case hyg3_15 => (intro W hW; go_simp; try with_reducible rfl)
  try simp only [Act.put,List.setIfInBounds_toArray,List.set_cons_zero,List.set_cons_succ]
  refine wpAnyH_take (i := 11) (oi := ⟨_,_,_,_,_,_⟩) (v := ?vg3_16) rfl (by kernel_rfl) (by kernel_rfl) (by kernel_rfl) (fun _ _ _ h => h) (Or.inl ⟨by rfl,?hyg3_16⟩) (by assumption) ?restg3_16
  case hyg3_16 => (intro W hW; go_simp; try with_reducible rfl)
  try simp only [Act.put,List.setIfInBounds_toArray,List.set_cons_zero,List.set_cons_succ]
  refine wpAnyH_take (i := 12) (oi := ⟨_,_,_,_,_,_⟩) (v := ?vg3_17) rfl (by kernel_rfl) (by kernel_rfl) (by kernel_rfl) (fun _ _ _ h => h) (Or.inl ⟨by rfl,?hyg3_17⟩) (by assumption) ?restg3_17
  case hyg3_17 => (intro W hW; go_simp; try with_reducible rfl)
  try simp only [Act.put,List.setIfInBounds_toArray,List.set_cons_zero,List.set_cons_succ]
  refine wpAnyH_take (i := 13) (oi := ⟨_,_,_,_,_,_⟩) (v := undef) rfl (by kernel_rfl) (by kernel_rfl) (by kernel_rfl) (fun _ _ _ h => h) (Or.inr ⟨by rfl,rfl⟩) (by assumption) ?restg3_18
  try simp only [Act.put,List.setIfInBounds_toArray,List.set_cons_zero,List.set_cons_succ]
  refine wpAnyH_take (i := 14) (oi := ⟨_,_,_,_,_,_⟩) (v := undef) rfl (by kernel_rfl) (by kernel_rfl) (by kernel_rfl) (fun _ _ _ h => h) (Or.inr ⟨by rfl,rfl⟩) (by assumption) ?restg3_19
  try simp only [Act.put,List.setIfInBounds_toArray,List.set_cons_zero,List.set_cons_succ]
  refine wpAnyH_take (i := 15) (oi := ⟨_,_,_,_,_,_⟩) (v := undef) rfl (by kernel_rfl) (by kernel_rfl) (by kernel_rfl) (fun _ _ _ h => h) (Or.inr ⟨by rfl,rfl⟩) (by assumption) ?restg3_20
  try simp only [Act.put,List.setIfInBounds_toArray,List.set_cons_zero,List.set_cons_succ]
  refine wpAnyH_take (i := 16) (oi := ⟨_,_,_,_,_,_⟩) (v := ?vg3_21) rfl (by kernel_rfl) (by kernel_rfl) (by kernel_rfl) (fun _ _ _ h => h) (Or.inl ⟨by rfl,?hyg3_21⟩) (by assumption) ?restg3_21
  case hyg3_21 => (intro W hW; go_simp; try with_reducible rfl)
  try simp only [Act.put,List.setIfInBounds_toArray,List.set_cons_zero,List.set_cons_succ]
  refine wpAnyH_take (i := 17) (oi := ⟨_,_,_,_,_,_⟩) (v := ?vg3_22) rfl (by kernel_rfl) (by kernel_rfl) (by kernel_rfl) (fun _ _ _ h => h) (Or.inl ⟨by rfl,?hyg3_22⟩) (by assumption) ?restg3_22
  case hyg3_22 => (intro W hW; go_simp; try with_reducible rfl)
  try simp only [Act.put,List.setIfInBounds_toArray,List.set_cons_zero,List.set_cons_succ]
  refine wpAnyH_take (i := 18) (oi := ⟨_,_,_,_,_,_⟩) (v := undef) rfl (by kernel_rfl) (by kernel_rfl) (by kernel_rfl) (fun _ _ _ h => h) (Or.inr ⟨by rfl,rfl⟩) (by assumption) ?restg3_23
  try simp only [Act.put,List.setIfInBounds_toArray,List.set_cons_zero,List.set_cons_succ]
  refine wpAnyH_take (i := 19) (oi := ⟨_,_,_,_,_,_⟩) (v := undef) rfl (by kernel_rfl) (by kernel_rfl) (by kernel_rfl) (fun _ _ _ h => h) (Or.inr ⟨by rfl,rfl⟩) (by assumption) ?restg3_24
  try simp only [Act.put,List.setIfInBounds_toArray,List.set_cons_zero,List.set_cons_succ]
  refine wpAnyH_take (i := 20) (oi := ⟨_,_,_,_,_,_⟩) (v := undef) rfl (by kernel_rfl) (by kernel_rfl) (by kernel_rfl) (fun _ _ _ h => h) (Or.inr ⟨by rfl,rfl⟩) (by assumption) ?restg3_25
  try simp only [Act.put,List.setIfInBounds_toArray,List.set_cons_zero,List.set_cons_succ]
  refine wpAnyH_take (i := 21) (oi := ⟨_,_,_,_,_,_⟩) (v := ?vg3_26) rfl (by kernel_rfl) (by kernel_rfl) (by kernel_rfl) (fun _ _ _ h => h) (Or.inl ⟨by rfl,?hyg3_26⟩) (by assumption) ?restg3_26
  case hyg3_26 => (intro W hW; go_simp; try with_reducible rfl)
  try simp only [Act.put,List.setIfInBounds_toArray,List.set_cons_zero,List.set_cons_succ]
  refine wpAnyH_take (i := 22) (oi := ⟨_,_,_,_,_,_⟩) (v := ?vg3_27) rfl (by kernel_rfl) (by kernel_rfl) (by kernel_rfl) (fun _ _ _ h => h) (Or.inl ⟨by rfl,?hyg3_27⟩) (by assumption) ?restg3_27
  case hyg3_27 => (intro W hW; go_simp; try with_reducible rfl)
  try simp only [Act.put,List.setIfInBounds_toArray,List.set_cons_zero,List.set_cons_succ]
  refine wpAnyH_take (i := 23) (oi := ⟨_,_,_,_,_,_⟩) (v := undef) rfl (by kernel_rfl) (by kernel_rfl) (by kernel_rfl) (fun _ _ _ h => h) (Or.inr ⟨by rfl,rfl⟩) (by assumption) ?restg3_28
  try simp only [Act.put,List.setIfInBounds_toArray,List.set_cons_zero,List.set_cons_succ]
  refine wpAnyH_take (i := 24) (oi := ⟨_,_,_,_,_,_⟩) (v := undef) rfl (by kernel_rfl) (by kernel_rfl) (by kernel_rfl) (fun _ _ _ h => h) (Or.inr ⟨by rfl,rfl⟩) (by assumption) ?restg3_29
  try simp only [Act.put,List.setIfInBounds_toArray,List.set_cons_zero,List.set_cons_succ]
  refine wpAnyH_take (i := 25) (oi := ⟨_,_,_,_,_,_⟩) (v := undef) rfl (by kernel_rfl) (by kernel_rfl) (by kernel_rfl) (fun _ _ _ h => h) (Or.inr ⟨by rfl,rfl⟩) (by assumption) ?restg3_30
  try simp only [Act.put,List.setIfInBounds_toArray,List.set_cons_zero,List.set_cons_succ]
  refine wpAnyH_take (i := 26) (oi := ⟨_,_,_,_,_,_⟩) (v := ?vg3_31) rfl (by kernel_rfl) (by kernel_rfl) (by kernel_rfl) (fun _ _ _ h => h) (Or.inl ⟨by rfl,?hyg3_31⟩) (by assumption) ?restg3_31
  case hyg3_31 => (intro W hW; go_simp; try with_reducible rfl)
  try simp only [Act.put,List.setIfInBounds_toArray,List.set_cons_zero,List.set_cons_succ]
  refine wpAnyH_take (i := 27) (oi := ⟨_,_,_,_,_,_⟩) (v := ?vg3_32) rfl (by kernel_rfl) (by kernel_rfl) (by kernel_rfl) (fun _ _ _ h => h) (Or.inl ⟨by rfl,?hyg3_32⟩) (by assumption) ?restg3_32
  case hyg3_32 => (intro W hW; go_simp; try with_reducible rfl)
  try simp only [Act.put,List.setIfInBounds_toArray,List.set_cons_zero,List.set_cons_succ]
  refine wpAnyH_take (i := 28) (oi := ⟨_,_,_,_,_,_⟩) (v := undef) rfl (by kernel_rfl) (by kernel_rfl) (by kernel_rfl) (fun _ _ _ h => h) (Or.inr ⟨by rfl,rfl⟩) (by assumption) ?restg3_33
  try simp only [Act.put,List.setIfInBounds_toArray,List.set_cons_zero,List.set_cons_succ]
  refine wpAnyH_take (i := 29) (oi := ⟨_,_,_,_,_,_⟩) (v := undef) rfl (by kernel_rfl) (by kernel_rfl) (by kernel_rfl) (fun _ _ _ h => h) (Or.inr ⟨by rfl,rfl⟩) (by assumption) ?restg3_34
  try simp only [Act.put,List.setIfInBounds_toArray,List.set_cons_zero,List.set_cons_succ]
  refine wpAnyH_take (i := 30) (oi := ⟨_,_,_,_,_,_⟩) (v := undef) rfl (by kernel_rfl) (by kernel_rfl) (by kernel_rfl) (fun _ _ _ h => h) (Or.inr ⟨by rfl,rfl⟩) (by assumption) ?restg3_35
  try simp only [Act.put,List.setIfInBounds_toArray,List.set_cons_zero,List.set_cons_succ]
  refine wpAnyH_take (i := 31) (oi := ⟨_,_,_,_,_,_⟩) (v := ?vg3_36) rfl (by kernel_rfl) (by kernel_rfl) (by kernel_rfl) (fun _ _ _ h => h) (Or.inl ⟨by rfl,?hyg3_36⟩) (by assumption) ?restg3_36
  case hyg3_36 => (intro W hW; go_simp; try with_reducible rfl)
  try simp only [Act.put,List.setIfInBounds_toArray,List.set_cons_zero,List.set_cons_succ]
  refine wpAnyH_take (i := 32) (oi := ⟨_,_,_,_,_,_⟩) (v := ?vg3_37) rfl (by kernel_rfl) (by kernel_rfl) (by kernel_rfl) (fun _ _ _ h => h) (Or.inl ⟨by rfl,?hyg3_37⟩) (by assumption) ?restg3_37
  case hyg3_37 => (intro W hW; go_simp; try with_reducible rfl)
  try simp only [Act.put,List.setIfInBounds_toArray,List.set_cons_zero,List.set_cons_succ]
  refine wpAnyH_take (i := 33) (oi := ⟨_,_,_,_,_,_⟩) (v := undef) rfl (by kernel_rfl) (by kernel_rfl) (by kernel_rfl) (fun _ _ _ h => h) (Or.inr ⟨by rfl,rfl⟩) (by assumption) ?restg3_38
  try simp only [Act.put,List.setIfInBounds_toArray,List.set_cons_zero,List.set_cons_succ]
  refine wpAnyH_take (i := 34) (oi := ⟨_,_,_,_,_,_⟩) (v := undef) rfl (by kernel_rfl) (by kernel_rfl) (by kernel_rfl) (fun _ _ _ h => h) (Or.inr ⟨by rfl,rfl⟩) (by assumption) ?restg3_39
  try simp only [Act.put,List.setIfInBounds_toArray,List.set_cons_zero,List.set_cons_succ]
  refine wpAnyH_take (i := 35) (oi := ⟨_,_,_,_,_,_⟩) (v := undef) rfl (by kernel_rfl) (by kernel_rfl) (by kernel_rfl) (fun _ _ _ h => h) (Or.inr ⟨by rfl,rfl⟩) (by assumption) ?restg3_40
  try simp only [Act.put,List.setIfInBounds_toArray,List.set_cons_zero,List.set_cons_succ]
  refine wpAnyH_take (i := 36) (oi := ⟨_,_,_,_,_,_⟩) (v := undef) rfl (by kernel_rfl) (by kernel_rfl) (by kernel_rfl) (fun _ _ _ h => h) (Or.inr ⟨by rfl,rfl⟩) (by assumption) ?restg3_41
  try simp only [Act.put,List.setIfInBounds_toArray,List.set_cons_zero,List.set_cons_succ]
  refine wpAnyH_take (i := 37) (oi := ⟨_,_,_,_,_,_⟩) (v := ?vg3_42) rfl (by kernel_rfl) (by kernel_rfl) (by kernel_rfl) (fun _ _ _ h => h) (Or.inl ⟨by rfl,?hyg3_42⟩) (by assumption) ?restg3_42
  case hyg3_42 => (intro W hW; go_simp; try with_reducible rfl)
  try simp only [Act.put,List.setIfInBounds_toArray,List.set_cons_zero,List.set_cons_succ]
  refine wpAnyH_take (i := 38) (oi := ⟨_,_,_,_,_,_⟩) (v := ?vg3_43) rfl (by kernel_rfl) (by kernel_rfl) (by kernel_rfl) (fun _ _ _ h => h) (Or.inl ⟨by rfl,?hyg3_43⟩) (by assumption) ?restg3_43
  case hyg3_43 => (intro W hW; go_simp; try with_reducible rfl)
  try simp only [Act.put,List.setIfInBounds_toArray,List.set_cons_zero,List.set_cons_succ]
  refine wpAnyH_take (i := 39) (oi := ⟨_,_,_,_,_,_⟩) (v := undef) rfl (by kernel_rfl) (by kernel_rfl) (by kernel_rfl) (fun _ _ _ h => h) (Or.inr ⟨by rfl,rfl⟩) (by assumption) ?restg3_44
  try simp only [Act.put,List.setIfInBounds_toArray,List.set_cons_zero,List.set_cons_succ]
  refine wpAnyH_take (i := 40) (oi := ⟨_,_,_,_,_,_⟩) (v := undef) rfl (by kernel_rfl) (by kernel_rfl) (by kernel_rfl) (fun _ _ _ h => h) (Or.inr ⟨by rfl,rfl⟩) (by assumption) ?restg3_45
  try simp only [Act.put,List.setIfInBounds_toArray,List.set_cons_zero,List.set_cons_succ]
  refine wpAnyH_take (i := 41) (oi := ⟨_,_,_,_,_,_⟩) (v := undef) rfl (by kernel_rfl) (by kernel_rfl) (by kernel_rfl) (fun _ _ _ h => h) (Or.inr ⟨by rfl,rfl⟩) (by assumption) ?restg3_46
  try simp only [Act.put,List.setIfInBounds_toArray,List.set_cons_zero,List.set_cons_succ]
  refine wpAnyH_take (i := 42) (oi := ⟨_,_,_,_,_,_⟩) (v := ?vg3_47) rfl (by kernel_rfl) (by kernel_rfl) (by kernel_rfl) (fun _ _ _ h => h) (Or.inl ⟨by rfl,?hyg3_47⟩) (by assumption) ?restg3_47
  case hyg3_47 => (intro W hW; go_simp; try with_reducible rfl)
  try simp only [Act.put,List.setIfInBounds_toArray,List.set_cons_zero,List.set_cons_succ]
  refine wpAnyH_take (i := 43) (oi := ⟨_,_,_,_,_,_⟩) (v := ?vg3_48) rfl (by kernel_rfl) (by kernel_rfl) (by kernel_rfl) (fun _ _ _ h => h) (Or.inl ⟨by rfl,?hyg3_48⟩) (by assumption) ?restg3_48
  case hyg3_48 => (intro W hW; go_simp; try with_reducible rfl)
  try simp only [Act.put,List.setIfInBounds_toArray,List.set_cons_zero,List.set_cons_succ]
  refine wpAnyH_done (by kernel_rfl) ?_ _
  have HB := Lib.hid hHeld2.bel
  go_wp2_with fail
  go_ret
  exact ⟨rfl,HB.out⟩
set_option maxHeartbeats 4000000 in
set_option maxRecDepth 100000 in
theorem Rs.RCheck_3 (w : World) (n e TN TE : ByteArray) (DN DE : Nat) (hn : n.size ≤ 4000) (he : e.size ≤ 4000) (hTN : (⟨(Nt.fm (Nt.nv n)).toArray⟩ : ByteArray) = TN) (hTE : (⟨(Nt.fm (Nt.nv e)).toArray⟩ : ByteArray) = TE) (hDN : Nt.dig (Nt.nv n) = DN) (hDE : Nt.dig (Nt.nv e) = DE) (hc1 : TN = n) (hc2 : TE = e) (hc3 : Nt.nv n % 2 = 0) :
    Calls Tryz.prog 39 #[.agg #[.string n,.string e]] w fun r w' => r = .returned (.bool false) ∧ Below w.heap.size w w' := by
  have CN : ∀ W an kn cn,Rn.Num W an kn cn (Nt.nv n) → kn ≤ 1000000 := fun W an kn cn h => Nat.le_trans (h.bytes 2000 n.size (Nt.nv_lt n) (by omega)) (by decide)
  have CE : ∀ W an kn cn,Rn.Num W an kn cn (Nt.nv e) → kn ≤ 1000000 := fun W an kn cn h => Nat.le_trans (h.bytes 2000 e.size (Nt.nv_lt e) (by omega)) (by decide)
  have FN : ∀ W an kn cn,Rn.Num W an kn cn (Nt.nv n) → Calls Tryz.prog 67 #[.slice an kn cn] W fun r w' => r = .returned (.string TN) ∧ Below W.heap.size W w' := fun W an kn cn h => by
    have := Rn.Form_any W an kn cn _ h (CN W an kn cn h)
    rw [hTN] at this
    exact this
  have FE : ∀ W an kn cn,Rn.Num W an kn cn (Nt.nv e) → Calls Tryz.prog 67 #[.slice an kn cn] W fun r w' => r = .returned (.string TE) ∧ Below W.heap.size W w' := fun W an kn cn h => by
    have := Rn.Form_any W an kn cn _ h (CE W an kn cn h)
    rw [hTE] at this
    exact this
  have BN : ∀ W an kn cn,Rn.Num W an kn cn (Nt.nv n) → Calls Tryz.prog 23 #[.slice an kn cn] W fun r w' => r = .returned (.int .i64 (DN : Int)) ∧ w' = W := fun W an kn cn h => by
    have := Rn.Bits_any W an kn cn _ h (CN W an kn cn h)
    rw [hDN] at this
    exact this
  have BE : ∀ W an kn cn,Rn.Num W an kn cn (Nt.nv e) → Calls Tryz.prog 23 #[.slice an kn cn] W fun r w' => r = .returned (.int .i64 (DE : Int)) ∧ w' = W := fun W an kn cn h => by
    have := Rn.Bits_any W an kn cn _ h (CE W an kn cn h)
    rw [hDE] at this
    exact this
  have LN : ∀ W an kn cn,Rn.Num W an kn cn (Nt.nv n) → Calls Tryz.prog 44 #[.slice an kn cn,.int .i64 0] W fun r w' => r = .returned (.int .u64 0) ∧ w' = W := fun W an kn cn h => by
    have := Rn.Bit_low W an kn cn _ h (CN W an kn cn h)
    rw [hc3] at this
    exact this
  have HZ := Lib.hid (And.intro hn he)
  have FN := Lib.hid FN
  have FE := Lib.hid FE
  have BN := Lib.hid BN
  have BE := Lib.hid BE
  have LN := Lib.hid LN
  subst hc1
  subst hc2
  clear CN CE hTN hTE hDN hDE hn he
  have S0 : Rs.BoxS w w.heap.size TN TE (w.alloc (Obj.cells #[.string TN,.string TE] 25)) := ⟨by simp,by simp,(Below.refl _ _).alloc (Nat.le_refl _) _⟩
  have HS0 := Lib.hid S0
  clear S0
  go_enter Tryz.func39,Tryz.ntmps39
  go_wp2_with fail
  have S0 := HS0.out
  clear HS0
  revert S0
  generalize w.alloc (Obj.cells #[.string TN,.string TE] 25) = w1
  intro S0
  refine wp_region_held_drew (S := fun W => Rs.BoxS w w.heap.size TN TE W) (by kernel_rfl) (S0.below (below_drewN (Below.refl _ _) 1)) (fun hHeld0 => ?_)
  clear S0
  refine wpAnyH_take (i := 0) (oi := ⟨_,_,_,_,_,_⟩) (v := ?vg4_1) rfl (by kernel_rfl) (by kernel_rfl) (by kernel_rfl) (fun _ _ _ h => h) (Or.inl ⟨by rfl,?hyg4_1⟩) (by assumption) ?restg4_1
  case hyg4_1 => (intro W hW; go_simp; try with_reducible rfl)
  try simp only [Act.put,List.setIfInBounds_toArray,List.set_cons_zero,List.set_cons_succ]
  refine wpAnyH_take (i := 1) (oi := ⟨_,_,_,_,_,_⟩) (v := .string TN) rfl (by kernel_rfl) (by kernel_rfl) (by kernel_rfl) (fun _ _ _ h => h) (Or.inl ⟨by rfl,fun W hW => (by have c0 := hW.c0; go_simp)⟩) (by assumption) ?restg4_2
  try simp only [Act.put,List.setIfInBounds_toArray,List.set_cons_zero,List.set_cons_succ]
  refine wpAnyH_take (i := 3) (oi := ⟨_,_,_,_,_,_⟩) (v := ?vg4_3) rfl (by kernel_rfl) (by kernel_rfl) (by kernel_rfl) (fun _ _ _ h => h) (Or.inl ⟨by rfl,?hyg4_3⟩) (by assumption) ?restg4_3
  case hyg4_3 => (intro W hW; go_simp; try with_reducible rfl)
  try simp only [Act.put,List.setIfInBounds_toArray,List.set_cons_zero,List.set_cons_succ]
  refine wpAnyH_take (i := 4) (oi := ⟨_,_,_,_,_,_⟩) (v := .string TE) rfl (by kernel_rfl) (by kernel_rfl) (by kernel_rfl) (fun _ _ _ h => h) (Or.inl ⟨by rfl,fun W hW => (by have c1 := hW.c1; go_simp)⟩) (by assumption) ?restg4_4
  try simp only [Act.put,List.setIfInBounds_toArray,List.set_cons_zero,List.set_cons_succ]
  refine wpAnyH_ready (rs := [2]) (by kernel_rfl) (by simp) ?_
  refine AllReadyH.cons (o := ⟨_,_,_,_,_,_⟩) rfl (fun K hK => ?_) AllReadyH.nil
  go_simp
  refine Calls.mono (Rn.Of_any _ TN (Nat.le_trans HZ.out.1 (by decide))) ?_
  rintro e2 w2 ⟨an,kn,cn,rfl,hN,b2⟩
  have S2 := hHeld0.below b2
  go_wp2_with fail
  refine hK.out _ _ (S2) (fun hHeld1 => ?_)
  clear hK K hHeld0
  try simp only [Act.put,List.setIfInBounds_toArray,List.set_cons_zero,List.set_cons_succ]
  refine wpAnyH_ready (rs := [5]) (by kernel_rfl) (by simp) ?_
  refine AllReadyH.cons (o := ⟨_,_,_,_,_,_⟩) rfl (fun K hK => ?_) AllReadyH.nil
  go_simp
  refine Calls.mono (Rn.Of_any _ TE (Nat.le_trans HZ.out.2 (by decide))) ?_
  rintro e3 w3 ⟨ae,ke,ce,rfl,hE,b3⟩
  have S3 := S2.below b3
  have T0 : Rs.KeyS w w.heap.size TN TE an kn cn ae ke ce w3 := ⟨S3.c0,S3.c1,hN.below b3,hE,S3.bel⟩
  go_wp2_with fail
  refine hK.out _ _ (S3) (fun hHeld2 => ?_)
  clear hK K hHeld1
  try simp only [Act.put,List.setIfInBounds_toArray,List.set_cons_zero,List.set_cons_succ]
  refine wpAnyH_take (i := 6) (oi := ⟨_,_,_,_,_,_⟩) (v := ?vg4_5) rfl (by kernel_rfl) (by kernel_rfl) (by kernel_rfl) (fun _ _ _ h => h) (Or.inl ⟨by rfl,?hyg4_5⟩) (by assumption) ?restg4_5
  case hyg4_5 => (intro W hW; go_simp; try with_reducible rfl)
  try simp only [Act.put,List.setIfInBounds_toArray,List.set_cons_zero,List.set_cons_succ]
  refine wpAnyH_take (i := 7) (oi := ⟨_,_,_,_,_,_⟩) (v := ?vg4_6) rfl (by kernel_rfl) (by kernel_rfl) (by kernel_rfl) (fun _ _ _ h => h) (Or.inl ⟨by rfl,?hyg4_6⟩) (by assumption) ?restg4_6
  case hyg4_6 => (intro W hW; go_simp; try with_reducible rfl)
  try simp only [Act.put,List.setIfInBounds_toArray,List.set_cons_zero,List.set_cons_succ]
  refine wpAnyH_done (by kernel_rfl) ?_ _
  clear S2 S3 hHeld2 hN hE b2 b3
  go_wp2_with fail
  refine wp_region_held_drew (S := fun W => Rs.KeyS w w.heap.size TN TE an kn cn ae ke ce W) (by kernel_rfl) (T0.below (below_drewN (Below.refl _ _) 1)) (fun hHeld0 => ?_)
  clear T0
  refine wpAnyH_take (i := 0) (oi := ⟨_,_,_,_,_,_⟩) (v := ?vg4_7) rfl (by kernel_rfl) (by kernel_rfl) (by kernel_rfl) (fun _ _ _ h => h) (Or.inl ⟨by rfl,?hyg4_7⟩) (by assumption) ?restg4_7
  case hyg4_7 => (intro W hW; go_simp; try with_reducible rfl)
  try simp only [Act.put,List.setIfInBounds_toArray,List.set_cons_zero,List.set_cons_succ]
  refine wpAnyH_take (i := 2) (oi := ⟨_,_,_,_,_,_⟩) (v := ?vg4_8) rfl (by kernel_rfl) (by kernel_rfl) (by kernel_rfl) (fun _ _ _ h => h) (Or.inl ⟨by rfl,?hyg4_8⟩) (by assumption) ?restg4_8
  case hyg4_8 => (intro W hW; go_simp; try with_reducible rfl)
  try simp only [Act.put,List.setIfInBounds_toArray,List.set_cons_zero,List.set_cons_succ]
  refine wpAnyH_take (i := 3) (oi := ⟨_,_,_,_,_,_⟩) (v := .string TN) rfl (by kernel_rfl) (by kernel_rfl) (by kernel_rfl) (fun _ _ _ h => h) (Or.inl ⟨by rfl,fun W hW => (by have c0 := hW.c0; go_simp)⟩) (by assumption) ?restg4_9
  try simp only [Act.put,List.setIfInBounds_toArray,List.set_cons_zero,List.set_cons_succ]
  refine wpAnyH_ready (rs := [1]) (by kernel_rfl) (by simp) ?_
  refine AllReadyH.cons (o := ⟨_,_,_,_,_,_⟩) rfl (fun K hK => ?_) AllReadyH.nil
  go_simp
  refine Calls.mono (FN.out _ _ _ _ hHeld0.n) ?_
  rintro r w4 ⟨rfl,b4⟩
  have T1 := hHeld0.below b4
  clear b4
  go_wp2_with fail
  refine hK.out _ _ (T1) (fun hHeld1 => ?_)
  clear hK K hHeld0
  try simp only [Act.put,List.setIfInBounds_toArray,List.set_cons_zero,List.set_cons_succ]
  refine wpAnyH_take (i := 4) (oi := ⟨_,_,_,_,_,_⟩) (v := ?vg4_10) rfl (by kernel_rfl) (by kernel_rfl) (by kernel_rfl) (fun _ _ _ h => h) (Or.inl ⟨by rfl,?hyg4_10⟩) (by assumption) ?restg4_10
  case hyg4_10 => (intro W hW; go_simp; try with_reducible rfl)
  try simp only [Act.put,List.setIfInBounds_toArray,List.set_cons_zero,List.set_cons_succ]
  refine wpAnyH_take (i := 5) (oi := ⟨_,_,_,_,_,_⟩) (v := ?vg4_11) rfl (by kernel_rfl) (by kernel_rfl) (by kernel_rfl) (fun _ _ _ h => h) (Or.inl ⟨by rfl,?hyg4_11⟩) (by assumption) ?restg4_11
  case hyg4_11 => (intro W hW; go_simp; try with_reducible rfl)
  try simp only [Act.put,List.setIfInBounds_toArray,List.set_cons_zero,List.set_cons_succ]
  refine wpAnyH_take (i := 6) (oi := ⟨_,_,_,_,_,_⟩) (v := ?vg4_12) rfl (by kernel_rfl) (by kernel_rfl) (by kernel_rfl) (fun _ _ _ h => h) (Or.inl ⟨by rfl,?hyg4_12⟩) (by assumption) ?restg4_12
  case hyg4_12 => (intro W hW; go_simp; try with_reducible rfl)
  try simp only [Act.put,List.setIfInBounds_toArray,List.set_cons_zero,List.set_cons_succ]
  refine wpAnyH_take (i := 8) (oi := ⟨_,_,_,_,_,_⟩) (v := ?vg4_13) rfl (by kernel_rfl) (by kernel_rfl) (by kernel_rfl) (fun _ _ _ h => h) (Or.inl ⟨by rfl,?hyg4_13⟩) (by assumption) ?restg4_13
  case hyg4_13 => (intro W hW; go_simp; try with_reducible rfl)
  try simp only [Act.put,List.setIfInBounds_toArray,List.set_cons_zero,List.set_cons_succ]
  refine wpAnyH_take (i := 9) (oi := ⟨_,_,_,_,_,_⟩) (v := .string TE) rfl (by kernel_rfl) (by kernel_rfl) (by kernel_rfl) (fun _ _ _ h => h) (Or.inl ⟨by rfl,fun W hW => (by have c1 := hW.c1; go_simp)⟩) (by assumption) ?restg4_14
  try simp only [Act.put,List.setIfInBounds_toArray,List.set_cons_zero,List.set_cons_succ]
  refine wpAnyH_ready (rs := [7]) (by kernel_rfl) (by simp) ?_
  refine AllReadyH.cons (o := ⟨_,_,_,_,_,_⟩) rfl (fun K hK => ?_) AllReadyH.nil
  go_simp
  refine Calls.mono (FE.out _ _ _ _ hHeld1.e) ?_
  rintro r w5 ⟨rfl,b5⟩
  have T2 := hHeld1.below b5
  clear b5
  go_wp2_with fail
  refine hK.out _ _ (T2) (fun hHeld2 => ?_)
  clear hK K hHeld1
  try simp only [Act.put,List.setIfInBounds_toArray,List.set_cons_zero,List.set_cons_succ]
  refine wpAnyH_take (i := 10) (oi := ⟨_,_,_,_,_,_⟩) (v := ?vg4_15) rfl (by kernel_rfl) (by kernel_rfl) (by kernel_rfl) (fun _ _ _ h => h) (Or.inl ⟨by rfl,?hyg4_15⟩) (by assumption) ?restg4_15
  case hyg4_15 => (intro W hW; go_simp; try with_reducible rfl)
  try simp only [Act.put,List.setIfInBounds_toArray,List.set_cons_zero,List.set_cons_succ]
  refine wpAnyH_take (i := 11) (oi := ⟨_,_,_,_,_,_⟩) (v := ?vg4_16) rfl (by kernel_rfl) (by kernel_rfl) (by kernel_rfl) (fun _ _ _ h => h) (Or.inl ⟨by rfl,?hyg4_16⟩) (by assumption) ?restg4_16
  case hyg4_16 => (intro W hW; go_simp; try with_reducible rfl)
  try simp only [Act.put,List.setIfInBounds_toArray,List.set_cons_zero,List.set_cons_succ]
  refine wpAnyH_take (i := 12) (oi := ⟨_,_,_,_,_,_⟩) (v := ?vg4_17) rfl (by kernel_rfl) (by kernel_rfl) (by kernel_rfl) (fun _ _ _ h => h) (Or.inl ⟨by rfl,?hyg4_17⟩) (by assumption) ?restg4_17
  case hyg4_17 => (intro W hW; go_simp; try with_reducible rfl)
  try simp only [Act.put,List.setIfInBounds_toArray,List.set_cons_zero,List.set_cons_succ]
  refine wpAnyH_take (i := 13) (oi := ⟨_,_,_,_,_,_⟩) (v := ?vg4_18) rfl (by kernel_rfl) (by kernel_rfl) (by kernel_rfl) (fun _ _ _ h => h) (Or.inl ⟨by rfl,?hyg4_18⟩) (by assumption) ?restg4_18
  case hyg4_18 => (intro W hW; go_simp; try with_reducible rfl)
  try simp only [Act.put,List.setIfInBounds_toArray,List.set_cons_zero,List.set_cons_succ]
  refine wpAnyH_ready (rs := [14]) (by kernel_rfl) (by simp) ?_
  refine AllReadyH.cons (o := ⟨_,_,_,_,_,_⟩) rfl (fun K hK => ?_) AllReadyH.nil
  go_simp
  refine Calls.mono (LN.out _ _ _ _ hHeld2.n) ?_
  rintro r wz ⟨rfl,rfl⟩
  go_wp2_with fail
  refine hK.out _ _ (hHeld2) (fun hHeld3 => ?_)
  clear hK K hHeld2
  try simp only [Act.put,List.setIfInBounds_toArray,List.set_cons_zero,List.set_cons_succ]
  refine wpAnyH_take (i := 15) (oi := ⟨_,_,_,_,_,_⟩) (v := ?vg4_19) rfl (by kernel_rfl) (by kernel_rfl) (by kernel_rfl) (fun _ _ _ h => h) (Or.inl ⟨by rfl,?hyg4_19⟩) (by assumption) ?restg4_19
  case hyg4_19 => (intro W hW; go_simp; try with_reducible rfl)
  try simp only [Act.put,List.setIfInBounds_toArray,List.set_cons_zero,List.set_cons_succ]
  refine wpAnyH_take (i := 16) (oi := ⟨_,_,_,_,_,_⟩) (v := ?vg4_20) rfl (by kernel_rfl) (by kernel_rfl) (by kernel_rfl) (fun _ _ _ h => h) (Or.inl ⟨by rfl,?hyg4_20⟩) (by assumption) ?restg4_20
  case hyg4_20 => (intro W hW; go_simp; try with_reducible rfl)
  try simp only [Act.put,List.setIfInBounds_toArray,List.set_cons_zero,List.set_cons_succ]
  refine wpAnyH_take (i := 17) (oi := ⟨_,_,_,_,_,_⟩) (v := ?vg4_21) rfl (by kernel_rfl) (by kernel_rfl) (by kernel_rfl) (fun _ _ _ h => h) (Or.inl ⟨by rfl,?hyg4_21⟩) (by assumption) ?restg4_21
  case hyg4_21 => (intro W hW; go_simp; try with_reducible rfl)
  try simp only [Act.put,List.setIfInBounds_toArray,List.set_cons_zero,List.set_cons_succ]
  refine wpAnyH_take (i := 18) (oi := ⟨_,_,_,_,_,_⟩) (v := undef) rfl (by kernel_rfl) (by kernel_rfl) (by kernel_rfl) (fun _ _ _ h => h) (Or.inr ⟨by rfl,rfl⟩) (by assumption) ?restg4_22
  try simp only [Act.put,List.setIfInBounds_toArray,List.set_cons_zero,List.set_cons_succ]
  refine wpAnyH_take (i := 19) (oi := ⟨_,_,_,_,_,_⟩) (v := undef) rfl (by kernel_rfl) (by kernel_rfl) (by kernel_rfl) (fun _ _ _ h => h) (Or.inr ⟨by rfl,rfl⟩) (by assumption) ?restg4_23
  try simp only [Act.put,List.setIfInBounds_toArray,List.set_cons_zero,List.set_cons_succ]
  refine wpAnyH_take (i := 20) (oi := ⟨_,_,_,_,_,_⟩) (v := undef) rfl (by kernel_rfl) (by kernel_rfl) (by kernel_rfl) (fun _ _ _ h => h) (Or.inr ⟨by rfl,rfl⟩) (by assumption) ?restg4_24
  try simp only [Act.put,List.setIfInBounds_toArray,List.set_cons_zero,List.set_cons_succ]
  refine wpAnyH_take (i := 21) (oi := ⟨_,_,_,_,_,_⟩) (v := ?vg4_25) rfl (by kernel_rfl) (by kernel_rfl) (by kernel_rfl) (fun _ _ _ h => h) (Or.inl ⟨by rfl,?hyg4_25⟩) (by assumption) ?restg4_25
  case hyg4_25 => (intro W hW; go_simp; try with_reducible rfl)
  try simp only [Act.put,List.setIfInBounds_toArray,List.set_cons_zero,List.set_cons_succ]
  refine wpAnyH_take (i := 22) (oi := ⟨_,_,_,_,_,_⟩) (v := ?vg4_26) rfl (by kernel_rfl) (by kernel_rfl) (by kernel_rfl) (fun _ _ _ h => h) (Or.inl ⟨by rfl,?hyg4_26⟩) (by assumption) ?restg4_26
  case hyg4_26 => (intro W hW; go_simp; try with_reducible rfl)
  try simp only [Act.put,List.setIfInBounds_toArray,List.set_cons_zero,List.set_cons_succ]
  refine wpAnyH_take (i := 23) (oi := ⟨_,_,_,_,_,_⟩) (v := undef) rfl (by kernel_rfl) (by kernel_rfl) (by kernel_rfl) (fun _ _ _ h => h) (Or.inr ⟨by rfl,rfl⟩) (by assumption) ?restg4_27
  try simp only [Act.put,List.setIfInBounds_toArray,List.set_cons_zero,List.set_cons_succ]
  refine wpAnyH_take (i := 24) (oi := ⟨_,_,_,_,_,_⟩) (v := undef) rfl (by kernel_rfl) (by kernel_rfl) (by kernel_rfl) (fun _ _ _ h => h) (Or.inr ⟨by rfl,rfl⟩) (by assumption) ?restg4_28
  try simp only [Act.put,List.setIfInBounds_toArray,List.set_cons_zero,List.set_cons_succ]
  refine wpAnyH_take (i := 25) (oi := ⟨_,_,_,_,_,_⟩) (v := undef) rfl (by kernel_rfl) (by kernel_rfl) (by kernel_rfl) (fun _ _ _ h => h) (Or.inr ⟨by rfl,rfl⟩) (by assumption) ?restg4_29
  try simp only [Act.put,List.setIfInBounds_toArray,List.set_cons_zero,List.set_cons_succ]
  refine wpAnyH_take (i := 26) (oi := ⟨_,_,_,_,_,_⟩) (v := ?vg4_30) rfl (by kernel_rfl) (by kernel_rfl) (by kernel_rfl) (fun _ _ _ h => h) (Or.inl ⟨by rfl,?hyg4_30⟩) (by assumption) ?restg4_30
  case hyg4_30 => (intro W hW; go_simp; try with_reducible rfl)
  try simp only [Act.put,List.setIfInBounds_toArray,List.set_cons_zero,List.set_cons_succ]
  refine wpAnyH_take (i := 27) (oi := ⟨_,_,_,_,_,_⟩) (v := ?vg4_31) rfl (by kernel_rfl) (by kernel_rfl) (by kernel_rfl) (fun _ _ _ h => h) (Or.inl ⟨by rfl,?hyg4_31⟩) (by assumption) ?restg4_31
  case hyg4_31 => (intro W hW; go_simp; try with_reducible rfl)
  try simp only [Act.put,List.setIfInBounds_toArray,List.set_cons_zero,List.set_cons_succ]
  refine wpAnyH_take (i := 28) (oi := ⟨_,_,_,_,_,_⟩) (v := undef) rfl (by kernel_rfl) (by kernel_rfl) (by kernel_rfl) (fun _ _ _ h => h) (Or.inr ⟨by rfl,rfl⟩) (by assumption) ?restg4_32
  try simp only [Act.put,List.setIfInBounds_toArray,List.set_cons_zero,List.set_cons_succ]
  refine wpAnyH_take (i := 29) (oi := ⟨_,_,_,_,_,_⟩) (v := undef) rfl (by kernel_rfl) (by kernel_rfl) (by kernel_rfl) (fun _ _ _ h => h) (Or.inr ⟨by rfl,rfl⟩) (by assumption) ?restg4_33
  try simp only [Act.put,List.setIfInBounds_toArray,List.set_cons_zero,List.set_cons_succ]
  refine wpAnyH_take (i := 30) (oi := ⟨_,_,_,_,_,_⟩) (v := undef) rfl (by kernel_rfl) (by kernel_rfl) (by kernel_rfl) (fun _ _ _ h => h) (Or.inr ⟨by rfl,rfl⟩) (by assumption) ?restg4_34
  try simp only [Act.put,List.setIfInBounds_toArray,List.set_cons_zero,List.set_cons_succ]
  refine wpAnyH_take (i := 31) (oi := ⟨_,_,_,_,_,_⟩) (v := ?vg4_35) rfl (by kernel_rfl) (by kernel_rfl) (by kernel_rfl) (fun _ _ _ h => h) (Or.inl ⟨by rfl,?hyg4_35⟩) (by assumption) ?restg4_35
  case hyg4_35 => (intro W hW; go_simp; try with_reducible rfl)
  try simp only [Act.put,List.setIfInBounds_toArray,List.set_cons_zero,List.set_cons_succ]
  refine wpAnyH_take (i := 32) (oi := ⟨_,_,_,_,_,_⟩) (v := ?vg4_36) rfl (by kernel_rfl) (by kernel_rfl) (by kernel_rfl) (fun _ _ _ h => h) (Or.inl ⟨by rfl,?hyg4_36⟩) (by assumption) ?restg4_36
  case hyg4_36 => (intro W hW; go_simp; try with_reducible rfl)
  try simp only [Act.put,List.setIfInBounds_toArray,List.set_cons_zero,List.set_cons_succ]
  refine wpAnyH_take (i := 33) (oi := ⟨_,_,_,_,_,_⟩) (v := undef) rfl (by kernel_rfl) (by kernel_rfl) (by kernel_rfl) (fun _ _ _ h => h) (Or.inr ⟨by rfl,rfl⟩) (by assumption) ?restg4_37
  try simp only [Act.put,List.setIfInBounds_toArray,List.set_cons_zero,List.set_cons_succ]
  refine wpAnyH_take (i := 34) (oi := ⟨_,_,_,_,_,_⟩) (v := undef) rfl (by kernel_rfl) (by kernel_rfl) (by kernel_rfl) (fun _ _ _ h => h) (Or.inr ⟨by rfl,rfl⟩) (by assumption) ?restg4_38
  try simp only [Act.put,List.setIfInBounds_toArray,List.set_cons_zero,List.set_cons_succ]
  refine wpAnyH_take (i := 35) (oi := ⟨_,_,_,_,_,_⟩) (v := undef) rfl (by kernel_rfl) (by kernel_rfl) (by kernel_rfl) (fun _ _ _ h => h) (Or.inr ⟨by rfl,rfl⟩) (by assumption) ?restg4_39
  try simp only [Act.put,List.setIfInBounds_toArray,List.set_cons_zero,List.set_cons_succ]
  refine wpAnyH_take (i := 36) (oi := ⟨_,_,_,_,_,_⟩) (v := undef) rfl (by kernel_rfl) (by kernel_rfl) (by kernel_rfl) (fun _ _ _ h => h) (Or.inr ⟨by rfl,rfl⟩) (by assumption) ?restg4_40
  try simp only [Act.put,List.setIfInBounds_toArray,List.set_cons_zero,List.set_cons_succ]
  refine wpAnyH_take (i := 37) (oi := ⟨_,_,_,_,_,_⟩) (v := ?vg4_41) rfl (by kernel_rfl) (by kernel_rfl) (by kernel_rfl) (fun _ _ _ h => h) (Or.inl ⟨by rfl,?hyg4_41⟩) (by assumption) ?restg4_41
  case hyg4_41 => (intro W hW; go_simp; try with_reducible rfl)
  try simp only [Act.put,List.setIfInBounds_toArray,List.set_cons_zero,List.set_cons_succ]
  refine wpAnyH_take (i := 38) (oi := ⟨_,_,_,_,_,_⟩) (v := ?vg4_42) rfl (by kernel_rfl) (by kernel_rfl) (by kernel_rfl) (fun _ _ _ h => h) (Or.inl ⟨by rfl,?hyg4_42⟩) (by assumption) ?restg4_42
  case hyg4_42 => (intro W hW; go_simp; try with_reducible rfl)
  try simp only [Act.put,List.setIfInBounds_toArray,List.set_cons_zero,List.set_cons_succ]
  refine wpAnyH_take (i := 39) (oi := ⟨_,_,_,_,_,_⟩) (v := undef) rfl (by kernel_rfl) (by kernel_rfl) (by kernel_rfl) (fun _ _ _ h => h) (Or.inr ⟨by rfl,rfl⟩) (by assumption) ?restg4_43
  try simp only [Act.put,List.setIfInBounds_toArray,List.set_cons_zero,List.set_cons_succ]
  refine wpAnyH_take (i := 40) (oi := ⟨_,_,_,_,_,_⟩) (v := undef) rfl (by kernel_rfl) (by kernel_rfl) (by kernel_rfl) (fun _ _ _ h => h) (Or.inr ⟨by rfl,rfl⟩) (by assumption) ?restg4_44
  try simp only [Act.put,List.setIfInBounds_toArray,List.set_cons_zero,List.set_cons_succ]
  refine wpAnyH_take (i := 41) (oi := ⟨_,_,_,_,_,_⟩) (v := undef) rfl (by kernel_rfl) (by kernel_rfl) (by kernel_rfl) (fun _ _ _ h => h) (Or.inr ⟨by rfl,rfl⟩) (by assumption) ?restg4_45
  try simp only [Act.put,List.setIfInBounds_toArray,List.set_cons_zero,List.set_cons_succ]
  refine wpAnyH_take (i := 42) (oi := ⟨_,_,_,_,_,_⟩) (v := ?vg4_46) rfl (by kernel_rfl) (by kernel_rfl) (by kernel_rfl) (fun _ _ _ h => h) (Or.inl ⟨by rfl,?hyg4_46⟩) (by assumption) ?restg4_46
  case hyg4_46 => (intro W hW; go_simp; try with_reducible rfl)
  try simp only [Act.put,List.setIfInBounds_toArray,List.set_cons_zero,List.set_cons_succ]
  refine wpAnyH_take (i := 43) (oi := ⟨_,_,_,_,_,_⟩) (v := ?vg4_47) rfl (by kernel_rfl) (by kernel_rfl) (by kernel_rfl) (fun _ _ _ h => h) (Or.inl ⟨by rfl,?hyg4_47⟩) (by assumption) ?restg4_47
  case hyg4_47 => (intro W hW; go_simp; try with_reducible rfl)
  try simp only [Act.put,List.setIfInBounds_toArray,List.set_cons_zero,List.set_cons_succ]
  refine wpAnyH_done (by kernel_rfl) ?_ _
  have HB := Lib.hid hHeld3.bel
  go_wp2_with fail
  go_ret
  exact ⟨rfl,HB.out⟩
set_option maxHeartbeats 4000000 in
set_option maxRecDepth 100000 in
theorem Rs.RCheck_4 (w : World) (n e TN TE : ByteArray) (DN DE : Nat) (hn : n.size ≤ 4000) (he : e.size ≤ 4000) (hTN : (⟨(Nt.fm (Nt.nv n)).toArray⟩ : ByteArray) = TN) (hTE : (⟨(Nt.fm (Nt.nv e)).toArray⟩ : ByteArray) = TE) (hDN : Nt.dig (Nt.nv n) = DN) (hDE : Nt.dig (Nt.nv e) = DE) (hc1 : TN = n) (hc2 : TE = e) (hc3 : Nt.nv n % 2 = 1) (hc4 : Nt.nv e % 2 = 0) :
    Calls Tryz.prog 39 #[.agg #[.string n,.string e]] w fun r w' => r = .returned (.bool false) ∧ Below w.heap.size w w' := by
  have CN : ∀ W an kn cn,Rn.Num W an kn cn (Nt.nv n) → kn ≤ 1000000 := fun W an kn cn h => Nat.le_trans (h.bytes 2000 n.size (Nt.nv_lt n) (by omega)) (by decide)
  have CE : ∀ W an kn cn,Rn.Num W an kn cn (Nt.nv e) → kn ≤ 1000000 := fun W an kn cn h => Nat.le_trans (h.bytes 2000 e.size (Nt.nv_lt e) (by omega)) (by decide)
  have FN : ∀ W an kn cn,Rn.Num W an kn cn (Nt.nv n) → Calls Tryz.prog 67 #[.slice an kn cn] W fun r w' => r = .returned (.string TN) ∧ Below W.heap.size W w' := fun W an kn cn h => by
    have := Rn.Form_any W an kn cn _ h (CN W an kn cn h)
    rw [hTN] at this
    exact this
  have FE : ∀ W an kn cn,Rn.Num W an kn cn (Nt.nv e) → Calls Tryz.prog 67 #[.slice an kn cn] W fun r w' => r = .returned (.string TE) ∧ Below W.heap.size W w' := fun W an kn cn h => by
    have := Rn.Form_any W an kn cn _ h (CE W an kn cn h)
    rw [hTE] at this
    exact this
  have BN : ∀ W an kn cn,Rn.Num W an kn cn (Nt.nv n) → Calls Tryz.prog 23 #[.slice an kn cn] W fun r w' => r = .returned (.int .i64 (DN : Int)) ∧ w' = W := fun W an kn cn h => by
    have := Rn.Bits_any W an kn cn _ h (CN W an kn cn h)
    rw [hDN] at this
    exact this
  have BE : ∀ W an kn cn,Rn.Num W an kn cn (Nt.nv e) → Calls Tryz.prog 23 #[.slice an kn cn] W fun r w' => r = .returned (.int .i64 (DE : Int)) ∧ w' = W := fun W an kn cn h => by
    have := Rn.Bits_any W an kn cn _ h (CE W an kn cn h)
    rw [hDE] at this
    exact this
  have LN : ∀ W an kn cn,Rn.Num W an kn cn (Nt.nv n) → Calls Tryz.prog 44 #[.slice an kn cn,.int .i64 0] W fun r w' => r = .returned (.int .u64 1) ∧ w' = W := fun W an kn cn h => by
    have := Rn.Bit_low W an kn cn _ h (CN W an kn cn h)
    rw [hc3] at this
    exact this
  have LE : ∀ W an kn cn,Rn.Num W an kn cn (Nt.nv e) → Calls Tryz.prog 44 #[.slice an kn cn,.int .i64 0] W fun r w' => r = .returned (.int .u64 0) ∧ w' = W := fun W an kn cn h => by
    have := Rn.Bit_low W an kn cn _ h (CE W an kn cn h)
    rw [hc4] at this
    exact this
  have HZ := Lib.hid (And.intro hn he)
  have FN := Lib.hid FN
  have FE := Lib.hid FE
  have BN := Lib.hid BN
  have BE := Lib.hid BE
  have LN := Lib.hid LN
  have LE := Lib.hid LE
  subst hc1
  subst hc2
  clear CN CE hTN hTE hDN hDE hn he
  have S0 : Rs.BoxS w w.heap.size TN TE (w.alloc (Obj.cells #[.string TN,.string TE] 25)) := ⟨by simp,by simp,(Below.refl _ _).alloc (Nat.le_refl _) _⟩
  have HS0 := Lib.hid S0
  clear S0
  go_enter Tryz.func39,Tryz.ntmps39
  go_wp2_with fail
  have S0 := HS0.out
  clear HS0
  revert S0
  generalize w.alloc (Obj.cells #[.string TN,.string TE] 25) = w1
  intro S0
  refine wp_region_held_drew (S := fun W => Rs.BoxS w w.heap.size TN TE W) (by kernel_rfl) (S0.below (below_drewN (Below.refl _ _) 1)) (fun hHeld0 => ?_)
  clear S0
  refine wpAnyH_take (i := 0) (oi := ⟨_,_,_,_,_,_⟩) (v := ?vg5_1) rfl (by kernel_rfl) (by kernel_rfl) (by kernel_rfl) (fun _ _ _ h => h) (Or.inl ⟨by rfl,?hyg5_1⟩) (by assumption) ?restg5_1
  case hyg5_1 => (intro W hW; go_simp; try with_reducible rfl)
  try simp only [Act.put,List.setIfInBounds_toArray,List.set_cons_zero,List.set_cons_succ]
  refine wpAnyH_take (i := 1) (oi := ⟨_,_,_,_,_,_⟩) (v := .string TN) rfl (by kernel_rfl) (by kernel_rfl) (by kernel_rfl) (fun _ _ _ h => h) (Or.inl ⟨by rfl,fun W hW => (by have c0 := hW.c0; go_simp)⟩) (by assumption) ?restg5_2
  try simp only [Act.put,List.setIfInBounds_toArray,List.set_cons_zero,List.set_cons_succ]
  refine wpAnyH_take (i := 3) (oi := ⟨_,_,_,_,_,_⟩) (v := ?vg5_3) rfl (by kernel_rfl) (by kernel_rfl) (by kernel_rfl) (fun _ _ _ h => h) (Or.inl ⟨by rfl,?hyg5_3⟩) (by assumption) ?restg5_3
  case hyg5_3 => (intro W hW; go_simp; try with_reducible rfl)
  try simp only [Act.put,List.setIfInBounds_toArray,List.set_cons_zero,List.set_cons_succ]
  refine wpAnyH_take (i := 4) (oi := ⟨_,_,_,_,_,_⟩) (v := .string TE) rfl (by kernel_rfl) (by kernel_rfl) (by kernel_rfl) (fun _ _ _ h => h) (Or.inl ⟨by rfl,fun W hW => (by have c1 := hW.c1; go_simp)⟩) (by assumption) ?restg5_4
  try simp only [Act.put,List.setIfInBounds_toArray,List.set_cons_zero,List.set_cons_succ]
  refine wpAnyH_ready (rs := [2]) (by kernel_rfl) (by simp) ?_
  refine AllReadyH.cons (o := ⟨_,_,_,_,_,_⟩) rfl (fun K hK => ?_) AllReadyH.nil
  go_simp
  refine Calls.mono (Rn.Of_any _ TN (Nat.le_trans HZ.out.1 (by decide))) ?_
  rintro e2 w2 ⟨an,kn,cn,rfl,hN,b2⟩
  have S2 := hHeld0.below b2
  go_wp2_with fail
  refine hK.out _ _ (S2) (fun hHeld1 => ?_)
  clear hK K hHeld0
  try simp only [Act.put,List.setIfInBounds_toArray,List.set_cons_zero,List.set_cons_succ]
  refine wpAnyH_ready (rs := [5]) (by kernel_rfl) (by simp) ?_
  refine AllReadyH.cons (o := ⟨_,_,_,_,_,_⟩) rfl (fun K hK => ?_) AllReadyH.nil
  go_simp
  refine Calls.mono (Rn.Of_any _ TE (Nat.le_trans HZ.out.2 (by decide))) ?_
  rintro e3 w3 ⟨ae,ke,ce,rfl,hE,b3⟩
  have S3 := S2.below b3
  have T0 : Rs.KeyS w w.heap.size TN TE an kn cn ae ke ce w3 := ⟨S3.c0,S3.c1,hN.below b3,hE,S3.bel⟩
  go_wp2_with fail
  refine hK.out _ _ (S3) (fun hHeld2 => ?_)
  clear hK K hHeld1
  try simp only [Act.put,List.setIfInBounds_toArray,List.set_cons_zero,List.set_cons_succ]
  refine wpAnyH_take (i := 6) (oi := ⟨_,_,_,_,_,_⟩) (v := ?vg5_5) rfl (by kernel_rfl) (by kernel_rfl) (by kernel_rfl) (fun _ _ _ h => h) (Or.inl ⟨by rfl,?hyg5_5⟩) (by assumption) ?restg5_5
  case hyg5_5 => (intro W hW; go_simp; try with_reducible rfl)
  try simp only [Act.put,List.setIfInBounds_toArray,List.set_cons_zero,List.set_cons_succ]
  refine wpAnyH_take (i := 7) (oi := ⟨_,_,_,_,_,_⟩) (v := ?vg5_6) rfl (by kernel_rfl) (by kernel_rfl) (by kernel_rfl) (fun _ _ _ h => h) (Or.inl ⟨by rfl,?hyg5_6⟩) (by assumption) ?restg5_6
  case hyg5_6 => (intro W hW; go_simp; try with_reducible rfl)
  try simp only [Act.put,List.setIfInBounds_toArray,List.set_cons_zero,List.set_cons_succ]
  refine wpAnyH_done (by kernel_rfl) ?_ _
  clear S2 S3 hHeld2 hN hE b2 b3
  go_wp2_with fail
  refine wp_region_held_drew (S := fun W => Rs.KeyS w w.heap.size TN TE an kn cn ae ke ce W) (by kernel_rfl) (T0.below (below_drewN (Below.refl _ _) 1)) (fun hHeld0 => ?_)
  clear T0
  refine wpAnyH_take (i := 0) (oi := ⟨_,_,_,_,_,_⟩) (v := ?vg5_7) rfl (by kernel_rfl) (by kernel_rfl) (by kernel_rfl) (fun _ _ _ h => h) (Or.inl ⟨by rfl,?hyg5_7⟩) (by assumption) ?restg5_7
  case hyg5_7 => (intro W hW; go_simp; try with_reducible rfl)
  try simp only [Act.put,List.setIfInBounds_toArray,List.set_cons_zero,List.set_cons_succ]
  refine wpAnyH_take (i := 2) (oi := ⟨_,_,_,_,_,_⟩) (v := ?vg5_8) rfl (by kernel_rfl) (by kernel_rfl) (by kernel_rfl) (fun _ _ _ h => h) (Or.inl ⟨by rfl,?hyg5_8⟩) (by assumption) ?restg5_8
  case hyg5_8 => (intro W hW; go_simp; try with_reducible rfl)
  try simp only [Act.put,List.setIfInBounds_toArray,List.set_cons_zero,List.set_cons_succ]
  refine wpAnyH_take (i := 3) (oi := ⟨_,_,_,_,_,_⟩) (v := .string TN) rfl (by kernel_rfl) (by kernel_rfl) (by kernel_rfl) (fun _ _ _ h => h) (Or.inl ⟨by rfl,fun W hW => (by have c0 := hW.c0; go_simp)⟩) (by assumption) ?restg5_9
  try simp only [Act.put,List.setIfInBounds_toArray,List.set_cons_zero,List.set_cons_succ]
  refine wpAnyH_ready (rs := [1]) (by kernel_rfl) (by simp) ?_
  refine AllReadyH.cons (o := ⟨_,_,_,_,_,_⟩) rfl (fun K hK => ?_) AllReadyH.nil
  go_simp
  refine Calls.mono (FN.out _ _ _ _ hHeld0.n) ?_
  rintro r w4 ⟨rfl,b4⟩
  have T1 := hHeld0.below b4
  clear b4
  go_wp2_with fail
  refine hK.out _ _ (T1) (fun hHeld1 => ?_)
  clear hK K hHeld0
  try simp only [Act.put,List.setIfInBounds_toArray,List.set_cons_zero,List.set_cons_succ]
  refine wpAnyH_take (i := 4) (oi := ⟨_,_,_,_,_,_⟩) (v := ?vg5_10) rfl (by kernel_rfl) (by kernel_rfl) (by kernel_rfl) (fun _ _ _ h => h) (Or.inl ⟨by rfl,?hyg5_10⟩) (by assumption) ?restg5_10
  case hyg5_10 => (intro W hW; go_simp; try with_reducible rfl)
  try simp only [Act.put,List.setIfInBounds_toArray,List.set_cons_zero,List.set_cons_succ]
  refine wpAnyH_take (i := 5) (oi := ⟨_,_,_,_,_,_⟩) (v := ?vg5_11) rfl (by kernel_rfl) (by kernel_rfl) (by kernel_rfl) (fun _ _ _ h => h) (Or.inl ⟨by rfl,?hyg5_11⟩) (by assumption) ?restg5_11
  case hyg5_11 => (intro W hW; go_simp; try with_reducible rfl)
  try simp only [Act.put,List.setIfInBounds_toArray,List.set_cons_zero,List.set_cons_succ]
  refine wpAnyH_take (i := 6) (oi := ⟨_,_,_,_,_,_⟩) (v := ?vg5_12) rfl (by kernel_rfl) (by kernel_rfl) (by kernel_rfl) (fun _ _ _ h => h) (Or.inl ⟨by rfl,?hyg5_12⟩) (by assumption) ?restg5_12
  case hyg5_12 => (intro W hW; go_simp; try with_reducible rfl)
  try simp only [Act.put,List.setIfInBounds_toArray,List.set_cons_zero,List.set_cons_succ]
  refine wpAnyH_take (i := 8) (oi := ⟨_,_,_,_,_,_⟩) (v := ?vg5_13) rfl (by kernel_rfl) (by kernel_rfl) (by kernel_rfl) (fun _ _ _ h => h) (Or.inl ⟨by rfl,?hyg5_13⟩) (by assumption) ?restg5_13
  case hyg5_13 => (intro W hW; go_simp; try with_reducible rfl)
  try simp only [Act.put,List.setIfInBounds_toArray,List.set_cons_zero,List.set_cons_succ]
  refine wpAnyH_take (i := 9) (oi := ⟨_,_,_,_,_,_⟩) (v := .string TE) rfl (by kernel_rfl) (by kernel_rfl) (by kernel_rfl) (fun _ _ _ h => h) (Or.inl ⟨by rfl,fun W hW => (by have c1 := hW.c1; go_simp)⟩) (by assumption) ?restg5_14
  try simp only [Act.put,List.setIfInBounds_toArray,List.set_cons_zero,List.set_cons_succ]
  refine wpAnyH_ready (rs := [7]) (by kernel_rfl) (by simp) ?_
  refine AllReadyH.cons (o := ⟨_,_,_,_,_,_⟩) rfl (fun K hK => ?_) AllReadyH.nil
  go_simp
  refine Calls.mono (FE.out _ _ _ _ hHeld1.e) ?_
  rintro r w5 ⟨rfl,b5⟩
  have T2 := hHeld1.below b5
  clear b5
  go_wp2_with fail
  refine hK.out _ _ (T2) (fun hHeld2 => ?_)
  clear hK K hHeld1
  try simp only [Act.put,List.setIfInBounds_toArray,List.set_cons_zero,List.set_cons_succ]
  refine wpAnyH_take (i := 10) (oi := ⟨_,_,_,_,_,_⟩) (v := ?vg5_15) rfl (by kernel_rfl) (by kernel_rfl) (by kernel_rfl) (fun _ _ _ h => h) (Or.inl ⟨by rfl,?hyg5_15⟩) (by assumption) ?restg5_15
  case hyg5_15 => (intro W hW; go_simp; try with_reducible rfl)
  try simp only [Act.put,List.setIfInBounds_toArray,List.set_cons_zero,List.set_cons_succ]
  refine wpAnyH_take (i := 11) (oi := ⟨_,_,_,_,_,_⟩) (v := ?vg5_16) rfl (by kernel_rfl) (by kernel_rfl) (by kernel_rfl) (fun _ _ _ h => h) (Or.inl ⟨by rfl,?hyg5_16⟩) (by assumption) ?restg5_16
  case hyg5_16 => (intro W hW; go_simp; try with_reducible rfl)
  try simp only [Act.put,List.setIfInBounds_toArray,List.set_cons_zero,List.set_cons_succ]
  refine wpAnyH_take (i := 12) (oi := ⟨_,_,_,_,_,_⟩) (v := ?vg5_17) rfl (by kernel_rfl) (by kernel_rfl) (by kernel_rfl) (fun _ _ _ h => h) (Or.inl ⟨by rfl,?hyg5_17⟩) (by assumption) ?restg5_17
  case hyg5_17 => (intro W hW; go_simp; try with_reducible rfl)
  try simp only [Act.put,List.setIfInBounds_toArray,List.set_cons_zero,List.set_cons_succ]
  refine wpAnyH_take (i := 13) (oi := ⟨_,_,_,_,_,_⟩) (v := ?vg5_18) rfl (by kernel_rfl) (by kernel_rfl) (by kernel_rfl) (fun _ _ _ h => h) (Or.inl ⟨by rfl,?hyg5_18⟩) (by assumption) ?restg5_18
  case hyg5_18 => (intro W hW; go_simp; try with_reducible rfl)
  try simp only [Act.put,List.setIfInBounds_toArray,List.set_cons_zero,List.set_cons_succ]
  refine wpAnyH_ready (rs := [14]) (by kernel_rfl) (by simp) ?_
  refine AllReadyH.cons (o := ⟨_,_,_,_,_,_⟩) rfl (fun K hK => ?_) AllReadyH.nil
  go_simp
  refine Calls.mono (LN.out _ _ _ _ hHeld2.n) ?_
  rintro r wz ⟨rfl,rfl⟩
  go_wp2_with fail
  refine hK.out _ _ (hHeld2) (fun hHeld3 => ?_)
  clear hK K hHeld2
  try simp only [Act.put,List.setIfInBounds_toArray,List.set_cons_zero,List.set_cons_succ]
  refine wpAnyH_take (i := 15) (oi := ⟨_,_,_,_,_,_⟩) (v := ?vg5_19) rfl (by kernel_rfl) (by kernel_rfl) (by kernel_rfl) (fun _ _ _ h => h) (Or.inl ⟨by rfl,?hyg5_19⟩) (by assumption) ?restg5_19
  case hyg5_19 => (intro W hW; go_simp; try with_reducible rfl)
  try simp only [Act.put,List.setIfInBounds_toArray,List.set_cons_zero,List.set_cons_succ]
  refine wpAnyH_take (i := 16) (oi := ⟨_,_,_,_,_,_⟩) (v := ?vg5_20) rfl (by kernel_rfl) (by kernel_rfl) (by kernel_rfl) (fun _ _ _ h => h) (Or.inl ⟨by rfl,?hyg5_20⟩) (by assumption) ?restg5_20
  case hyg5_20 => (intro W hW; go_simp; try with_reducible rfl)
  try simp only [Act.put,List.setIfInBounds_toArray,List.set_cons_zero,List.set_cons_succ]
  refine wpAnyH_take (i := 17) (oi := ⟨_,_,_,_,_,_⟩) (v := ?vg5_21) rfl (by kernel_rfl) (by kernel_rfl) (by kernel_rfl) (fun _ _ _ h => h) (Or.inl ⟨by rfl,?hyg5_21⟩) (by assumption) ?restg5_21
  case hyg5_21 => (intro W hW; go_simp; try with_reducible rfl)
  try simp only [Act.put,List.setIfInBounds_toArray,List.set_cons_zero,List.set_cons_succ]
  refine wpAnyH_take (i := 18) (oi := ⟨_,_,_,_,_,_⟩) (v := ?vg5_22) rfl (by kernel_rfl) (by kernel_rfl) (by kernel_rfl) (fun _ _ _ h => h) (Or.inl ⟨by rfl,?hyg5_22⟩) (by assumption) ?restg5_22
  case hyg5_22 => (intro W hW; go_simp; try with_reducible rfl)
  try simp only [Act.put,List.setIfInBounds_toArray,List.set_cons_zero,List.set_cons_succ]
  refine wpAnyH_ready (rs := [19]) (by kernel_rfl) (by simp) ?_
  refine AllReadyH.cons (o := ⟨_,_,_,_,_,_⟩) rfl (fun K hK => ?_) AllReadyH.nil
  go_simp
  refine Calls.mono (LE.out _ _ _ _ hHeld3.e) ?_
  rintro r wz ⟨rfl,rfl⟩
  go_wp2_with fail
  refine hK.out _ _ (hHeld3) (fun hHeld4 => ?_)
  clear hK K hHeld3
  try simp only [Act.put,List.setIfInBounds_toArray,List.set_cons_zero,List.set_cons_succ]
  refine wpAnyH_take (i := 20) (oi := ⟨_,_,_,_,_,_⟩) (v := ?vg5_23) rfl (by kernel_rfl) (by kernel_rfl) (by kernel_rfl) (fun _ _ _ h => h) (Or.inl ⟨by rfl,?hyg5_23⟩) (by assumption) ?restg5_23
  case hyg5_23 => (intro W hW; go_simp; try with_reducible rfl)
  try simp only [Act.put,List.setIfInBounds_toArray,List.set_cons_zero,List.set_cons_succ]
  refine wpAnyH_take (i := 21) (oi := ⟨_,_,_,_,_,_⟩) (v := ?vg5_24) rfl (by kernel_rfl) (by kernel_rfl) (by kernel_rfl) (fun _ _ _ h => h) (Or.inl ⟨by rfl,?hyg5_24⟩) (by assumption) ?restg5_24
  case hyg5_24 => (intro W hW; go_simp; try with_reducible rfl)
  try simp only [Act.put,List.setIfInBounds_toArray,List.set_cons_zero,List.set_cons_succ]
  refine wpAnyH_take (i := 22) (oi := ⟨_,_,_,_,_,_⟩) (v := ?vg5_25) rfl (by kernel_rfl) (by kernel_rfl) (by kernel_rfl) (fun _ _ _ h => h) (Or.inl ⟨by rfl,?hyg5_25⟩) (by assumption) ?restg5_25
  case hyg5_25 => (intro W hW; go_simp; try with_reducible rfl)
  try simp only [Act.put,List.setIfInBounds_toArray,List.set_cons_zero,List.set_cons_succ]
  refine wpAnyH_take (i := 23) (oi := ⟨_,_,_,_,_,_⟩) (v := undef) rfl (by kernel_rfl) (by kernel_rfl) (by kernel_rfl) (fun _ _ _ h => h) (Or.inr ⟨by rfl,rfl⟩) (by assumption) ?restg5_26
  try simp only [Act.put,List.setIfInBounds_toArray,List.set_cons_zero,List.set_cons_succ]
  refine wpAnyH_take (i := 24) (oi := ⟨_,_,_,_,_,_⟩) (v := undef) rfl (by kernel_rfl) (by kernel_rfl) (by kernel_rfl) (fun _ _ _ h => h) (Or.inr ⟨by rfl,rfl⟩) (by assumption) ?restg5_27
  try simp only [Act.put,List.setIfInBounds_toArray,List.set_cons_zero,List.set_cons_succ]
  refine wpAnyH_take (i := 25) (oi := ⟨_,_,_,_,_,_⟩) (v := undef) rfl (by kernel_rfl) (by kernel_rfl) (by kernel_rfl) (fun _ _ _ h => h) (Or.inr ⟨by rfl,rfl⟩) (by assumption) ?restg5_28
  try simp only [Act.put,List.setIfInBounds_toArray,List.set_cons_zero,List.set_cons_succ]
  refine wpAnyH_take (i := 26) (oi := ⟨_,_,_,_,_,_⟩) (v := ?vg5_29) rfl (by kernel_rfl) (by kernel_rfl) (by kernel_rfl) (fun _ _ _ h => h) (Or.inl ⟨by rfl,?hyg5_29⟩) (by assumption) ?restg5_29
  case hyg5_29 => (intro W hW; go_simp; try with_reducible rfl)
  try simp only [Act.put,List.setIfInBounds_toArray,List.set_cons_zero,List.set_cons_succ]
  refine wpAnyH_take (i := 27) (oi := ⟨_,_,_,_,_,_⟩) (v := ?vg5_30) rfl (by kernel_rfl) (by kernel_rfl) (by kernel_rfl) (fun _ _ _ h => h) (Or.inl ⟨by rfl,?hyg5_30⟩) (by assumption) ?restg5_30
  case hyg5_30 => (intro W hW; go_simp; try with_reducible rfl)
  try simp only [Act.put,List.setIfInBounds_toArray,List.set_cons_zero,List.set_cons_succ]
  refine wpAnyH_take (i := 28) (oi := ⟨_,_,_,_,_,_⟩) (v := undef) rfl (by kernel_rfl) (by kernel_rfl) (by kernel_rfl) (fun _ _ _ h => h) (Or.inr ⟨by rfl,rfl⟩) (by assumption) ?restg5_31
  try simp only [Act.put,List.setIfInBounds_toArray,List.set_cons_zero,List.set_cons_succ]
  refine wpAnyH_take (i := 29) (oi := ⟨_,_,_,_,_,_⟩) (v := undef) rfl (by kernel_rfl) (by kernel_rfl) (by kernel_rfl) (fun _ _ _ h => h) (Or.inr ⟨by rfl,rfl⟩) (by assumption) ?restg5_32
  try simp only [Act.put,List.setIfInBounds_toArray,List.set_cons_zero,List.set_cons_succ]
  refine wpAnyH_take (i := 30) (oi := ⟨_,_,_,_,_,_⟩) (v := undef) rfl (by kernel_rfl) (by kernel_rfl) (by kernel_rfl) (fun _ _ _ h => h) (Or.inr ⟨by rfl,rfl⟩) (by assumption) ?restg5_33
  try simp only [Act.put,List.setIfInBounds_toArray,List.set_cons_zero,List.set_cons_succ]
  refine wpAnyH_take (i := 31) (oi := ⟨_,_,_,_,_,_⟩) (v := ?vg5_34) rfl (by kernel_rfl) (by kernel_rfl) (by kernel_rfl) (fun _ _ _ h => h) (Or.inl ⟨by rfl,?hyg5_34⟩) (by assumption) ?restg5_34
  case hyg5_34 => (intro W hW; go_simp; try with_reducible rfl)
  try simp only [Act.put,List.setIfInBounds_toArray,List.set_cons_zero,List.set_cons_succ]
  refine wpAnyH_take (i := 32) (oi := ⟨_,_,_,_,_,_⟩) (v := ?vg5_35) rfl (by kernel_rfl) (by kernel_rfl) (by kernel_rfl) (fun _ _ _ h => h) (Or.inl ⟨by rfl,?hyg5_35⟩) (by assumption) ?restg5_35
  case hyg5_35 => (intro W hW; go_simp; try with_reducible rfl)
  try simp only [Act.put,List.setIfInBounds_toArray,List.set_cons_zero,List.set_cons_succ]
  refine wpAnyH_take (i := 33) (oi := ⟨_,_,_,_,_,_⟩) (v := undef) rfl (by kernel_rfl) (by kernel_rfl) (by kernel_rfl) (fun _ _ _ h => h) (Or.inr ⟨by rfl,rfl⟩) (by assumption) ?restg5_36
  try simp only [Act.put,List.setIfInBounds_toArray,List.set_cons_zero,List.set_cons_succ]
  refine wpAnyH_take (i := 34) (oi := ⟨_,_,_,_,_,_⟩) (v := undef) rfl (by kernel_rfl) (by kernel_rfl) (by kernel_rfl) (fun _ _ _ h => h) (Or.inr ⟨by rfl,rfl⟩) (by assumption) ?restg5_37
  try simp only [Act.put,List.setIfInBounds_toArray,List.set_cons_zero,List.set_cons_succ]
  refine wpAnyH_take (i := 35) (oi := ⟨_,_,_,_,_,_⟩) (v := undef) rfl (by kernel_rfl) (by kernel_rfl) (by kernel_rfl) (fun _ _ _ h => h) (Or.inr ⟨by rfl,rfl⟩) (by assumption) ?restg5_38
  try simp only [Act.put,List.setIfInBounds_toArray,List.set_cons_zero,List.set_cons_succ]
  refine wpAnyH_take (i := 36) (oi := ⟨_,_,_,_,_,_⟩) (v := undef) rfl (by kernel_rfl) (by kernel_rfl) (by kernel_rfl) (fun _ _ _ h => h) (Or.inr ⟨by rfl,rfl⟩) (by assumption) ?restg5_39
  try simp only [Act.put,List.setIfInBounds_toArray,List.set_cons_zero,List.set_cons_succ]
  refine wpAnyH_take (i := 37) (oi := ⟨_,_,_,_,_,_⟩) (v := ?vg5_40) rfl (by kernel_rfl) (by kernel_rfl) (by kernel_rfl) (fun _ _ _ h => h) (Or.inl ⟨by rfl,?hyg5_40⟩) (by assumption) ?restg5_40
  case hyg5_40 => (intro W hW; go_simp; try with_reducible rfl)
  try simp only [Act.put,List.setIfInBounds_toArray,List.set_cons_zero,List.set_cons_succ]
  refine wpAnyH_take (i := 38) (oi := ⟨_,_,_,_,_,_⟩) (v := ?vg5_41) rfl (by kernel_rfl) (by kernel_rfl) (by kernel_rfl) (fun _ _ _ h => h) (Or.inl ⟨by rfl,?hyg5_41⟩) (by assumption) ?restg5_41
  case hyg5_41 => (intro W hW; go_simp; try with_reducible rfl)
  try simp only [Act.put,List.setIfInBounds_toArray,List.set_cons_zero,List.set_cons_succ]
  refine wpAnyH_take (i := 39) (oi := ⟨_,_,_,_,_,_⟩) (v := undef) rfl (by kernel_rfl) (by kernel_rfl) (by kernel_rfl) (fun _ _ _ h => h) (Or.inr ⟨by rfl,rfl⟩) (by assumption) ?restg5_42
  try simp only [Act.put,List.setIfInBounds_toArray,List.set_cons_zero,List.set_cons_succ]
  refine wpAnyH_take (i := 40) (oi := ⟨_,_,_,_,_,_⟩) (v := undef) rfl (by kernel_rfl) (by kernel_rfl) (by kernel_rfl) (fun _ _ _ h => h) (Or.inr ⟨by rfl,rfl⟩) (by assumption) ?restg5_43
  try simp only [Act.put,List.setIfInBounds_toArray,List.set_cons_zero,List.set_cons_succ]
  refine wpAnyH_take (i := 41) (oi := ⟨_,_,_,_,_,_⟩) (v := undef) rfl (by kernel_rfl) (by kernel_rfl) (by kernel_rfl) (fun _ _ _ h => h) (Or.inr ⟨by rfl,rfl⟩) (by assumption) ?restg5_44
  try simp only [Act.put,List.setIfInBounds_toArray,List.set_cons_zero,List.set_cons_succ]
  refine wpAnyH_take (i := 42) (oi := ⟨_,_,_,_,_,_⟩) (v := ?vg5_45) rfl (by kernel_rfl) (by kernel_rfl) (by kernel_rfl) (fun _ _ _ h => h) (Or.inl ⟨by rfl,?hyg5_45⟩) (by assumption) ?restg5_45
  case hyg5_45 => (intro W hW; go_simp; try with_reducible rfl)
  try simp only [Act.put,List.setIfInBounds_toArray,List.set_cons_zero,List.set_cons_succ]
  refine wpAnyH_take (i := 43) (oi := ⟨_,_,_,_,_,_⟩) (v := ?vg5_46) rfl (by kernel_rfl) (by kernel_rfl) (by kernel_rfl) (fun _ _ _ h => h) (Or.inl ⟨by rfl,?hyg5_46⟩) (by assumption) ?restg5_46
  case hyg5_46 => (intro W hW; go_simp; try with_reducible rfl)
  try simp only [Act.put,List.setIfInBounds_toArray,List.set_cons_zero,List.set_cons_succ]
  refine wpAnyH_done (by kernel_rfl) ?_ _
  have HB := Lib.hid hHeld4.bel
  go_wp2_with fail
  go_ret
  exact ⟨rfl,HB.out⟩
set_option maxHeartbeats 4000000 in
set_option maxRecDepth 100000 in
theorem Rs.RCheck_5 (w : World) (n e TN TE : ByteArray) (DN DE : Nat) (hn : n.size ≤ 4000) (he : e.size ≤ 4000) (hTN : (⟨(Nt.fm (Nt.nv n)).toArray⟩ : ByteArray) = TN) (hTE : (⟨(Nt.fm (Nt.nv e)).toArray⟩ : ByteArray) = TE) (hDN : Nt.dig (Nt.nv n) = DN) (hDE : Nt.dig (Nt.nv e) = DE) (hc1 : TN = n) (hc2 : TE = e) (hc3 : Nt.nv n % 2 = 1) (hc4 : Nt.nv e % 2 = 1) (hc5 : ¬ 512 ≤ DN) :
    Calls Tryz.prog 39 #[.agg #[.string n,.string e]] w fun r w' => r = .returned (.bool false) ∧ Below w.heap.size w w' := by
  have CN : ∀ W an kn cn,Rn.Num W an kn cn (Nt.nv n) → kn ≤ 1000000 := fun W an kn cn h => Nat.le_trans (h.bytes 2000 n.size (Nt.nv_lt n) (by omega)) (by decide)
  have CE : ∀ W an kn cn,Rn.Num W an kn cn (Nt.nv e) → kn ≤ 1000000 := fun W an kn cn h => Nat.le_trans (h.bytes 2000 e.size (Nt.nv_lt e) (by omega)) (by decide)
  have FN : ∀ W an kn cn,Rn.Num W an kn cn (Nt.nv n) → Calls Tryz.prog 67 #[.slice an kn cn] W fun r w' => r = .returned (.string TN) ∧ Below W.heap.size W w' := fun W an kn cn h => by
    have := Rn.Form_any W an kn cn _ h (CN W an kn cn h)
    rw [hTN] at this
    exact this
  have FE : ∀ W an kn cn,Rn.Num W an kn cn (Nt.nv e) → Calls Tryz.prog 67 #[.slice an kn cn] W fun r w' => r = .returned (.string TE) ∧ Below W.heap.size W w' := fun W an kn cn h => by
    have := Rn.Form_any W an kn cn _ h (CE W an kn cn h)
    rw [hTE] at this
    exact this
  have BN : ∀ W an kn cn,Rn.Num W an kn cn (Nt.nv n) → Calls Tryz.prog 23 #[.slice an kn cn] W fun r w' => r = .returned (.int .i64 (DN : Int)) ∧ w' = W := fun W an kn cn h => by
    have := Rn.Bits_any W an kn cn _ h (CN W an kn cn h)
    rw [hDN] at this
    exact this
  have BE : ∀ W an kn cn,Rn.Num W an kn cn (Nt.nv e) → Calls Tryz.prog 23 #[.slice an kn cn] W fun r w' => r = .returned (.int .i64 (DE : Int)) ∧ w' = W := fun W an kn cn h => by
    have := Rn.Bits_any W an kn cn _ h (CE W an kn cn h)
    rw [hDE] at this
    exact this
  have LN : ∀ W an kn cn,Rn.Num W an kn cn (Nt.nv n) → Calls Tryz.prog 44 #[.slice an kn cn,.int .i64 0] W fun r w' => r = .returned (.int .u64 1) ∧ w' = W := fun W an kn cn h => by
    have := Rn.Bit_low W an kn cn _ h (CN W an kn cn h)
    rw [hc3] at this
    exact this
  have LE : ∀ W an kn cn,Rn.Num W an kn cn (Nt.nv e) → Calls Tryz.prog 44 #[.slice an kn cn,.int .i64 0] W fun r w' => r = .returned (.int .u64 1) ∧ w' = W := fun W an kn cn h => by
    have := Rn.Bit_low W an kn cn _ h (CE W an kn cn h)
    rw [hc4] at this
    exact this
  have HZ := Lib.hid (And.intro hn he)
  have FN := Lib.hid FN
  have FE := Lib.hid FE
  have BN := Lib.hid BN
  have BE := Lib.hid BE
  have LN := Lib.hid LN
  have LE := Lib.hid LE
  subst hc1
  subst hc2
  have z5 : decide (512 ≤ (DN : Int)) = false := decide_eq_false (by omega)
  clear CN CE hTN hTE hDN hDE hn he
  have S0 : Rs.BoxS w w.heap.size TN TE (w.alloc (Obj.cells #[.string TN,.string TE] 25)) := ⟨by simp,by simp,(Below.refl _ _).alloc (Nat.le_refl _) _⟩
  have HS0 := Lib.hid S0
  clear S0
  go_enter Tryz.func39,Tryz.ntmps39
  go_wp2_with fail
  have S0 := HS0.out
  clear HS0
  revert S0
  generalize w.alloc (Obj.cells #[.string TN,.string TE] 25) = w1
  intro S0
  refine wp_region_held_drew (S := fun W => Rs.BoxS w w.heap.size TN TE W) (by kernel_rfl) (S0.below (below_drewN (Below.refl _ _) 1)) (fun hHeld0 => ?_)
  clear S0
  refine wpAnyH_take (i := 0) (oi := ⟨_,_,_,_,_,_⟩) (v := ?vg6_1) rfl (by kernel_rfl) (by kernel_rfl) (by kernel_rfl) (fun _ _ _ h => h) (Or.inl ⟨by rfl,?hyg6_1⟩) (by assumption) ?restg6_1
  case hyg6_1 => (intro W hW; go_simp; try with_reducible rfl)
  try simp only [Act.put,List.setIfInBounds_toArray,List.set_cons_zero,List.set_cons_succ]
  refine wpAnyH_take (i := 1) (oi := ⟨_,_,_,_,_,_⟩) (v := .string TN) rfl (by kernel_rfl) (by kernel_rfl) (by kernel_rfl) (fun _ _ _ h => h) (Or.inl ⟨by rfl,fun W hW => (by have c0 := hW.c0; go_simp)⟩) (by assumption) ?restg6_2
  try simp only [Act.put,List.setIfInBounds_toArray,List.set_cons_zero,List.set_cons_succ]
  refine wpAnyH_take (i := 3) (oi := ⟨_,_,_,_,_,_⟩) (v := ?vg6_3) rfl (by kernel_rfl) (by kernel_rfl) (by kernel_rfl) (fun _ _ _ h => h) (Or.inl ⟨by rfl,?hyg6_3⟩) (by assumption) ?restg6_3
  case hyg6_3 => (intro W hW; go_simp; try with_reducible rfl)
  try simp only [Act.put,List.setIfInBounds_toArray,List.set_cons_zero,List.set_cons_succ]
  refine wpAnyH_take (i := 4) (oi := ⟨_,_,_,_,_,_⟩) (v := .string TE) rfl (by kernel_rfl) (by kernel_rfl) (by kernel_rfl) (fun _ _ _ h => h) (Or.inl ⟨by rfl,fun W hW => (by have c1 := hW.c1; go_simp)⟩) (by assumption) ?restg6_4
  try simp only [Act.put,List.setIfInBounds_toArray,List.set_cons_zero,List.set_cons_succ]
  refine wpAnyH_ready (rs := [2]) (by kernel_rfl) (by simp) ?_
  refine AllReadyH.cons (o := ⟨_,_,_,_,_,_⟩) rfl (fun K hK => ?_) AllReadyH.nil
  go_simp
  refine Calls.mono (Rn.Of_any _ TN (Nat.le_trans HZ.out.1 (by decide))) ?_
  rintro e2 w2 ⟨an,kn,cn,rfl,hN,b2⟩
  have S2 := hHeld0.below b2
  go_wp2_with fail
  refine hK.out _ _ (S2) (fun hHeld1 => ?_)
  clear hK K hHeld0
  try simp only [Act.put,List.setIfInBounds_toArray,List.set_cons_zero,List.set_cons_succ]
  refine wpAnyH_ready (rs := [5]) (by kernel_rfl) (by simp) ?_
  refine AllReadyH.cons (o := ⟨_,_,_,_,_,_⟩) rfl (fun K hK => ?_) AllReadyH.nil
  go_simp
  refine Calls.mono (Rn.Of_any _ TE (Nat.le_trans HZ.out.2 (by decide))) ?_
  rintro e3 w3 ⟨ae,ke,ce,rfl,hE,b3⟩
  have S3 := S2.below b3
  have T0 : Rs.KeyS w w.heap.size TN TE an kn cn ae ke ce w3 := ⟨S3.c0,S3.c1,hN.below b3,hE,S3.bel⟩
  go_wp2_with fail
  refine hK.out _ _ (S3) (fun hHeld2 => ?_)
  clear hK K hHeld1
  try simp only [Act.put,List.setIfInBounds_toArray,List.set_cons_zero,List.set_cons_succ]
  refine wpAnyH_take (i := 6) (oi := ⟨_,_,_,_,_,_⟩) (v := ?vg6_5) rfl (by kernel_rfl) (by kernel_rfl) (by kernel_rfl) (fun _ _ _ h => h) (Or.inl ⟨by rfl,?hyg6_5⟩) (by assumption) ?restg6_5
  case hyg6_5 => (intro W hW; go_simp; try with_reducible rfl)
  try simp only [Act.put,List.setIfInBounds_toArray,List.set_cons_zero,List.set_cons_succ]
  refine wpAnyH_take (i := 7) (oi := ⟨_,_,_,_,_,_⟩) (v := ?vg6_6) rfl (by kernel_rfl) (by kernel_rfl) (by kernel_rfl) (fun _ _ _ h => h) (Or.inl ⟨by rfl,?hyg6_6⟩) (by assumption) ?restg6_6
  case hyg6_6 => (intro W hW; go_simp; try with_reducible rfl)
  try simp only [Act.put,List.setIfInBounds_toArray,List.set_cons_zero,List.set_cons_succ]
  refine wpAnyH_done (by kernel_rfl) ?_ _
  clear S2 S3 hHeld2 hN hE b2 b3
  go_wp2_with fail
  refine wp_region_held_drew (S := fun W => Rs.KeyS w w.heap.size TN TE an kn cn ae ke ce W) (by kernel_rfl) (T0.below (below_drewN (Below.refl _ _) 1)) (fun hHeld0 => ?_)
  clear T0
  refine wpAnyH_take (i := 0) (oi := ⟨_,_,_,_,_,_⟩) (v := ?vg6_7) rfl (by kernel_rfl) (by kernel_rfl) (by kernel_rfl) (fun _ _ _ h => h) (Or.inl ⟨by rfl,?hyg6_7⟩) (by assumption) ?restg6_7
  case hyg6_7 => (intro W hW; go_simp; try with_reducible rfl)
  try simp only [Act.put,List.setIfInBounds_toArray,List.set_cons_zero,List.set_cons_succ]
  refine wpAnyH_take (i := 2) (oi := ⟨_,_,_,_,_,_⟩) (v := ?vg6_8) rfl (by kernel_rfl) (by kernel_rfl) (by kernel_rfl) (fun _ _ _ h => h) (Or.inl ⟨by rfl,?hyg6_8⟩) (by assumption) ?restg6_8
  case hyg6_8 => (intro W hW; go_simp; try with_reducible rfl)
  try simp only [Act.put,List.setIfInBounds_toArray,List.set_cons_zero,List.set_cons_succ]
  refine wpAnyH_take (i := 3) (oi := ⟨_,_,_,_,_,_⟩) (v := .string TN) rfl (by kernel_rfl) (by kernel_rfl) (by kernel_rfl) (fun _ _ _ h => h) (Or.inl ⟨by rfl,fun W hW => (by have c0 := hW.c0; go_simp)⟩) (by assumption) ?restg6_9
  try simp only [Act.put,List.setIfInBounds_toArray,List.set_cons_zero,List.set_cons_succ]
  refine wpAnyH_ready (rs := [1]) (by kernel_rfl) (by simp) ?_
  refine AllReadyH.cons (o := ⟨_,_,_,_,_,_⟩) rfl (fun K hK => ?_) AllReadyH.nil
  go_simp
  refine Calls.mono (FN.out _ _ _ _ hHeld0.n) ?_
  rintro r w4 ⟨rfl,b4⟩
  have T1 := hHeld0.below b4
  clear b4
  go_wp2_with fail
  refine hK.out _ _ (T1) (fun hHeld1 => ?_)
  clear hK K hHeld0
  try simp only [Act.put,List.setIfInBounds_toArray,List.set_cons_zero,List.set_cons_succ]
  refine wpAnyH_take (i := 4) (oi := ⟨_,_,_,_,_,_⟩) (v := ?vg6_10) rfl (by kernel_rfl) (by kernel_rfl) (by kernel_rfl) (fun _ _ _ h => h) (Or.inl ⟨by rfl,?hyg6_10⟩) (by assumption) ?restg6_10
  case hyg6_10 => (intro W hW; go_simp; try with_reducible rfl)
  try simp only [Act.put,List.setIfInBounds_toArray,List.set_cons_zero,List.set_cons_succ]
  refine wpAnyH_take (i := 5) (oi := ⟨_,_,_,_,_,_⟩) (v := ?vg6_11) rfl (by kernel_rfl) (by kernel_rfl) (by kernel_rfl) (fun _ _ _ h => h) (Or.inl ⟨by rfl,?hyg6_11⟩) (by assumption) ?restg6_11
  case hyg6_11 => (intro W hW; go_simp; try with_reducible rfl)
  try simp only [Act.put,List.setIfInBounds_toArray,List.set_cons_zero,List.set_cons_succ]
  refine wpAnyH_take (i := 6) (oi := ⟨_,_,_,_,_,_⟩) (v := ?vg6_12) rfl (by kernel_rfl) (by kernel_rfl) (by kernel_rfl) (fun _ _ _ h => h) (Or.inl ⟨by rfl,?hyg6_12⟩) (by assumption) ?restg6_12
  case hyg6_12 => (intro W hW; go_simp; try with_reducible rfl)
  try simp only [Act.put,List.setIfInBounds_toArray,List.set_cons_zero,List.set_cons_succ]
  refine wpAnyH_take (i := 8) (oi := ⟨_,_,_,_,_,_⟩) (v := ?vg6_13) rfl (by kernel_rfl) (by kernel_rfl) (by kernel_rfl) (fun _ _ _ h => h) (Or.inl ⟨by rfl,?hyg6_13⟩) (by assumption) ?restg6_13
  case hyg6_13 => (intro W hW; go_simp; try with_reducible rfl)
  try simp only [Act.put,List.setIfInBounds_toArray,List.set_cons_zero,List.set_cons_succ]
  refine wpAnyH_take (i := 9) (oi := ⟨_,_,_,_,_,_⟩) (v := .string TE) rfl (by kernel_rfl) (by kernel_rfl) (by kernel_rfl) (fun _ _ _ h => h) (Or.inl ⟨by rfl,fun W hW => (by have c1 := hW.c1; go_simp)⟩) (by assumption) ?restg6_14
  try simp only [Act.put,List.setIfInBounds_toArray,List.set_cons_zero,List.set_cons_succ]
  refine wpAnyH_ready (rs := [7]) (by kernel_rfl) (by simp) ?_
  refine AllReadyH.cons (o := ⟨_,_,_,_,_,_⟩) rfl (fun K hK => ?_) AllReadyH.nil
  go_simp
  refine Calls.mono (FE.out _ _ _ _ hHeld1.e) ?_
  rintro r w5 ⟨rfl,b5⟩
  have T2 := hHeld1.below b5
  clear b5
  go_wp2_with fail
  refine hK.out _ _ (T2) (fun hHeld2 => ?_)
  clear hK K hHeld1
  try simp only [Act.put,List.setIfInBounds_toArray,List.set_cons_zero,List.set_cons_succ]
  refine wpAnyH_take (i := 10) (oi := ⟨_,_,_,_,_,_⟩) (v := ?vg6_15) rfl (by kernel_rfl) (by kernel_rfl) (by kernel_rfl) (fun _ _ _ h => h) (Or.inl ⟨by rfl,?hyg6_15⟩) (by assumption) ?restg6_15
  case hyg6_15 => (intro W hW; go_simp; try with_reducible rfl)
  try simp only [Act.put,List.setIfInBounds_toArray,List.set_cons_zero,List.set_cons_succ]
  refine wpAnyH_take (i := 11) (oi := ⟨_,_,_,_,_,_⟩) (v := ?vg6_16) rfl (by kernel_rfl) (by kernel_rfl) (by kernel_rfl) (fun _ _ _ h => h) (Or.inl ⟨by rfl,?hyg6_16⟩) (by assumption) ?restg6_16
  case hyg6_16 => (intro W hW; go_simp; try with_reducible rfl)
  try simp only [Act.put,List.setIfInBounds_toArray,List.set_cons_zero,List.set_cons_succ]
  refine wpAnyH_take (i := 12) (oi := ⟨_,_,_,_,_,_⟩) (v := ?vg6_17) rfl (by kernel_rfl) (by kernel_rfl) (by kernel_rfl) (fun _ _ _ h => h) (Or.inl ⟨by rfl,?hyg6_17⟩) (by assumption) ?restg6_17
  case hyg6_17 => (intro W hW; go_simp; try with_reducible rfl)
  try simp only [Act.put,List.setIfInBounds_toArray,List.set_cons_zero,List.set_cons_succ]
  refine wpAnyH_take (i := 13) (oi := ⟨_,_,_,_,_,_⟩) (v := ?vg6_18) rfl (by kernel_rfl) (by kernel_rfl) (by kernel_rfl) (fun _ _ _ h => h) (Or.inl ⟨by rfl,?hyg6_18⟩) (by assumption) ?restg6_18
  case hyg6_18 => (intro W hW; go_simp; try with_reducible rfl)
  try simp only [Act.put,List.setIfInBounds_toArray,List.set_cons_zero,List.set_cons_succ]
  refine wpAnyH_ready (rs := [14]) (by kernel_rfl) (by simp) ?_
  refine AllReadyH.cons (o := ⟨_,_,_,_,_,_⟩) rfl (fun K hK => ?_) AllReadyH.nil
  go_simp
  refine Calls.mono (LN.out _ _ _ _ hHeld2.n) ?_
  rintro r wz ⟨rfl,rfl⟩
  go_wp2_with fail
  refine hK.out _ _ (hHeld2) (fun hHeld3 => ?_)
  clear hK K hHeld2
  try simp only [Act.put,List.setIfInBounds_toArray,List.set_cons_zero,List.set_cons_succ]
  refine wpAnyH_take (i := 15) (oi := ⟨_,_,_,_,_,_⟩) (v := ?vg6_19) rfl (by kernel_rfl) (by kernel_rfl) (by kernel_rfl) (fun _ _ _ h => h) (Or.inl ⟨by rfl,?hyg6_19⟩) (by assumption) ?restg6_19
  case hyg6_19 => (intro W hW; go_simp; try with_reducible rfl)
  try simp only [Act.put,List.setIfInBounds_toArray,List.set_cons_zero,List.set_cons_succ]
  refine wpAnyH_take (i := 16) (oi := ⟨_,_,_,_,_,_⟩) (v := ?vg6_20) rfl (by kernel_rfl) (by kernel_rfl) (by kernel_rfl) (fun _ _ _ h => h) (Or.inl ⟨by rfl,?hyg6_20⟩) (by assumption) ?restg6_20
  case hyg6_20 => (intro W hW; go_simp; try with_reducible rfl)
  try simp only [Act.put,List.setIfInBounds_toArray,List.set_cons_zero,List.set_cons_succ]
  refine wpAnyH_take (i := 17) (oi := ⟨_,_,_,_,_,_⟩) (v := ?vg6_21) rfl (by kernel_rfl) (by kernel_rfl) (by kernel_rfl) (fun _ _ _ h => h) (Or.inl ⟨by rfl,?hyg6_21⟩) (by assumption) ?restg6_21
  case hyg6_21 => (intro W hW; go_simp; try with_reducible rfl)
  try simp only [Act.put,List.setIfInBounds_toArray,List.set_cons_zero,List.set_cons_succ]
  refine wpAnyH_take (i := 18) (oi := ⟨_,_,_,_,_,_⟩) (v := ?vg6_22) rfl (by kernel_rfl) (by kernel_rfl) (by kernel_rfl) (fun _ _ _ h => h) (Or.inl ⟨by rfl,?hyg6_22⟩) (by assumption) ?restg6_22
  case hyg6_22 => (intro W hW; go_simp; try with_reducible rfl)
  try simp only [Act.put,List.setIfInBounds_toArray,List.set_cons_zero,List.set_cons_succ]
  refine wpAnyH_ready (rs := [19]) (by kernel_rfl) (by simp) ?_
  refine AllReadyH.cons (o := ⟨_,_,_,_,_,_⟩) rfl (fun K hK => ?_) AllReadyH.nil
  go_simp
  refine Calls.mono (LE.out _ _ _ _ hHeld3.e) ?_
  rintro r wz ⟨rfl,rfl⟩
  go_wp2_with fail
  refine hK.out _ _ (hHeld3) (fun hHeld4 => ?_)
  clear hK K hHeld3
  try simp only [Act.put,List.setIfInBounds_toArray,List.set_cons_zero,List.set_cons_succ]
  refine wpAnyH_take (i := 20) (oi := ⟨_,_,_,_,_,_⟩) (v := ?vg6_23) rfl (by kernel_rfl) (by kernel_rfl) (by kernel_rfl) (fun _ _ _ h => h) (Or.inl ⟨by rfl,?hyg6_23⟩) (by assumption) ?restg6_23
  case hyg6_23 => (intro W hW; go_simp; try with_reducible rfl)
  try simp only [Act.put,List.setIfInBounds_toArray,List.set_cons_zero,List.set_cons_succ]
  refine wpAnyH_take (i := 21) (oi := ⟨_,_,_,_,_,_⟩) (v := ?vg6_24) rfl (by kernel_rfl) (by kernel_rfl) (by kernel_rfl) (fun _ _ _ h => h) (Or.inl ⟨by rfl,?hyg6_24⟩) (by assumption) ?restg6_24
  case hyg6_24 => (intro W hW; go_simp; try with_reducible rfl)
  try simp only [Act.put,List.setIfInBounds_toArray,List.set_cons_zero,List.set_cons_succ]
  refine wpAnyH_take (i := 22) (oi := ⟨_,_,_,_,_,_⟩) (v := ?vg6_25) rfl (by kernel_rfl) (by kernel_rfl) (by kernel_rfl) (fun _ _ _ h => h) (Or.inl ⟨by rfl,?hyg6_25⟩) (by assumption) ?restg6_25
  case hyg6_25 => (intro W hW; go_simp; try with_reducible rfl)
  try simp only [Act.put,List.setIfInBounds_toArray,List.set_cons_zero,List.set_cons_succ]
  refine wpAnyH_take (i := 23) (oi := ⟨_,_,_,_,_,_⟩) (v := ?vg6_26) rfl (by kernel_rfl) (by kernel_rfl) (by kernel_rfl) (fun _ _ _ h => h) (Or.inl ⟨by rfl,?hyg6_26⟩) (by assumption) ?restg6_26
  case hyg6_26 => (intro W hW; go_simp; try with_reducible rfl)
  try simp only [Act.put,List.setIfInBounds_toArray,List.set_cons_zero,List.set_cons_succ]
  refine wpAnyH_ready (rs := [24]) (by kernel_rfl) (by simp) ?_
  refine AllReadyH.cons (o := ⟨_,_,_,_,_,_⟩) rfl (fun K hK => ?_) AllReadyH.nil
  go_simp
  refine Calls.mono (BN.out _ _ _ _ hHeld4.n) ?_
  rintro r wz ⟨rfl,rfl⟩
  go_wp2_with fail
  refine hK.out _ _ (hHeld4) (fun hHeld5 => ?_)
  clear hK K hHeld4
  try simp only [Act.put,List.setIfInBounds_toArray,List.set_cons_zero,List.set_cons_succ]
  refine wpAnyH_take (i := 25) (oi := ⟨_,_,_,_,_,_⟩) (v := ?vg6_27) rfl (by kernel_rfl) (by kernel_rfl) (by kernel_rfl) (fun _ _ _ h => h) (Or.inl ⟨by rfl,?hyg6_27⟩) (by assumption) ?restg6_27
  case hyg6_27 => (intro W hW; go_simp; try with_reducible rfl)
  try simp only [Act.put,List.setIfInBounds_toArray,List.set_cons_zero,List.set_cons_succ]
  refine wpAnyH_take (i := 26) (oi := ⟨_,_,_,_,_,_⟩) (v := ?vg6_28) rfl (by kernel_rfl) (by kernel_rfl) (by kernel_rfl) (fun _ _ _ h => h) (Or.inl ⟨by rfl,?hyg6_28⟩) (by assumption) ?restg6_28
  case hyg6_28 => (intro W hW; go_simp; try with_reducible rfl)
  try simp only [Act.put,List.setIfInBounds_toArray,List.set_cons_zero,List.set_cons_succ]
  refine wpAnyH_take (i := 27) (oi := ⟨_,_,_,_,_,_⟩) (v := ?vg6_29) rfl (by kernel_rfl) (by kernel_rfl) (by kernel_rfl) (fun _ _ _ h => h) (Or.inl ⟨by rfl,?hyg6_29⟩) (by assumption) ?restg6_29
  case hyg6_29 => (intro W hW; go_simp; try with_reducible rfl)
  try simp only [Act.put,List.setIfInBounds_toArray,List.set_cons_zero,List.set_cons_succ]
  refine wpAnyH_take (i := 28) (oi := ⟨_,_,_,_,_,_⟩) (v := undef) rfl (by kernel_rfl) (by kernel_rfl) (by kernel_rfl) (fun _ _ _ h => h) (Or.inr ⟨by rfl,rfl⟩) (by assumption) ?restg6_30
  try simp only [Act.put,List.setIfInBounds_toArray,List.set_cons_zero,List.set_cons_succ]
  refine wpAnyH_take (i := 29) (oi := ⟨_,_,_,_,_,_⟩) (v := undef) rfl (by kernel_rfl) (by kernel_rfl) (by kernel_rfl) (fun _ _ _ h => h) (Or.inr ⟨by rfl,rfl⟩) (by assumption) ?restg6_31
  try simp only [Act.put,List.setIfInBounds_toArray,List.set_cons_zero,List.set_cons_succ]
  refine wpAnyH_take (i := 30) (oi := ⟨_,_,_,_,_,_⟩) (v := undef) rfl (by kernel_rfl) (by kernel_rfl) (by kernel_rfl) (fun _ _ _ h => h) (Or.inr ⟨by rfl,rfl⟩) (by assumption) ?restg6_32
  try simp only [Act.put,List.setIfInBounds_toArray,List.set_cons_zero,List.set_cons_succ]
  refine wpAnyH_take (i := 31) (oi := ⟨_,_,_,_,_,_⟩) (v := ?vg6_33) rfl (by kernel_rfl) (by kernel_rfl) (by kernel_rfl) (fun _ _ _ h => h) (Or.inl ⟨by rfl,?hyg6_33⟩) (by assumption) ?restg6_33
  case hyg6_33 => (intro W hW; go_simp; try with_reducible rfl)
  try simp only [Act.put,List.setIfInBounds_toArray,List.set_cons_zero,List.set_cons_succ]
  refine wpAnyH_take (i := 32) (oi := ⟨_,_,_,_,_,_⟩) (v := ?vg6_34) rfl (by kernel_rfl) (by kernel_rfl) (by kernel_rfl) (fun _ _ _ h => h) (Or.inl ⟨by rfl,?hyg6_34⟩) (by assumption) ?restg6_34
  case hyg6_34 => (intro W hW; go_simp; try with_reducible rfl)
  try simp only [Act.put,List.setIfInBounds_toArray,List.set_cons_zero,List.set_cons_succ]
  refine wpAnyH_take (i := 33) (oi := ⟨_,_,_,_,_,_⟩) (v := undef) rfl (by kernel_rfl) (by kernel_rfl) (by kernel_rfl) (fun _ _ _ h => h) (Or.inr ⟨by rfl,rfl⟩) (by assumption) ?restg6_35
  try simp only [Act.put,List.setIfInBounds_toArray,List.set_cons_zero,List.set_cons_succ]
  refine wpAnyH_take (i := 34) (oi := ⟨_,_,_,_,_,_⟩) (v := undef) rfl (by kernel_rfl) (by kernel_rfl) (by kernel_rfl) (fun _ _ _ h => h) (Or.inr ⟨by rfl,rfl⟩) (by assumption) ?restg6_36
  try simp only [Act.put,List.setIfInBounds_toArray,List.set_cons_zero,List.set_cons_succ]
  refine wpAnyH_take (i := 35) (oi := ⟨_,_,_,_,_,_⟩) (v := undef) rfl (by kernel_rfl) (by kernel_rfl) (by kernel_rfl) (fun _ _ _ h => h) (Or.inr ⟨by rfl,rfl⟩) (by assumption) ?restg6_37
  try simp only [Act.put,List.setIfInBounds_toArray,List.set_cons_zero,List.set_cons_succ]
  refine wpAnyH_take (i := 36) (oi := ⟨_,_,_,_,_,_⟩) (v := undef) rfl (by kernel_rfl) (by kernel_rfl) (by kernel_rfl) (fun _ _ _ h => h) (Or.inr ⟨by rfl,rfl⟩) (by assumption) ?restg6_38
  try simp only [Act.put,List.setIfInBounds_toArray,List.set_cons_zero,List.set_cons_succ]
  refine wpAnyH_take (i := 37) (oi := ⟨_,_,_,_,_,_⟩) (v := ?vg6_39) rfl (by kernel_rfl) (by kernel_rfl) (by kernel_rfl) (fun _ _ _ h => h) (Or.inl ⟨by rfl,?hyg6_39⟩) (by assumption) ?restg6_39
  case hyg6_39 => (intro W hW; go_simp; try with_reducible rfl)
  try simp only [Act.put,List.setIfInBounds_toArray,List.set_cons_zero,List.set_cons_succ]
  refine wpAnyH_take (i := 38) (oi := ⟨_,_,_,_,_,_⟩) (v := ?vg6_40) rfl (by kernel_rfl) (by kernel_rfl) (by kernel_rfl) (fun _ _ _ h => h) (Or.inl ⟨by rfl,?hyg6_40⟩) (by assumption) ?restg6_40
  case hyg6_40 => (intro W hW; go_simp; try with_reducible rfl)
  try simp only [Act.put,List.setIfInBounds_toArray,List.set_cons_zero,List.set_cons_succ]
  refine wpAnyH_take (i := 39) (oi := ⟨_,_,_,_,_,_⟩) (v := undef) rfl (by kernel_rfl) (by kernel_rfl) (by kernel_rfl) (fun _ _ _ h => h) (Or.inr ⟨by rfl,rfl⟩) (by assumption) ?restg6_41
  try simp only [Act.put,List.setIfInBounds_toArray,List.set_cons_zero,List.set_cons_succ]
  refine wpAnyH_take (i := 40) (oi := ⟨_,_,_,_,_,_⟩) (v := undef) rfl (by kernel_rfl) (by kernel_rfl) (by kernel_rfl) (fun _ _ _ h => h) (Or.inr ⟨by rfl,rfl⟩) (by assumption) ?restg6_42
  try simp only [Act.put,List.setIfInBounds_toArray,List.set_cons_zero,List.set_cons_succ]
  refine wpAnyH_take (i := 41) (oi := ⟨_,_,_,_,_,_⟩) (v := undef) rfl (by kernel_rfl) (by kernel_rfl) (by kernel_rfl) (fun _ _ _ h => h) (Or.inr ⟨by rfl,rfl⟩) (by assumption) ?restg6_43
  try simp only [Act.put,List.setIfInBounds_toArray,List.set_cons_zero,List.set_cons_succ]
  refine wpAnyH_take (i := 42) (oi := ⟨_,_,_,_,_,_⟩) (v := ?vg6_44) rfl (by kernel_rfl) (by kernel_rfl) (by kernel_rfl) (fun _ _ _ h => h) (Or.inl ⟨by rfl,?hyg6_44⟩) (by assumption) ?restg6_44
  case hyg6_44 => (intro W hW; go_simp; try with_reducible rfl)
  try simp only [Act.put,List.setIfInBounds_toArray,List.set_cons_zero,List.set_cons_succ]
  refine wpAnyH_take (i := 43) (oi := ⟨_,_,_,_,_,_⟩) (v := ?vg6_45) rfl (by kernel_rfl) (by kernel_rfl) (by kernel_rfl) (fun _ _ _ h => h) (Or.inl ⟨by rfl,?hyg6_45⟩) (by assumption) ?restg6_45
  case hyg6_45 => (intro W hW; go_simp; try with_reducible rfl)
  try simp only [Act.put,List.setIfInBounds_toArray,List.set_cons_zero,List.set_cons_succ]
  refine wpAnyH_done (by kernel_rfl) ?_ _
  have HB := Lib.hid hHeld5.bel
  go_wp2_with fail
  go_ret
  exact ⟨rfl,HB.out⟩
set_option maxHeartbeats 4000000 in
set_option maxRecDepth 100000 in
theorem Rs.RCheck_6 (w : World) (n e TN TE : ByteArray) (DN DE : Nat) (hn : n.size ≤ 4000) (he : e.size ≤ 4000) (hTN : (⟨(Nt.fm (Nt.nv n)).toArray⟩ : ByteArray) = TN) (hTE : (⟨(Nt.fm (Nt.nv e)).toArray⟩ : ByteArray) = TE) (hDN : Nt.dig (Nt.nv n) = DN) (hDE : Nt.dig (Nt.nv e) = DE) (hc1 : TN = n) (hc2 : TE = e) (hc3 : Nt.nv n % 2 = 1) (hc4 : Nt.nv e % 2 = 1) (hc5 : 512 ≤ DN) (hc6 : ¬ DN ≤ 2048) :
    Calls Tryz.prog 39 #[.agg #[.string n,.string e]] w fun r w' => r = .returned (.bool false) ∧ Below w.heap.size w w' := by
  have CN : ∀ W an kn cn,Rn.Num W an kn cn (Nt.nv n) → kn ≤ 1000000 := fun W an kn cn h => Nat.le_trans (h.bytes 2000 n.size (Nt.nv_lt n) (by omega)) (by decide)
  have CE : ∀ W an kn cn,Rn.Num W an kn cn (Nt.nv e) → kn ≤ 1000000 := fun W an kn cn h => Nat.le_trans (h.bytes 2000 e.size (Nt.nv_lt e) (by omega)) (by decide)
  have FN : ∀ W an kn cn,Rn.Num W an kn cn (Nt.nv n) → Calls Tryz.prog 67 #[.slice an kn cn] W fun r w' => r = .returned (.string TN) ∧ Below W.heap.size W w' := fun W an kn cn h => by
    have := Rn.Form_any W an kn cn _ h (CN W an kn cn h)
    rw [hTN] at this
    exact this
  have FE : ∀ W an kn cn,Rn.Num W an kn cn (Nt.nv e) → Calls Tryz.prog 67 #[.slice an kn cn] W fun r w' => r = .returned (.string TE) ∧ Below W.heap.size W w' := fun W an kn cn h => by
    have := Rn.Form_any W an kn cn _ h (CE W an kn cn h)
    rw [hTE] at this
    exact this
  have BN : ∀ W an kn cn,Rn.Num W an kn cn (Nt.nv n) → Calls Tryz.prog 23 #[.slice an kn cn] W fun r w' => r = .returned (.int .i64 (DN : Int)) ∧ w' = W := fun W an kn cn h => by
    have := Rn.Bits_any W an kn cn _ h (CN W an kn cn h)
    rw [hDN] at this
    exact this
  have BE : ∀ W an kn cn,Rn.Num W an kn cn (Nt.nv e) → Calls Tryz.prog 23 #[.slice an kn cn] W fun r w' => r = .returned (.int .i64 (DE : Int)) ∧ w' = W := fun W an kn cn h => by
    have := Rn.Bits_any W an kn cn _ h (CE W an kn cn h)
    rw [hDE] at this
    exact this
  have LN : ∀ W an kn cn,Rn.Num W an kn cn (Nt.nv n) → Calls Tryz.prog 44 #[.slice an kn cn,.int .i64 0] W fun r w' => r = .returned (.int .u64 1) ∧ w' = W := fun W an kn cn h => by
    have := Rn.Bit_low W an kn cn _ h (CN W an kn cn h)
    rw [hc3] at this
    exact this
  have LE : ∀ W an kn cn,Rn.Num W an kn cn (Nt.nv e) → Calls Tryz.prog 44 #[.slice an kn cn,.int .i64 0] W fun r w' => r = .returned (.int .u64 1) ∧ w' = W := fun W an kn cn h => by
    have := Rn.Bit_low W an kn cn _ h (CE W an kn cn h)
    rw [hc4] at this
    exact this
  have HZ := Lib.hid (And.intro hn he)
  have FN := Lib.hid FN
  have FE := Lib.hid FE
  have BN := Lib.hid BN
  have BE := Lib.hid BE
  have hq5 := hc5
  clear hq5
  have LN := Lib.hid LN
  have LE := Lib.hid LE
  subst hc1
  subst hc2
  have z5 : 512 ≤ (DN : Int) := by omega
  have z6 : decide ((DN : Int) ≤ 2048) = false := decide_eq_false (by omega)
  clear CN CE hTN hTE hDN hDE hn he
  have S0 : Rs.BoxS w w.heap.size TN TE (w.alloc (Obj.cells #[.string TN,.string TE] 25)) := ⟨by simp,by simp,(Below.refl _ _).alloc (Nat.le_refl _) _⟩
  have HS0 := Lib.hid S0
  clear S0
  go_enter Tryz.func39,Tryz.ntmps39
  go_wp2_with fail
  have S0 := HS0.out
  clear HS0
  revert S0
  generalize w.alloc (Obj.cells #[.string TN,.string TE] 25) = w1
  intro S0
  refine wp_region_held_drew (S := fun W => Rs.BoxS w w.heap.size TN TE W) (by kernel_rfl) (S0.below (below_drewN (Below.refl _ _) 1)) (fun hHeld0 => ?_)
  clear S0
  refine wpAnyH_take (i := 0) (oi := ⟨_,_,_,_,_,_⟩) (v := ?vg7_1) rfl (by kernel_rfl) (by kernel_rfl) (by kernel_rfl) (fun _ _ _ h => h) (Or.inl ⟨by rfl,?hyg7_1⟩) (by assumption) ?restg7_1
  case hyg7_1 => (intro W hW; go_simp; try with_reducible rfl)
  try simp only [Act.put,List.setIfInBounds_toArray,List.set_cons_zero,List.set_cons_succ]
  refine wpAnyH_take (i := 1) (oi := ⟨_,_,_,_,_,_⟩) (v := .string TN) rfl (by kernel_rfl) (by kernel_rfl) (by kernel_rfl) (fun _ _ _ h => h) (Or.inl ⟨by rfl,fun W hW => (by have c0 := hW.c0; go_simp)⟩) (by assumption) ?restg7_2
  try simp only [Act.put,List.setIfInBounds_toArray,List.set_cons_zero,List.set_cons_succ]
  refine wpAnyH_take (i := 3) (oi := ⟨_,_,_,_,_,_⟩) (v := ?vg7_3) rfl (by kernel_rfl) (by kernel_rfl) (by kernel_rfl) (fun _ _ _ h => h) (Or.inl ⟨by rfl,?hyg7_3⟩) (by assumption) ?restg7_3
  case hyg7_3 => (intro W hW; go_simp; try with_reducible rfl)
  try simp only [Act.put,List.setIfInBounds_toArray,List.set_cons_zero,List.set_cons_succ]
  refine wpAnyH_take (i := 4) (oi := ⟨_,_,_,_,_,_⟩) (v := .string TE) rfl (by kernel_rfl) (by kernel_rfl) (by kernel_rfl) (fun _ _ _ h => h) (Or.inl ⟨by rfl,fun W hW => (by have c1 := hW.c1; go_simp)⟩) (by assumption) ?restg7_4
  try simp only [Act.put,List.setIfInBounds_toArray,List.set_cons_zero,List.set_cons_succ]
  refine wpAnyH_ready (rs := [2]) (by kernel_rfl) (by simp) ?_
  refine AllReadyH.cons (o := ⟨_,_,_,_,_,_⟩) rfl (fun K hK => ?_) AllReadyH.nil
  go_simp
  refine Calls.mono (Rn.Of_any _ TN (Nat.le_trans HZ.out.1 (by decide))) ?_
  rintro e2 w2 ⟨an,kn,cn,rfl,hN,b2⟩
  have S2 := hHeld0.below b2
  go_wp2_with fail
  refine hK.out _ _ (S2) (fun hHeld1 => ?_)
  clear hK K hHeld0
  try simp only [Act.put,List.setIfInBounds_toArray,List.set_cons_zero,List.set_cons_succ]
  refine wpAnyH_ready (rs := [5]) (by kernel_rfl) (by simp) ?_
  refine AllReadyH.cons (o := ⟨_,_,_,_,_,_⟩) rfl (fun K hK => ?_) AllReadyH.nil
  go_simp
  refine Calls.mono (Rn.Of_any _ TE (Nat.le_trans HZ.out.2 (by decide))) ?_
  rintro e3 w3 ⟨ae,ke,ce,rfl,hE,b3⟩
  have S3 := S2.below b3
  have T0 : Rs.KeyS w w.heap.size TN TE an kn cn ae ke ce w3 := ⟨S3.c0,S3.c1,hN.below b3,hE,S3.bel⟩
  go_wp2_with fail
  refine hK.out _ _ (S3) (fun hHeld2 => ?_)
  clear hK K hHeld1
  try simp only [Act.put,List.setIfInBounds_toArray,List.set_cons_zero,List.set_cons_succ]
  refine wpAnyH_take (i := 6) (oi := ⟨_,_,_,_,_,_⟩) (v := ?vg7_5) rfl (by kernel_rfl) (by kernel_rfl) (by kernel_rfl) (fun _ _ _ h => h) (Or.inl ⟨by rfl,?hyg7_5⟩) (by assumption) ?restg7_5
  case hyg7_5 => (intro W hW; go_simp; try with_reducible rfl)
  try simp only [Act.put,List.setIfInBounds_toArray,List.set_cons_zero,List.set_cons_succ]
  refine wpAnyH_take (i := 7) (oi := ⟨_,_,_,_,_,_⟩) (v := ?vg7_6) rfl (by kernel_rfl) (by kernel_rfl) (by kernel_rfl) (fun _ _ _ h => h) (Or.inl ⟨by rfl,?hyg7_6⟩) (by assumption) ?restg7_6
  case hyg7_6 => (intro W hW; go_simp; try with_reducible rfl)
  try simp only [Act.put,List.setIfInBounds_toArray,List.set_cons_zero,List.set_cons_succ]
  refine wpAnyH_done (by kernel_rfl) ?_ _
  clear S2 S3 hHeld2 hN hE b2 b3
  go_wp2_with fail
  refine wp_region_held_drew (S := fun W => Rs.KeyS w w.heap.size TN TE an kn cn ae ke ce W) (by kernel_rfl) (T0.below (below_drewN (Below.refl _ _) 1)) (fun hHeld0 => ?_)
  clear T0
  refine wpAnyH_take (i := 0) (oi := ⟨_,_,_,_,_,_⟩) (v := ?vg7_7) rfl (by kernel_rfl) (by kernel_rfl) (by kernel_rfl) (fun _ _ _ h => h) (Or.inl ⟨by rfl,?hyg7_7⟩) (by assumption) ?restg7_7
  case hyg7_7 => (intro W hW; go_simp; try with_reducible rfl)
  try simp only [Act.put,List.setIfInBounds_toArray,List.set_cons_zero,List.set_cons_succ]
  refine wpAnyH_take (i := 2) (oi := ⟨_,_,_,_,_,_⟩) (v := ?vg7_8) rfl (by kernel_rfl) (by kernel_rfl) (by kernel_rfl) (fun _ _ _ h => h) (Or.inl ⟨by rfl,?hyg7_8⟩) (by assumption) ?restg7_8
  case hyg7_8 => (intro W hW; go_simp; try with_reducible rfl)
  try simp only [Act.put,List.setIfInBounds_toArray,List.set_cons_zero,List.set_cons_succ]
  refine wpAnyH_take (i := 3) (oi := ⟨_,_,_,_,_,_⟩) (v := .string TN) rfl (by kernel_rfl) (by kernel_rfl) (by kernel_rfl) (fun _ _ _ h => h) (Or.inl ⟨by rfl,fun W hW => (by have c0 := hW.c0; go_simp)⟩) (by assumption) ?restg7_9
  try simp only [Act.put,List.setIfInBounds_toArray,List.set_cons_zero,List.set_cons_succ]
  refine wpAnyH_ready (rs := [1]) (by kernel_rfl) (by simp) ?_
  refine AllReadyH.cons (o := ⟨_,_,_,_,_,_⟩) rfl (fun K hK => ?_) AllReadyH.nil
  go_simp
  refine Calls.mono (FN.out _ _ _ _ hHeld0.n) ?_
  rintro r w4 ⟨rfl,b4⟩
  have T1 := hHeld0.below b4
  clear b4
  go_wp2_with fail
  refine hK.out _ _ (T1) (fun hHeld1 => ?_)
  clear hK K hHeld0
  try simp only [Act.put,List.setIfInBounds_toArray,List.set_cons_zero,List.set_cons_succ]
  refine wpAnyH_take (i := 4) (oi := ⟨_,_,_,_,_,_⟩) (v := ?vg7_10) rfl (by kernel_rfl) (by kernel_rfl) (by kernel_rfl) (fun _ _ _ h => h) (Or.inl ⟨by rfl,?hyg7_10⟩) (by assumption) ?restg7_10
  case hyg7_10 => (intro W hW; go_simp; try with_reducible rfl)
  try simp only [Act.put,List.setIfInBounds_toArray,List.set_cons_zero,List.set_cons_succ]
  refine wpAnyH_take (i := 5) (oi := ⟨_,_,_,_,_,_⟩) (v := ?vg7_11) rfl (by kernel_rfl) (by kernel_rfl) (by kernel_rfl) (fun _ _ _ h => h) (Or.inl ⟨by rfl,?hyg7_11⟩) (by assumption) ?restg7_11
  case hyg7_11 => (intro W hW; go_simp; try with_reducible rfl)
  try simp only [Act.put,List.setIfInBounds_toArray,List.set_cons_zero,List.set_cons_succ]
  refine wpAnyH_take (i := 6) (oi := ⟨_,_,_,_,_,_⟩) (v := ?vg7_12) rfl (by kernel_rfl) (by kernel_rfl) (by kernel_rfl) (fun _ _ _ h => h) (Or.inl ⟨by rfl,?hyg7_12⟩) (by assumption) ?restg7_12
  case hyg7_12 => (intro W hW; go_simp; try with_reducible rfl)
  try simp only [Act.put,List.setIfInBounds_toArray,List.set_cons_zero,List.set_cons_succ]
  refine wpAnyH_take (i := 8) (oi := ⟨_,_,_,_,_,_⟩) (v := ?vg7_13) rfl (by kernel_rfl) (by kernel_rfl) (by kernel_rfl) (fun _ _ _ h => h) (Or.inl ⟨by rfl,?hyg7_13⟩) (by assumption) ?restg7_13
  case hyg7_13 => (intro W hW; go_simp; try with_reducible rfl)
  try simp only [Act.put,List.setIfInBounds_toArray,List.set_cons_zero,List.set_cons_succ]
  refine wpAnyH_take (i := 9) (oi := ⟨_,_,_,_,_,_⟩) (v := .string TE) rfl (by kernel_rfl) (by kernel_rfl) (by kernel_rfl) (fun _ _ _ h => h) (Or.inl ⟨by rfl,fun W hW => (by have c1 := hW.c1; go_simp)⟩) (by assumption) ?restg7_14
  try simp only [Act.put,List.setIfInBounds_toArray,List.set_cons_zero,List.set_cons_succ]
  refine wpAnyH_ready (rs := [7]) (by kernel_rfl) (by simp) ?_
  refine AllReadyH.cons (o := ⟨_,_,_,_,_,_⟩) rfl (fun K hK => ?_) AllReadyH.nil
  go_simp
  refine Calls.mono (FE.out _ _ _ _ hHeld1.e) ?_
  rintro r w5 ⟨rfl,b5⟩
  have T2 := hHeld1.below b5
  clear b5
  go_wp2_with fail
  refine hK.out _ _ (T2) (fun hHeld2 => ?_)
  clear hK K hHeld1
  try simp only [Act.put,List.setIfInBounds_toArray,List.set_cons_zero,List.set_cons_succ]
  refine wpAnyH_take (i := 10) (oi := ⟨_,_,_,_,_,_⟩) (v := ?vg7_15) rfl (by kernel_rfl) (by kernel_rfl) (by kernel_rfl) (fun _ _ _ h => h) (Or.inl ⟨by rfl,?hyg7_15⟩) (by assumption) ?restg7_15
  case hyg7_15 => (intro W hW; go_simp; try with_reducible rfl)
  try simp only [Act.put,List.setIfInBounds_toArray,List.set_cons_zero,List.set_cons_succ]
  refine wpAnyH_take (i := 11) (oi := ⟨_,_,_,_,_,_⟩) (v := ?vg7_16) rfl (by kernel_rfl) (by kernel_rfl) (by kernel_rfl) (fun _ _ _ h => h) (Or.inl ⟨by rfl,?hyg7_16⟩) (by assumption) ?restg7_16
  case hyg7_16 => (intro W hW; go_simp; try with_reducible rfl)
  try simp only [Act.put,List.setIfInBounds_toArray,List.set_cons_zero,List.set_cons_succ]
  refine wpAnyH_take (i := 12) (oi := ⟨_,_,_,_,_,_⟩) (v := ?vg7_17) rfl (by kernel_rfl) (by kernel_rfl) (by kernel_rfl) (fun _ _ _ h => h) (Or.inl ⟨by rfl,?hyg7_17⟩) (by assumption) ?restg7_17
  case hyg7_17 => (intro W hW; go_simp; try with_reducible rfl)
  try simp only [Act.put,List.setIfInBounds_toArray,List.set_cons_zero,List.set_cons_succ]
  refine wpAnyH_take (i := 13) (oi := ⟨_,_,_,_,_,_⟩) (v := ?vg7_18) rfl (by kernel_rfl) (by kernel_rfl) (by kernel_rfl) (fun _ _ _ h => h) (Or.inl ⟨by rfl,?hyg7_18⟩) (by assumption) ?restg7_18
  case hyg7_18 => (intro W hW; go_simp; try with_reducible rfl)
  try simp only [Act.put,List.setIfInBounds_toArray,List.set_cons_zero,List.set_cons_succ]
  refine wpAnyH_ready (rs := [14]) (by kernel_rfl) (by simp) ?_
  refine AllReadyH.cons (o := ⟨_,_,_,_,_,_⟩) rfl (fun K hK => ?_) AllReadyH.nil
  go_simp
  refine Calls.mono (LN.out _ _ _ _ hHeld2.n) ?_
  rintro r wz ⟨rfl,rfl⟩
  go_wp2_with fail
  refine hK.out _ _ (hHeld2) (fun hHeld3 => ?_)
  clear hK K hHeld2
  try simp only [Act.put,List.setIfInBounds_toArray,List.set_cons_zero,List.set_cons_succ]
  refine wpAnyH_take (i := 15) (oi := ⟨_,_,_,_,_,_⟩) (v := ?vg7_19) rfl (by kernel_rfl) (by kernel_rfl) (by kernel_rfl) (fun _ _ _ h => h) (Or.inl ⟨by rfl,?hyg7_19⟩) (by assumption) ?restg7_19
  case hyg7_19 => (intro W hW; go_simp; try with_reducible rfl)
  try simp only [Act.put,List.setIfInBounds_toArray,List.set_cons_zero,List.set_cons_succ]
  refine wpAnyH_take (i := 16) (oi := ⟨_,_,_,_,_,_⟩) (v := ?vg7_20) rfl (by kernel_rfl) (by kernel_rfl) (by kernel_rfl) (fun _ _ _ h => h) (Or.inl ⟨by rfl,?hyg7_20⟩) (by assumption) ?restg7_20
  case hyg7_20 => (intro W hW; go_simp; try with_reducible rfl)
  try simp only [Act.put,List.setIfInBounds_toArray,List.set_cons_zero,List.set_cons_succ]
  refine wpAnyH_take (i := 17) (oi := ⟨_,_,_,_,_,_⟩) (v := ?vg7_21) rfl (by kernel_rfl) (by kernel_rfl) (by kernel_rfl) (fun _ _ _ h => h) (Or.inl ⟨by rfl,?hyg7_21⟩) (by assumption) ?restg7_21
  case hyg7_21 => (intro W hW; go_simp; try with_reducible rfl)
  try simp only [Act.put,List.setIfInBounds_toArray,List.set_cons_zero,List.set_cons_succ]
  refine wpAnyH_take (i := 18) (oi := ⟨_,_,_,_,_,_⟩) (v := ?vg7_22) rfl (by kernel_rfl) (by kernel_rfl) (by kernel_rfl) (fun _ _ _ h => h) (Or.inl ⟨by rfl,?hyg7_22⟩) (by assumption) ?restg7_22
  case hyg7_22 => (intro W hW; go_simp; try with_reducible rfl)
  try simp only [Act.put,List.setIfInBounds_toArray,List.set_cons_zero,List.set_cons_succ]
  refine wpAnyH_ready (rs := [19]) (by kernel_rfl) (by simp) ?_
  refine AllReadyH.cons (o := ⟨_,_,_,_,_,_⟩) rfl (fun K hK => ?_) AllReadyH.nil
  go_simp
  refine Calls.mono (LE.out _ _ _ _ hHeld3.e) ?_
  rintro r wz ⟨rfl,rfl⟩
  go_wp2_with fail
  refine hK.out _ _ (hHeld3) (fun hHeld4 => ?_)
  clear hK K hHeld3
  try simp only [Act.put,List.setIfInBounds_toArray,List.set_cons_zero,List.set_cons_succ]
  refine wpAnyH_take (i := 20) (oi := ⟨_,_,_,_,_,_⟩) (v := ?vg7_23) rfl (by kernel_rfl) (by kernel_rfl) (by kernel_rfl) (fun _ _ _ h => h) (Or.inl ⟨by rfl,?hyg7_23⟩) (by assumption) ?restg7_23
  case hyg7_23 => (intro W hW; go_simp; try with_reducible rfl)
  try simp only [Act.put,List.setIfInBounds_toArray,List.set_cons_zero,List.set_cons_succ]
  refine wpAnyH_take (i := 21) (oi := ⟨_,_,_,_,_,_⟩) (v := ?vg7_24) rfl (by kernel_rfl) (by kernel_rfl) (by kernel_rfl) (fun _ _ _ h => h) (Or.inl ⟨by rfl,?hyg7_24⟩) (by assumption) ?restg7_24
  case hyg7_24 => (intro W hW; go_simp; try with_reducible rfl)
  try simp only [Act.put,List.setIfInBounds_toArray,List.set_cons_zero,List.set_cons_succ]
  refine wpAnyH_take (i := 22) (oi := ⟨_,_,_,_,_,_⟩) (v := ?vg7_25) rfl (by kernel_rfl) (by kernel_rfl) (by kernel_rfl) (fun _ _ _ h => h) (Or.inl ⟨by rfl,?hyg7_25⟩) (by assumption) ?restg7_25
  case hyg7_25 => (intro W hW; go_simp; try with_reducible rfl)
  try simp only [Act.put,List.setIfInBounds_toArray,List.set_cons_zero,List.set_cons_succ]
  refine wpAnyH_take (i := 23) (oi := ⟨_,_,_,_,_,_⟩) (v := ?vg7_26) rfl (by kernel_rfl) (by kernel_rfl) (by kernel_rfl) (fun _ _ _ h => h) (Or.inl ⟨by rfl,?hyg7_26⟩) (by assumption) ?restg7_26
  case hyg7_26 => (intro W hW; go_simp; try with_reducible rfl)
  try simp only [Act.put,List.setIfInBounds_toArray,List.set_cons_zero,List.set_cons_succ]
  refine wpAnyH_ready (rs := [24]) (by kernel_rfl) (by simp) ?_
  refine AllReadyH.cons (o := ⟨_,_,_,_,_,_⟩) rfl (fun K hK => ?_) AllReadyH.nil
  go_simp
  refine Calls.mono (BN.out _ _ _ _ hHeld4.n) ?_
  rintro r wz ⟨rfl,rfl⟩
  go_wp2_with fail
  refine hK.out _ _ (hHeld4) (fun hHeld5 => ?_)
  clear hK K hHeld4
  try simp only [Act.put,List.setIfInBounds_toArray,List.set_cons_zero,List.set_cons_succ]
  refine wpAnyH_take (i := 25) (oi := ⟨_,_,_,_,_,_⟩) (v := ?vg7_27) rfl (by kernel_rfl) (by kernel_rfl) (by kernel_rfl) (fun _ _ _ h => h) (Or.inl ⟨by rfl,?hyg7_27⟩) (by assumption) ?restg7_27
  case hyg7_27 => (intro W hW; go_simp; try with_reducible rfl)
  try simp only [Act.put,List.setIfInBounds_toArray,List.set_cons_zero,List.set_cons_succ]
  refine wpAnyH_take (i := 26) (oi := ⟨_,_,_,_,_,_⟩) (v := ?vg7_28) rfl (by kernel_rfl) (by kernel_rfl) (by kernel_rfl) (fun _ _ _ h => h) (Or.inl ⟨by rfl,?hyg7_28⟩) (by assumption) ?restg7_28
  case hyg7_28 => (intro W hW; go_simp; try with_reducible rfl)
  try simp only [Act.put,List.setIfInBounds_toArray,List.set_cons_zero,List.set_cons_succ]
  refine wpAnyH_take (i := 27) (oi := ⟨_,_,_,_,_,_⟩) (v := ?vg7_29) rfl (by kernel_rfl) (by kernel_rfl) (by kernel_rfl) (fun _ _ _ h => h) (Or.inl ⟨by rfl,?hyg7_29⟩) (by assumption) ?restg7_29
  case hyg7_29 => (intro W hW; go_simp; try with_reducible rfl)
  try simp only [Act.put,List.setIfInBounds_toArray,List.set_cons_zero,List.set_cons_succ]
  refine wpAnyH_take (i := 28) (oi := ⟨_,_,_,_,_,_⟩) (v := ?vg7_30) rfl (by kernel_rfl) (by kernel_rfl) (by kernel_rfl) (fun _ _ _ h => h) (Or.inl ⟨by rfl,?hyg7_30⟩) (by assumption) ?restg7_30
  case hyg7_30 => (intro W hW; go_simp; try with_reducible rfl)
  try simp only [Act.put,List.setIfInBounds_toArray,List.set_cons_zero,List.set_cons_succ]
  refine wpAnyH_ready (rs := [29]) (by kernel_rfl) (by simp) ?_
  refine AllReadyH.cons (o := ⟨_,_,_,_,_,_⟩) rfl (fun K hK => ?_) AllReadyH.nil
  go_simp
  refine Calls.mono (BN.out _ _ _ _ hHeld5.n) ?_
  rintro r wz ⟨rfl,rfl⟩
  go_wp2_with fail
  refine hK.out _ _ (hHeld5) (fun hHeld6 => ?_)
  clear hK K hHeld5
  try simp only [Act.put,List.setIfInBounds_toArray,List.set_cons_zero,List.set_cons_succ]
  refine wpAnyH_take (i := 30) (oi := ⟨_,_,_,_,_,_⟩) (v := ?vg7_31) rfl (by kernel_rfl) (by kernel_rfl) (by kernel_rfl) (fun _ _ _ h => h) (Or.inl ⟨by rfl,?hyg7_31⟩) (by assumption) ?restg7_31
  case hyg7_31 => (intro W hW; go_simp; try with_reducible rfl)
  try simp only [Act.put,List.setIfInBounds_toArray,List.set_cons_zero,List.set_cons_succ]
  refine wpAnyH_take (i := 31) (oi := ⟨_,_,_,_,_,_⟩) (v := ?vg7_32) rfl (by kernel_rfl) (by kernel_rfl) (by kernel_rfl) (fun _ _ _ h => h) (Or.inl ⟨by rfl,?hyg7_32⟩) (by assumption) ?restg7_32
  case hyg7_32 => (intro W hW; go_simp; try with_reducible rfl)
  try simp only [Act.put,List.setIfInBounds_toArray,List.set_cons_zero,List.set_cons_succ]
  refine wpAnyH_take (i := 32) (oi := ⟨_,_,_,_,_,_⟩) (v := ?vg7_33) rfl (by kernel_rfl) (by kernel_rfl) (by kernel_rfl) (fun _ _ _ h => h) (Or.inl ⟨by rfl,?hyg7_33⟩) (by assumption) ?restg7_33
  case hyg7_33 => (intro W hW; go_simp; try with_reducible rfl)
  try simp only [Act.put,List.setIfInBounds_toArray,List.set_cons_zero,List.set_cons_succ]
  refine wpAnyH_take (i := 33) (oi := ⟨_,_,_,_,_,_⟩) (v := undef) rfl (by kernel_rfl) (by kernel_rfl) (by kernel_rfl) (fun _ _ _ h => h) (Or.inr ⟨by rfl,rfl⟩) (by assumption) ?restg7_34
  try simp only [Act.put,List.setIfInBounds_toArray,List.set_cons_zero,List.set_cons_succ]
  refine wpAnyH_take (i := 34) (oi := ⟨_,_,_,_,_,_⟩) (v := undef) rfl (by kernel_rfl) (by kernel_rfl) (by kernel_rfl) (fun _ _ _ h => h) (Or.inr ⟨by rfl,rfl⟩) (by assumption) ?restg7_35
  try simp only [Act.put,List.setIfInBounds_toArray,List.set_cons_zero,List.set_cons_succ]
  refine wpAnyH_take (i := 35) (oi := ⟨_,_,_,_,_,_⟩) (v := undef) rfl (by kernel_rfl) (by kernel_rfl) (by kernel_rfl) (fun _ _ _ h => h) (Or.inr ⟨by rfl,rfl⟩) (by assumption) ?restg7_36
  try simp only [Act.put,List.setIfInBounds_toArray,List.set_cons_zero,List.set_cons_succ]
  refine wpAnyH_take (i := 36) (oi := ⟨_,_,_,_,_,_⟩) (v := undef) rfl (by kernel_rfl) (by kernel_rfl) (by kernel_rfl) (fun _ _ _ h => h) (Or.inr ⟨by rfl,rfl⟩) (by assumption) ?restg7_37
  try simp only [Act.put,List.setIfInBounds_toArray,List.set_cons_zero,List.set_cons_succ]
  refine wpAnyH_take (i := 37) (oi := ⟨_,_,_,_,_,_⟩) (v := ?vg7_38) rfl (by kernel_rfl) (by kernel_rfl) (by kernel_rfl) (fun _ _ _ h => h) (Or.inl ⟨by rfl,?hyg7_38⟩) (by assumption) ?restg7_38
  case hyg7_38 => (intro W hW; go_simp; try with_reducible rfl)
  try simp only [Act.put,List.setIfInBounds_toArray,List.set_cons_zero,List.set_cons_succ]
  refine wpAnyH_take (i := 38) (oi := ⟨_,_,_,_,_,_⟩) (v := ?vg7_39) rfl (by kernel_rfl) (by kernel_rfl) (by kernel_rfl) (fun _ _ _ h => h) (Or.inl ⟨by rfl,?hyg7_39⟩) (by assumption) ?restg7_39
  case hyg7_39 => (intro W hW; go_simp; try with_reducible rfl)
  try simp only [Act.put,List.setIfInBounds_toArray,List.set_cons_zero,List.set_cons_succ]
  refine wpAnyH_take (i := 39) (oi := ⟨_,_,_,_,_,_⟩) (v := undef) rfl (by kernel_rfl) (by kernel_rfl) (by kernel_rfl) (fun _ _ _ h => h) (Or.inr ⟨by rfl,rfl⟩) (by assumption) ?restg7_40
  try simp only [Act.put,List.setIfInBounds_toArray,List.set_cons_zero,List.set_cons_succ]
  refine wpAnyH_take (i := 40) (oi := ⟨_,_,_,_,_,_⟩) (v := undef) rfl (by kernel_rfl) (by kernel_rfl) (by kernel_rfl) (fun _ _ _ h => h) (Or.inr ⟨by rfl,rfl⟩) (by assumption) ?restg7_41
  try simp only [Act.put,List.setIfInBounds_toArray,List.set_cons_zero,List.set_cons_succ]
  refine wpAnyH_take (i := 41) (oi := ⟨_,_,_,_,_,_⟩) (v := undef) rfl (by kernel_rfl) (by kernel_rfl) (by kernel_rfl) (fun _ _ _ h => h) (Or.inr ⟨by rfl,rfl⟩) (by assumption) ?restg7_42
  try simp only [Act.put,List.setIfInBounds_toArray,List.set_cons_zero,List.set_cons_succ]
  refine wpAnyH_take (i := 42) (oi := ⟨_,_,_,_,_,_⟩) (v := ?vg7_43) rfl (by kernel_rfl) (by kernel_rfl) (by kernel_rfl) (fun _ _ _ h => h) (Or.inl ⟨by rfl,?hyg7_43⟩) (by assumption) ?restg7_43
  case hyg7_43 => (intro W hW; go_simp; try with_reducible rfl)
  try simp only [Act.put,List.setIfInBounds_toArray,List.set_cons_zero,List.set_cons_succ]
  refine wpAnyH_take (i := 43) (oi := ⟨_,_,_,_,_,_⟩) (v := ?vg7_44) rfl (by kernel_rfl) (by kernel_rfl) (by kernel_rfl) (fun _ _ _ h => h) (Or.inl ⟨by rfl,?hyg7_44⟩) (by assumption) ?restg7_44
  case hyg7_44 => (intro W hW; go_simp; try with_reducible rfl)
  try simp only [Act.put,List.setIfInBounds_toArray,List.set_cons_zero,List.set_cons_succ]
  refine wpAnyH_done (by kernel_rfl) ?_ _
  have HB := Lib.hid hHeld6.bel
  go_wp2_with fail
  go_ret
  exact ⟨rfl,HB.out⟩
set_option maxHeartbeats 4000000 in
set_option maxRecDepth 100000 in
theorem Rs.RCheck_7 (w : World) (n e TN TE : ByteArray) (DN DE : Nat) (hn : n.size ≤ 4000) (he : e.size ≤ 4000) (hTN : (⟨(Nt.fm (Nt.nv n)).toArray⟩ : ByteArray) = TN) (hTE : (⟨(Nt.fm (Nt.nv e)).toArray⟩ : ByteArray) = TE) (hDN : Nt.dig (Nt.nv n) = DN) (hDE : Nt.dig (Nt.nv e) = DE) (hc1 : TN = n) (hc2 : TE = e) (hc3 : Nt.nv n % 2 = 1) (hc4 : Nt.nv e % 2 = 1) (hc5 : 512 ≤ DN) (hc6 : DN ≤ 2048) (hc7 : ¬ 3 ≤ Nt.nv e) :
    Calls Tryz.prog 39 #[.agg #[.string n,.string e]] w fun r w' => r = .returned (.bool false) ∧ Below w.heap.size w w' := by
  have CN : ∀ W an kn cn,Rn.Num W an kn cn (Nt.nv n) → kn ≤ 1000000 := fun W an kn cn h => Nat.le_trans (h.bytes 2000 n.size (Nt.nv_lt n) (by omega)) (by decide)
  have CE : ∀ W an kn cn,Rn.Num W an kn cn (Nt.nv e) → kn ≤ 1000000 := fun W an kn cn h => Nat.le_trans (h.bytes 2000 e.size (Nt.nv_lt e) (by omega)) (by decide)
  have FN : ∀ W an kn cn,Rn.Num W an kn cn (Nt.nv n) → Calls Tryz.prog 67 #[.slice an kn cn] W fun r w' => r = .returned (.string TN) ∧ Below W.heap.size W w' := fun W an kn cn h => by
    have := Rn.Form_any W an kn cn _ h (CN W an kn cn h)
    rw [hTN] at this
    exact this
  have FE : ∀ W an kn cn,Rn.Num W an kn cn (Nt.nv e) → Calls Tryz.prog 67 #[.slice an kn cn] W fun r w' => r = .returned (.string TE) ∧ Below W.heap.size W w' := fun W an kn cn h => by
    have := Rn.Form_any W an kn cn _ h (CE W an kn cn h)
    rw [hTE] at this
    exact this
  have BN : ∀ W an kn cn,Rn.Num W an kn cn (Nt.nv n) → Calls Tryz.prog 23 #[.slice an kn cn] W fun r w' => r = .returned (.int .i64 (DN : Int)) ∧ w' = W := fun W an kn cn h => by
    have := Rn.Bits_any W an kn cn _ h (CN W an kn cn h)
    rw [hDN] at this
    exact this
  have BE : ∀ W an kn cn,Rn.Num W an kn cn (Nt.nv e) → Calls Tryz.prog 23 #[.slice an kn cn] W fun r w' => r = .returned (.int .i64 (DE : Int)) ∧ w' = W := fun W an kn cn h => by
    have := Rn.Bits_any W an kn cn _ h (CE W an kn cn h)
    rw [hDE] at this
    exact this
  have LN : ∀ W an kn cn,Rn.Num W an kn cn (Nt.nv n) → Calls Tryz.prog 44 #[.slice an kn cn,.int .i64 0] W fun r w' => r = .returned (.int .u64 1) ∧ w' = W := fun W an kn cn h => by
    have := Rn.Bit_low W an kn cn _ h (CN W an kn cn h)
    rw [hc3] at this
    exact this
  have LE : ∀ W an kn cn,Rn.Num W an kn cn (Nt.nv e) → Calls Tryz.prog 44 #[.slice an kn cn,.int .i64 0] W fun r w' => r = .returned (.int .u64 1) ∧ w' = W := fun W an kn cn h => by
    have := Rn.Bit_low W an kn cn _ h (CE W an kn cn h)
    rw [hc4] at this
    exact this
  have M3 : ∀ W an kn cn av,Rn.Num W an kn cn (Nt.nv e) → Rn.Num W av 1 1 3 → ∃ r : Int,(decide (0 ≤ r) = false) ∧ Calls Tryz.prog 40 #[.slice an kn cn,.slice av 1 1] W fun x w' => x = .returned (.int .i64 r) ∧ ∃ k,w' = W.drewN k := fun W an kn cn av h g => by
    refine ⟨_,?_,Rn.Cmp_any W an av kn cn _ 1 1 3 h g (CE W an kn cn h) (by decide)⟩
    unfold Nt.cmp
    rw [if_pos (by omega)]; decide
  have HZ := Lib.hid (And.intro hn he)
  have FN := Lib.hid FN
  have FE := Lib.hid FE
  have BN := Lib.hid BN
  have BE := Lib.hid BE
  have LN := Lib.hid LN
  have LE := Lib.hid LE
  have M3 := Lib.hid M3
  subst hc1
  subst hc2
  have z5 : 512 ≤ (DN : Int) := by omega
  have z6 : (DN : Int) ≤ 2048 := by omega
  clear CN CE hTN hTE hDN hDE hn he
  have S0 : Rs.BoxS w w.heap.size TN TE (w.alloc (Obj.cells #[.string TN,.string TE] 25)) := ⟨by simp,by simp,(Below.refl _ _).alloc (Nat.le_refl _) _⟩
  have HS0 := Lib.hid S0
  clear S0
  go_enter Tryz.func39,Tryz.ntmps39
  go_wp2_with fail
  have S0 := HS0.out
  clear HS0
  revert S0
  generalize w.alloc (Obj.cells #[.string TN,.string TE] 25) = w1
  intro S0
  refine wp_region_held_drew (S := fun W => Rs.BoxS w w.heap.size TN TE W) (by kernel_rfl) (S0.below (below_drewN (Below.refl _ _) 1)) (fun hHeld0 => ?_)
  clear S0
  refine wpAnyH_take (i := 0) (oi := ⟨_,_,_,_,_,_⟩) (v := ?vg8_1) rfl (by kernel_rfl) (by kernel_rfl) (by kernel_rfl) (fun _ _ _ h => h) (Or.inl ⟨by rfl,?hyg8_1⟩) (by assumption) ?restg8_1
  case hyg8_1 => (intro W hW; go_simp; try with_reducible rfl)
  try simp only [Act.put,List.setIfInBounds_toArray,List.set_cons_zero,List.set_cons_succ]
  refine wpAnyH_take (i := 1) (oi := ⟨_,_,_,_,_,_⟩) (v := .string TN) rfl (by kernel_rfl) (by kernel_rfl) (by kernel_rfl) (fun _ _ _ h => h) (Or.inl ⟨by rfl,fun W hW => (by have c0 := hW.c0; go_simp)⟩) (by assumption) ?restg8_2
  try simp only [Act.put,List.setIfInBounds_toArray,List.set_cons_zero,List.set_cons_succ]
  refine wpAnyH_take (i := 3) (oi := ⟨_,_,_,_,_,_⟩) (v := ?vg8_3) rfl (by kernel_rfl) (by kernel_rfl) (by kernel_rfl) (fun _ _ _ h => h) (Or.inl ⟨by rfl,?hyg8_3⟩) (by assumption) ?restg8_3
  case hyg8_3 => (intro W hW; go_simp; try with_reducible rfl)
  try simp only [Act.put,List.setIfInBounds_toArray,List.set_cons_zero,List.set_cons_succ]
  refine wpAnyH_take (i := 4) (oi := ⟨_,_,_,_,_,_⟩) (v := .string TE) rfl (by kernel_rfl) (by kernel_rfl) (by kernel_rfl) (fun _ _ _ h => h) (Or.inl ⟨by rfl,fun W hW => (by have c1 := hW.c1; go_simp)⟩) (by assumption) ?restg8_4
  try simp only [Act.put,List.setIfInBounds_toArray,List.set_cons_zero,List.set_cons_succ]
  refine wpAnyH_ready (rs := [2]) (by kernel_rfl) (by simp) ?_
  refine AllReadyH.cons (o := ⟨_,_,_,_,_,_⟩) rfl (fun K hK => ?_) AllReadyH.nil
  go_simp
  refine Calls.mono (Rn.Of_any _ TN (Nat.le_trans HZ.out.1 (by decide))) ?_
  rintro e2 w2 ⟨an,kn,cn,rfl,hN,b2⟩
  have S2 := hHeld0.below b2
  go_wp2_with fail
  refine hK.out _ _ (S2) (fun hHeld1 => ?_)
  clear hK K hHeld0
  try simp only [Act.put,List.setIfInBounds_toArray,List.set_cons_zero,List.set_cons_succ]
  refine wpAnyH_ready (rs := [5]) (by kernel_rfl) (by simp) ?_
  refine AllReadyH.cons (o := ⟨_,_,_,_,_,_⟩) rfl (fun K hK => ?_) AllReadyH.nil
  go_simp
  refine Calls.mono (Rn.Of_any _ TE (Nat.le_trans HZ.out.2 (by decide))) ?_
  rintro e3 w3 ⟨ae,ke,ce,rfl,hE,b3⟩
  have S3 := S2.below b3
  have T0 : Rs.KeyS w w.heap.size TN TE an kn cn ae ke ce w3 := ⟨S3.c0,S3.c1,hN.below b3,hE,S3.bel⟩
  go_wp2_with fail
  refine hK.out _ _ (S3) (fun hHeld2 => ?_)
  clear hK K hHeld1
  try simp only [Act.put,List.setIfInBounds_toArray,List.set_cons_zero,List.set_cons_succ]
  refine wpAnyH_take (i := 6) (oi := ⟨_,_,_,_,_,_⟩) (v := ?vg8_5) rfl (by kernel_rfl) (by kernel_rfl) (by kernel_rfl) (fun _ _ _ h => h) (Or.inl ⟨by rfl,?hyg8_5⟩) (by assumption) ?restg8_5
  case hyg8_5 => (intro W hW; go_simp; try with_reducible rfl)
  try simp only [Act.put,List.setIfInBounds_toArray,List.set_cons_zero,List.set_cons_succ]
  refine wpAnyH_take (i := 7) (oi := ⟨_,_,_,_,_,_⟩) (v := ?vg8_6) rfl (by kernel_rfl) (by kernel_rfl) (by kernel_rfl) (fun _ _ _ h => h) (Or.inl ⟨by rfl,?hyg8_6⟩) (by assumption) ?restg8_6
  case hyg8_6 => (intro W hW; go_simp; try with_reducible rfl)
  try simp only [Act.put,List.setIfInBounds_toArray,List.set_cons_zero,List.set_cons_succ]
  refine wpAnyH_done (by kernel_rfl) ?_ _
  clear S2 S3 hHeld2 hN hE b2 b3
  go_wp2_with fail
  refine wp_region_held_drew (S := fun W => Rs.KeyS w w.heap.size TN TE an kn cn ae ke ce W) (by kernel_rfl) (T0.below (below_drewN (Below.refl _ _) 1)) (fun hHeld0 => ?_)
  clear T0
  refine wpAnyH_take (i := 0) (oi := ⟨_,_,_,_,_,_⟩) (v := ?vg8_7) rfl (by kernel_rfl) (by kernel_rfl) (by kernel_rfl) (fun _ _ _ h => h) (Or.inl ⟨by rfl,?hyg8_7⟩) (by assumption) ?restg8_7
  case hyg8_7 => (intro W hW; go_simp; try with_reducible rfl)
  try simp only [Act.put,List.setIfInBounds_toArray,List.set_cons_zero,List.set_cons_succ]
  refine wpAnyH_take (i := 2) (oi := ⟨_,_,_,_,_,_⟩) (v := ?vg8_8) rfl (by kernel_rfl) (by kernel_rfl) (by kernel_rfl) (fun _ _ _ h => h) (Or.inl ⟨by rfl,?hyg8_8⟩) (by assumption) ?restg8_8
  case hyg8_8 => (intro W hW; go_simp; try with_reducible rfl)
  try simp only [Act.put,List.setIfInBounds_toArray,List.set_cons_zero,List.set_cons_succ]
  refine wpAnyH_take (i := 3) (oi := ⟨_,_,_,_,_,_⟩) (v := .string TN) rfl (by kernel_rfl) (by kernel_rfl) (by kernel_rfl) (fun _ _ _ h => h) (Or.inl ⟨by rfl,fun W hW => (by have c0 := hW.c0; go_simp)⟩) (by assumption) ?restg8_9
  try simp only [Act.put,List.setIfInBounds_toArray,List.set_cons_zero,List.set_cons_succ]
  refine wpAnyH_ready (rs := [1]) (by kernel_rfl) (by simp) ?_
  refine AllReadyH.cons (o := ⟨_,_,_,_,_,_⟩) rfl (fun K hK => ?_) AllReadyH.nil
  go_simp
  refine Calls.mono (FN.out _ _ _ _ hHeld0.n) ?_
  rintro r w4 ⟨rfl,b4⟩
  have T1 := hHeld0.below b4
  clear b4
  go_wp2_with fail
  refine hK.out _ _ (T1) (fun hHeld1 => ?_)
  clear hK K hHeld0
  try simp only [Act.put,List.setIfInBounds_toArray,List.set_cons_zero,List.set_cons_succ]
  refine wpAnyH_take (i := 4) (oi := ⟨_,_,_,_,_,_⟩) (v := ?vg8_10) rfl (by kernel_rfl) (by kernel_rfl) (by kernel_rfl) (fun _ _ _ h => h) (Or.inl ⟨by rfl,?hyg8_10⟩) (by assumption) ?restg8_10
  case hyg8_10 => (intro W hW; go_simp; try with_reducible rfl)
  try simp only [Act.put,List.setIfInBounds_toArray,List.set_cons_zero,List.set_cons_succ]
  refine wpAnyH_take (i := 5) (oi := ⟨_,_,_,_,_,_⟩) (v := ?vg8_11) rfl (by kernel_rfl) (by kernel_rfl) (by kernel_rfl) (fun _ _ _ h => h) (Or.inl ⟨by rfl,?hyg8_11⟩) (by assumption) ?restg8_11
  case hyg8_11 => (intro W hW; go_simp; try with_reducible rfl)
  try simp only [Act.put,List.setIfInBounds_toArray,List.set_cons_zero,List.set_cons_succ]
  refine wpAnyH_take (i := 6) (oi := ⟨_,_,_,_,_,_⟩) (v := ?vg8_12) rfl (by kernel_rfl) (by kernel_rfl) (by kernel_rfl) (fun _ _ _ h => h) (Or.inl ⟨by rfl,?hyg8_12⟩) (by assumption) ?restg8_12
  case hyg8_12 => (intro W hW; go_simp; try with_reducible rfl)
  try simp only [Act.put,List.setIfInBounds_toArray,List.set_cons_zero,List.set_cons_succ]
  refine wpAnyH_take (i := 8) (oi := ⟨_,_,_,_,_,_⟩) (v := ?vg8_13) rfl (by kernel_rfl) (by kernel_rfl) (by kernel_rfl) (fun _ _ _ h => h) (Or.inl ⟨by rfl,?hyg8_13⟩) (by assumption) ?restg8_13
  case hyg8_13 => (intro W hW; go_simp; try with_reducible rfl)
  try simp only [Act.put,List.setIfInBounds_toArray,List.set_cons_zero,List.set_cons_succ]
  refine wpAnyH_take (i := 9) (oi := ⟨_,_,_,_,_,_⟩) (v := .string TE) rfl (by kernel_rfl) (by kernel_rfl) (by kernel_rfl) (fun _ _ _ h => h) (Or.inl ⟨by rfl,fun W hW => (by have c1 := hW.c1; go_simp)⟩) (by assumption) ?restg8_14
  try simp only [Act.put,List.setIfInBounds_toArray,List.set_cons_zero,List.set_cons_succ]
  refine wpAnyH_ready (rs := [7]) (by kernel_rfl) (by simp) ?_
  refine AllReadyH.cons (o := ⟨_,_,_,_,_,_⟩) rfl (fun K hK => ?_) AllReadyH.nil
  go_simp
  refine Calls.mono (FE.out _ _ _ _ hHeld1.e) ?_
  rintro r w5 ⟨rfl,b5⟩
  have T2 := hHeld1.below b5
  clear b5
  go_wp2_with fail
  refine hK.out _ _ (T2) (fun hHeld2 => ?_)
  clear hK K hHeld1
  try simp only [Act.put,List.setIfInBounds_toArray,List.set_cons_zero,List.set_cons_succ]
  refine wpAnyH_take (i := 10) (oi := ⟨_,_,_,_,_,_⟩) (v := ?vg8_15) rfl (by kernel_rfl) (by kernel_rfl) (by kernel_rfl) (fun _ _ _ h => h) (Or.inl ⟨by rfl,?hyg8_15⟩) (by assumption) ?restg8_15
  case hyg8_15 => (intro W hW; go_simp; try with_reducible rfl)
  try simp only [Act.put,List.setIfInBounds_toArray,List.set_cons_zero,List.set_cons_succ]
  refine wpAnyH_take (i := 11) (oi := ⟨_,_,_,_,_,_⟩) (v := ?vg8_16) rfl (by kernel_rfl) (by kernel_rfl) (by kernel_rfl) (fun _ _ _ h => h) (Or.inl ⟨by rfl,?hyg8_16⟩) (by assumption) ?restg8_16
  case hyg8_16 => (intro W hW; go_simp; try with_reducible rfl)
  try simp only [Act.put,List.setIfInBounds_toArray,List.set_cons_zero,List.set_cons_succ]
  refine wpAnyH_take (i := 12) (oi := ⟨_,_,_,_,_,_⟩) (v := ?vg8_17) rfl (by kernel_rfl) (by kernel_rfl) (by kernel_rfl) (fun _ _ _ h => h) (Or.inl ⟨by rfl,?hyg8_17⟩) (by assumption) ?restg8_17
  case hyg8_17 => (intro W hW; go_simp; try with_reducible rfl)
  try simp only [Act.put,List.setIfInBounds_toArray,List.set_cons_zero,List.set_cons_succ]
  refine wpAnyH_take (i := 13) (oi := ⟨_,_,_,_,_,_⟩) (v := ?vg8_18) rfl (by kernel_rfl) (by kernel_rfl) (by kernel_rfl) (fun _ _ _ h => h) (Or.inl ⟨by rfl,?hyg8_18⟩) (by assumption) ?restg8_18
  case hyg8_18 => (intro W hW; go_simp; try with_reducible rfl)
  try simp only [Act.put,List.setIfInBounds_toArray,List.set_cons_zero,List.set_cons_succ]
  refine wpAnyH_ready (rs := [14]) (by kernel_rfl) (by simp) ?_
  refine AllReadyH.cons (o := ⟨_,_,_,_,_,_⟩) rfl (fun K hK => ?_) AllReadyH.nil
  go_simp
  refine Calls.mono (LN.out _ _ _ _ hHeld2.n) ?_
  rintro r wz ⟨rfl,rfl⟩
  go_wp2_with fail
  refine hK.out _ _ (hHeld2) (fun hHeld3 => ?_)
  clear hK K hHeld2
  try simp only [Act.put,List.setIfInBounds_toArray,List.set_cons_zero,List.set_cons_succ]
  refine wpAnyH_take (i := 15) (oi := ⟨_,_,_,_,_,_⟩) (v := ?vg8_19) rfl (by kernel_rfl) (by kernel_rfl) (by kernel_rfl) (fun _ _ _ h => h) (Or.inl ⟨by rfl,?hyg8_19⟩) (by assumption) ?restg8_19
  case hyg8_19 => (intro W hW; go_simp; try with_reducible rfl)
  try simp only [Act.put,List.setIfInBounds_toArray,List.set_cons_zero,List.set_cons_succ]
  refine wpAnyH_take (i := 16) (oi := ⟨_,_,_,_,_,_⟩) (v := ?vg8_20) rfl (by kernel_rfl) (by kernel_rfl) (by kernel_rfl) (fun _ _ _ h => h) (Or.inl ⟨by rfl,?hyg8_20⟩) (by assumption) ?restg8_20
  case hyg8_20 => (intro W hW; go_simp; try with_reducible rfl)
  try simp only [Act.put,List.setIfInBounds_toArray,List.set_cons_zero,List.set_cons_succ]
  refine wpAnyH_take (i := 17) (oi := ⟨_,_,_,_,_,_⟩) (v := ?vg8_21) rfl (by kernel_rfl) (by kernel_rfl) (by kernel_rfl) (fun _ _ _ h => h) (Or.inl ⟨by rfl,?hyg8_21⟩) (by assumption) ?restg8_21
  case hyg8_21 => (intro W hW; go_simp; try with_reducible rfl)
  try simp only [Act.put,List.setIfInBounds_toArray,List.set_cons_zero,List.set_cons_succ]
  refine wpAnyH_take (i := 18) (oi := ⟨_,_,_,_,_,_⟩) (v := ?vg8_22) rfl (by kernel_rfl) (by kernel_rfl) (by kernel_rfl) (fun _ _ _ h => h) (Or.inl ⟨by rfl,?hyg8_22⟩) (by assumption) ?restg8_22
  case hyg8_22 => (intro W hW; go_simp; try with_reducible rfl)
  try simp only [Act.put,List.setIfInBounds_toArray,List.set_cons_zero,List.set_cons_succ]
  refine wpAnyH_ready (rs := [19]) (by kernel_rfl) (by simp) ?_
  refine AllReadyH.cons (o := ⟨_,_,_,_,_,_⟩) rfl (fun K hK => ?_) AllReadyH.nil
  go_simp
  refine Calls.mono (LE.out _ _ _ _ hHeld3.e) ?_
  rintro r wz ⟨rfl,rfl⟩
  go_wp2_with fail
  refine hK.out _ _ (hHeld3) (fun hHeld4 => ?_)
  clear hK K hHeld3
  try simp only [Act.put,List.setIfInBounds_toArray,List.set_cons_zero,List.set_cons_succ]
  refine wpAnyH_take (i := 20) (oi := ⟨_,_,_,_,_,_⟩) (v := ?vg8_23) rfl (by kernel_rfl) (by kernel_rfl) (by kernel_rfl) (fun _ _ _ h => h) (Or.inl ⟨by rfl,?hyg8_23⟩) (by assumption) ?restg8_23
  case hyg8_23 => (intro W hW; go_simp; try with_reducible rfl)
  try simp only [Act.put,List.setIfInBounds_toArray,List.set_cons_zero,List.set_cons_succ]
  refine wpAnyH_take (i := 21) (oi := ⟨_,_,_,_,_,_⟩) (v := ?vg8_24) rfl (by kernel_rfl) (by kernel_rfl) (by kernel_rfl) (fun _ _ _ h => h) (Or.inl ⟨by rfl,?hyg8_24⟩) (by assumption) ?restg8_24
  case hyg8_24 => (intro W hW; go_simp; try with_reducible rfl)
  try simp only [Act.put,List.setIfInBounds_toArray,List.set_cons_zero,List.set_cons_succ]
  refine wpAnyH_take (i := 22) (oi := ⟨_,_,_,_,_,_⟩) (v := ?vg8_25) rfl (by kernel_rfl) (by kernel_rfl) (by kernel_rfl) (fun _ _ _ h => h) (Or.inl ⟨by rfl,?hyg8_25⟩) (by assumption) ?restg8_25
  case hyg8_25 => (intro W hW; go_simp; try with_reducible rfl)
  try simp only [Act.put,List.setIfInBounds_toArray,List.set_cons_zero,List.set_cons_succ]
  refine wpAnyH_take (i := 23) (oi := ⟨_,_,_,_,_,_⟩) (v := ?vg8_26) rfl (by kernel_rfl) (by kernel_rfl) (by kernel_rfl) (fun _ _ _ h => h) (Or.inl ⟨by rfl,?hyg8_26⟩) (by assumption) ?restg8_26
  case hyg8_26 => (intro W hW; go_simp; try with_reducible rfl)
  try simp only [Act.put,List.setIfInBounds_toArray,List.set_cons_zero,List.set_cons_succ]
  refine wpAnyH_ready (rs := [24]) (by kernel_rfl) (by simp) ?_
  refine AllReadyH.cons (o := ⟨_,_,_,_,_,_⟩) rfl (fun K hK => ?_) AllReadyH.nil
  go_simp
  refine Calls.mono (BN.out _ _ _ _ hHeld4.n) ?_
  rintro r wz ⟨rfl,rfl⟩
  go_wp2_with fail
  refine hK.out _ _ (hHeld4) (fun hHeld5 => ?_)
  clear hK K hHeld4
  try simp only [Act.put,List.setIfInBounds_toArray,List.set_cons_zero,List.set_cons_succ]
  refine wpAnyH_take (i := 25) (oi := ⟨_,_,_,_,_,_⟩) (v := ?vg8_27) rfl (by kernel_rfl) (by kernel_rfl) (by kernel_rfl) (fun _ _ _ h => h) (Or.inl ⟨by rfl,?hyg8_27⟩) (by assumption) ?restg8_27
  case hyg8_27 => (intro W hW; go_simp; try with_reducible rfl)
  try simp only [Act.put,List.setIfInBounds_toArray,List.set_cons_zero,List.set_cons_succ]
  refine wpAnyH_take (i := 26) (oi := ⟨_,_,_,_,_,_⟩) (v := ?vg8_28) rfl (by kernel_rfl) (by kernel_rfl) (by kernel_rfl) (fun _ _ _ h => h) (Or.inl ⟨by rfl,?hyg8_28⟩) (by assumption) ?restg8_28
  case hyg8_28 => (intro W hW; go_simp; try with_reducible rfl)
  try simp only [Act.put,List.setIfInBounds_toArray,List.set_cons_zero,List.set_cons_succ]
  refine wpAnyH_take (i := 27) (oi := ⟨_,_,_,_,_,_⟩) (v := ?vg8_29) rfl (by kernel_rfl) (by kernel_rfl) (by kernel_rfl) (fun _ _ _ h => h) (Or.inl ⟨by rfl,?hyg8_29⟩) (by assumption) ?restg8_29
  case hyg8_29 => (intro W hW; go_simp; try with_reducible rfl)
  try simp only [Act.put,List.setIfInBounds_toArray,List.set_cons_zero,List.set_cons_succ]
  refine wpAnyH_take (i := 28) (oi := ⟨_,_,_,_,_,_⟩) (v := ?vg8_30) rfl (by kernel_rfl) (by kernel_rfl) (by kernel_rfl) (fun _ _ _ h => h) (Or.inl ⟨by rfl,?hyg8_30⟩) (by assumption) ?restg8_30
  case hyg8_30 => (intro W hW; go_simp; try with_reducible rfl)
  try simp only [Act.put,List.setIfInBounds_toArray,List.set_cons_zero,List.set_cons_succ]
  refine wpAnyH_ready (rs := [29]) (by kernel_rfl) (by simp) ?_
  refine AllReadyH.cons (o := ⟨_,_,_,_,_,_⟩) rfl (fun K hK => ?_) AllReadyH.nil
  go_simp
  refine Calls.mono (BN.out _ _ _ _ hHeld5.n) ?_
  rintro r wz ⟨rfl,rfl⟩
  go_wp2_with fail
  refine hK.out _ _ (hHeld5) (fun hHeld6 => ?_)
  clear hK K hHeld5
  try simp only [Act.put,List.setIfInBounds_toArray,List.set_cons_zero,List.set_cons_succ]
  refine wpAnyH_take (i := 30) (oi := ⟨_,_,_,_,_,_⟩) (v := ?vg8_31) rfl (by kernel_rfl) (by kernel_rfl) (by kernel_rfl) (fun _ _ _ h => h) (Or.inl ⟨by rfl,?hyg8_31⟩) (by assumption) ?restg8_31
  case hyg8_31 => (intro W hW; go_simp; try with_reducible rfl)
  try simp only [Act.put,List.setIfInBounds_toArray,List.set_cons_zero,List.set_cons_succ]
  refine wpAnyH_take (i := 31) (oi := ⟨_,_,_,_,_,_⟩) (v := ?vg8_32) rfl (by kernel_rfl) (by kernel_rfl) (by kernel_rfl) (fun _ _ _ h => h) (Or.inl ⟨by rfl,?hyg8_32⟩) (by assumption) ?restg8_32
  case hyg8_32 => (intro W hW; go_simp; try with_reducible rfl)
  try simp only [Act.put,List.setIfInBounds_toArray,List.set_cons_zero,List.set_cons_succ]
  refine wpAnyH_take (i := 32) (oi := ⟨_,_,_,_,_,_⟩) (v := ?vg8_33) rfl (by kernel_rfl) (by kernel_rfl) (by kernel_rfl) (fun _ _ _ h => h) (Or.inl ⟨by rfl,?hyg8_33⟩) (by assumption) ?restg8_33
  case hyg8_33 => (intro W hW; go_simp; try with_reducible rfl)
  try simp only [Act.put,List.setIfInBounds_toArray,List.set_cons_zero,List.set_cons_succ]
  refine wpAnyH_take (i := 33) (oi := ⟨_,_,_,_,_,_⟩) (v := ?vg8_34) rfl (by kernel_rfl) (by kernel_rfl) (by kernel_rfl) (fun _ _ _ h => h) (Or.inl ⟨by rfl,?hyg8_34⟩) (by assumption) ?restg8_34
  case hyg8_34 => (intro W hW; go_simp; try with_reducible rfl)
  try simp only [Act.put,List.setIfInBounds_toArray,List.set_cons_zero,List.set_cons_succ]
  refine wpAnyH_ready (rs := [34]) (by kernel_rfl) (by simp) ?_
  refine AllReadyH.cons (o := ⟨_,_,_,_,_,_⟩) rfl (fun K hK => ?_) AllReadyH.nil
  go_simp
  refine hK.out _ _ ((hHeld6.below ((Below.refl _ _).alloc (Nat.le_refl _) _))) (fun hHeld7 => ?_)
  clear hK K hHeld6
  try simp only [Act.put,List.setIfInBounds_toArray,List.set_cons_zero,List.set_cons_succ]
  obtain ⟨r7,z7,M7⟩ := M3.out _ _ _ _ _ hHeld7.e (Rn.three_lim _)
  refine wpAnyH_ready (rs := [35]) (by kernel_rfl) (by simp) ?_
  refine AllReadyH.cons (o := ⟨_,_,_,_,_,_⟩) rfl (fun K hK => ?_) AllReadyH.nil
  go_simp
  refine Calls.mono (M7) ?_
  rintro r w7 ⟨rfl,j7,hw7⟩
  have T7 : Rs.KeyS w w.heap.size TN TE an kn cn ae ke ce w7 := by rw [hw7]; exact hHeld7.below (Rn.beyond2 _ j7)
  clear hw7 M7
  go_wp2_with fail
  refine hK.out _ _ (T7) (fun hHeld8 => ?_)
  clear hK K hHeld7
  try simp only [Act.put,List.setIfInBounds_toArray,List.set_cons_zero,List.set_cons_succ]
  refine wpAnyH_take (i := 36) (oi := ⟨_,_,_,_,_,_⟩) (v := ?vg8_35) rfl (by kernel_rfl) (by kernel_rfl) (by kernel_rfl) (fun _ _ _ h => h) (Or.inl ⟨by rfl,?hyg8_35⟩) (by assumption) ?restg8_35
  case hyg8_35 => (intro W hW; go_simp; try with_reducible rfl)
  try simp only [Act.put,List.setIfInBounds_toArray,List.set_cons_zero,List.set_cons_succ]
  refine wpAnyH_take (i := 37) (oi := ⟨_,_,_,_,_,_⟩) (v := ?vg8_36) rfl (by kernel_rfl) (by kernel_rfl) (by kernel_rfl) (fun _ _ _ h => h) (Or.inl ⟨by rfl,?hyg8_36⟩) (by assumption) ?restg8_36
  case hyg8_36 => (intro W hW; go_simp; try with_reducible rfl)
  try simp only [Act.put,List.setIfInBounds_toArray,List.set_cons_zero,List.set_cons_succ]
  refine wpAnyH_take (i := 38) (oi := ⟨_,_,_,_,_,_⟩) (v := ?vg8_37) rfl (by kernel_rfl) (by kernel_rfl) (by kernel_rfl) (fun _ _ _ h => h) (Or.inl ⟨by rfl,?hyg8_37⟩) (by assumption) ?restg8_37
  case hyg8_37 => (intro W hW; go_simp; try with_reducible rfl)
  try simp only [Act.put,List.setIfInBounds_toArray,List.set_cons_zero,List.set_cons_succ]
  refine wpAnyH_take (i := 39) (oi := ⟨_,_,_,_,_,_⟩) (v := undef) rfl (by kernel_rfl) (by kernel_rfl) (by kernel_rfl) (fun _ _ _ h => h) (Or.inr ⟨by rfl,rfl⟩) (by assumption) ?restg8_38
  try simp only [Act.put,List.setIfInBounds_toArray,List.set_cons_zero,List.set_cons_succ]
  refine wpAnyH_take (i := 40) (oi := ⟨_,_,_,_,_,_⟩) (v := undef) rfl (by kernel_rfl) (by kernel_rfl) (by kernel_rfl) (fun _ _ _ h => h) (Or.inr ⟨by rfl,rfl⟩) (by assumption) ?restg8_39
  try simp only [Act.put,List.setIfInBounds_toArray,List.set_cons_zero,List.set_cons_succ]
  refine wpAnyH_take (i := 41) (oi := ⟨_,_,_,_,_,_⟩) (v := undef) rfl (by kernel_rfl) (by kernel_rfl) (by kernel_rfl) (fun _ _ _ h => h) (Or.inr ⟨by rfl,rfl⟩) (by assumption) ?restg8_40
  try simp only [Act.put,List.setIfInBounds_toArray,List.set_cons_zero,List.set_cons_succ]
  refine wpAnyH_take (i := 42) (oi := ⟨_,_,_,_,_,_⟩) (v := ?vg8_41) rfl (by kernel_rfl) (by kernel_rfl) (by kernel_rfl) (fun _ _ _ h => h) (Or.inl ⟨by rfl,?hyg8_41⟩) (by assumption) ?restg8_41
  case hyg8_41 => (intro W hW; go_simp; try with_reducible rfl)
  try simp only [Act.put,List.setIfInBounds_toArray,List.set_cons_zero,List.set_cons_succ]
  refine wpAnyH_take (i := 43) (oi := ⟨_,_,_,_,_,_⟩) (v := ?vg8_42) rfl (by kernel_rfl) (by kernel_rfl) (by kernel_rfl) (fun _ _ _ h => h) (Or.inl ⟨by rfl,?hyg8_42⟩) (by assumption) ?restg8_42
  case hyg8_42 => (intro W hW; go_simp; try with_reducible rfl)
  try simp only [Act.put,List.setIfInBounds_toArray,List.set_cons_zero,List.set_cons_succ]
  refine wpAnyH_done (by kernel_rfl) ?_ _
  have HB := Lib.hid hHeld8.bel
  go_wp2_with fail
  go_ret
  exact ⟨rfl,HB.out⟩
set_option maxHeartbeats 4000000 in
set_option maxRecDepth 100000 in
theorem Rs.RCheck_8 (w : World) (n e TN TE : ByteArray) (DN DE : Nat) (hn : n.size ≤ 4000) (he : e.size ≤ 4000) (hTN : (⟨(Nt.fm (Nt.nv n)).toArray⟩ : ByteArray) = TN) (hTE : (⟨(Nt.fm (Nt.nv e)).toArray⟩ : ByteArray) = TE) (hDN : Nt.dig (Nt.nv n) = DN) (hDE : Nt.dig (Nt.nv e) = DE) (hc1 : TN = n) (hc2 : TE = e) (hc3 : Nt.nv n % 2 = 1) (hc4 : Nt.nv e % 2 = 1) (hc5 : 512 ≤ DN) (hc6 : DN ≤ 2048) (hc7 : 3 ≤ Nt.nv e) (hc8 : ¬ DE ≤ 32) :
    Calls Tryz.prog 39 #[.agg #[.string n,.string e]] w fun r w' => r = .returned (.bool false) ∧ Below w.heap.size w w' := by
  have CN : ∀ W an kn cn,Rn.Num W an kn cn (Nt.nv n) → kn ≤ 1000000 := fun W an kn cn h => Nat.le_trans (h.bytes 2000 n.size (Nt.nv_lt n) (by omega)) (by decide)
  have CE : ∀ W an kn cn,Rn.Num W an kn cn (Nt.nv e) → kn ≤ 1000000 := fun W an kn cn h => Nat.le_trans (h.bytes 2000 e.size (Nt.nv_lt e) (by omega)) (by decide)
  have FN : ∀ W an kn cn,Rn.Num W an kn cn (Nt.nv n) → Calls Tryz.prog 67 #[.slice an kn cn] W fun r w' => r = .returned (.string TN) ∧ Below W.heap.size W w' := fun W an kn cn h => by
    have := Rn.Form_any W an kn cn _ h (CN W an kn cn h)
    rw [hTN] at this
    exact this
  have FE : ∀ W an kn cn,Rn.Num W an kn cn (Nt.nv e) → Calls Tryz.prog 67 #[.slice an kn cn] W fun r w' => r = .returned (.string TE) ∧ Below W.heap.size W w' := fun W an kn cn h => by
    have := Rn.Form_any W an kn cn _ h (CE W an kn cn h)
    rw [hTE] at this
    exact this
  have BN : ∀ W an kn cn,Rn.Num W an kn cn (Nt.nv n) → Calls Tryz.prog 23 #[.slice an kn cn] W fun r w' => r = .returned (.int .i64 (DN : Int)) ∧ w' = W := fun W an kn cn h => by
    have := Rn.Bits_any W an kn cn _ h (CN W an kn cn h)
    rw [hDN] at this
    exact this
  have BE : ∀ W an kn cn,Rn.Num W an kn cn (Nt.nv e) → Calls Tryz.prog 23 #[.slice an kn cn] W fun r w' => r = .returned (.int .i64 (DE : Int)) ∧ w' = W := fun W an kn cn h => by
    have := Rn.Bits_any W an kn cn _ h (CE W an kn cn h)
    rw [hDE] at this
    exact this
  have LN : ∀ W an kn cn,Rn.Num W an kn cn (Nt.nv n) → Calls Tryz.prog 44 #[.slice an kn cn,.int .i64 0] W fun r w' => r = .returned (.int .u64 1) ∧ w' = W := fun W an kn cn h => by
    have := Rn.Bit_low W an kn cn _ h (CN W an kn cn h)
    rw [hc3] at this
    exact this
  have LE : ∀ W an kn cn,Rn.Num W an kn cn (Nt.nv e) → Calls Tryz.prog 44 #[.slice an kn cn,.int .i64 0] W fun r w' => r = .returned (.int .u64 1) ∧ w' = W := fun W an kn cn h => by
    have := Rn.Bit_low W an kn cn _ h (CE W an kn cn h)
    rw [hc4] at this
    exact this
  have M3 : ∀ W an kn cn av,Rn.Num W an kn cn (Nt.nv e) → Rn.Num W av 1 1 3 → ∃ r : Int,(0 ≤ r) ∧ Calls Tryz.prog 40 #[.slice an kn cn,.slice av 1 1] W fun x w' => x = .returned (.int .i64 r) ∧ ∃ k,w' = W.drewN k := fun W an kn cn av h g => by
    refine ⟨_,?_,Rn.Cmp_any W an av kn cn _ 1 1 3 h g (CE W an kn cn h) (by decide)⟩
    unfold Nt.cmp
    rw [if_neg (by omega)]; split <;> decide
  have HZ := Lib.hid (And.intro hn he)
  have FN := Lib.hid FN
  have FE := Lib.hid FE
  have BN := Lib.hid BN
  have BE := Lib.hid BE
  have LN := Lib.hid LN
  have LE := Lib.hid LE
  have M3 := Lib.hid M3
  subst hc1
  subst hc2
  have z5 : 512 ≤ (DN : Int) := by omega
  have z6 : (DN : Int) ≤ 2048 := by omega
  have z8 : decide ((DE : Int) ≤ 32) = false := decide_eq_false (by omega)
  clear CN CE hTN hTE hDN hDE hn he
  have S0 : Rs.BoxS w w.heap.size TN TE (w.alloc (Obj.cells #[.string TN,.string TE] 25)) := ⟨by simp,by simp,(Below.refl _ _).alloc (Nat.le_refl _) _⟩
  have HS0 := Lib.hid S0
  clear S0
  go_enter Tryz.func39,Tryz.ntmps39
  go_wp2_with fail
  have S0 := HS0.out
  clear HS0
  revert S0
  generalize w.alloc (Obj.cells #[.string TN,.string TE] 25) = w1
  intro S0
  refine wp_region_held_drew (S := fun W => Rs.BoxS w w.heap.size TN TE W) (by kernel_rfl) (S0.below (below_drewN (Below.refl _ _) 1)) (fun hHeld0 => ?_)
  clear S0
  refine wpAnyH_take (i := 0) (oi := ⟨_,_,_,_,_,_⟩) (v := ?vg9_1) rfl (by kernel_rfl) (by kernel_rfl) (by kernel_rfl) (fun _ _ _ h => h) (Or.inl ⟨by rfl,?hyg9_1⟩) (by assumption) ?restg9_1
  case hyg9_1 => (intro W hW; go_simp; try with_reducible rfl)
  try simp only [Act.put,List.setIfInBounds_toArray,List.set_cons_zero,List.set_cons_succ]
  refine wpAnyH_take (i := 1) (oi := ⟨_,_,_,_,_,_⟩) (v := .string TN) rfl (by kernel_rfl) (by kernel_rfl) (by kernel_rfl) (fun _ _ _ h => h) (Or.inl ⟨by rfl,fun W hW => (by have c0 := hW.c0; go_simp)⟩) (by assumption) ?restg9_2
  try simp only [Act.put,List.setIfInBounds_toArray,List.set_cons_zero,List.set_cons_succ]
  refine wpAnyH_take (i := 3) (oi := ⟨_,_,_,_,_,_⟩) (v := ?vg9_3) rfl (by kernel_rfl) (by kernel_rfl) (by kernel_rfl) (fun _ _ _ h => h) (Or.inl ⟨by rfl,?hyg9_3⟩) (by assumption) ?restg9_3
  case hyg9_3 => (intro W hW; go_simp; try with_reducible rfl)
  try simp only [Act.put,List.setIfInBounds_toArray,List.set_cons_zero,List.set_cons_succ]
  refine wpAnyH_take (i := 4) (oi := ⟨_,_,_,_,_,_⟩) (v := .string TE) rfl (by kernel_rfl) (by kernel_rfl) (by kernel_rfl) (fun _ _ _ h => h) (Or.inl ⟨by rfl,fun W hW => (by have c1 := hW.c1; go_simp)⟩) (by assumption) ?restg9_4
  try simp only [Act.put,List.setIfInBounds_toArray,List.set_cons_zero,List.set_cons_succ]
  refine wpAnyH_ready (rs := [2]) (by kernel_rfl) (by simp) ?_
  refine AllReadyH.cons (o := ⟨_,_,_,_,_,_⟩) rfl (fun K hK => ?_) AllReadyH.nil
  go_simp
  refine Calls.mono (Rn.Of_any _ TN (Nat.le_trans HZ.out.1 (by decide))) ?_
  rintro e2 w2 ⟨an,kn,cn,rfl,hN,b2⟩
  have S2 := hHeld0.below b2
  go_wp2_with fail
  refine hK.out _ _ (S2) (fun hHeld1 => ?_)
  clear hK K hHeld0
  try simp only [Act.put,List.setIfInBounds_toArray,List.set_cons_zero,List.set_cons_succ]
  refine wpAnyH_ready (rs := [5]) (by kernel_rfl) (by simp) ?_
  refine AllReadyH.cons (o := ⟨_,_,_,_,_,_⟩) rfl (fun K hK => ?_) AllReadyH.nil
  go_simp
  refine Calls.mono (Rn.Of_any _ TE (Nat.le_trans HZ.out.2 (by decide))) ?_
  rintro e3 w3 ⟨ae,ke,ce,rfl,hE,b3⟩
  have S3 := S2.below b3
  have T0 : Rs.KeyS w w.heap.size TN TE an kn cn ae ke ce w3 := ⟨S3.c0,S3.c1,hN.below b3,hE,S3.bel⟩
  go_wp2_with fail
  refine hK.out _ _ (S3) (fun hHeld2 => ?_)
  clear hK K hHeld1
  try simp only [Act.put,List.setIfInBounds_toArray,List.set_cons_zero,List.set_cons_succ]
  refine wpAnyH_take (i := 6) (oi := ⟨_,_,_,_,_,_⟩) (v := ?vg9_5) rfl (by kernel_rfl) (by kernel_rfl) (by kernel_rfl) (fun _ _ _ h => h) (Or.inl ⟨by rfl,?hyg9_5⟩) (by assumption) ?restg9_5
  case hyg9_5 => (intro W hW; go_simp; try with_reducible rfl)
  try simp only [Act.put,List.setIfInBounds_toArray,List.set_cons_zero,List.set_cons_succ]
  refine wpAnyH_take (i := 7) (oi := ⟨_,_,_,_,_,_⟩) (v := ?vg9_6) rfl (by kernel_rfl) (by kernel_rfl) (by kernel_rfl) (fun _ _ _ h => h) (Or.inl ⟨by rfl,?hyg9_6⟩) (by assumption) ?restg9_6
  case hyg9_6 => (intro W hW; go_simp; try with_reducible rfl)
  try simp only [Act.put,List.setIfInBounds_toArray,List.set_cons_zero,List.set_cons_succ]
  refine wpAnyH_done (by kernel_rfl) ?_ _
  clear S2 S3 hHeld2 hN hE b2 b3
  go_wp2_with fail
  refine wp_region_held_drew (S := fun W => Rs.KeyS w w.heap.size TN TE an kn cn ae ke ce W) (by kernel_rfl) (T0.below (below_drewN (Below.refl _ _) 1)) (fun hHeld0 => ?_)
  clear T0
  refine wpAnyH_take (i := 0) (oi := ⟨_,_,_,_,_,_⟩) (v := ?vg9_7) rfl (by kernel_rfl) (by kernel_rfl) (by kernel_rfl) (fun _ _ _ h => h) (Or.inl ⟨by rfl,?hyg9_7⟩) (by assumption) ?restg9_7
  case hyg9_7 => (intro W hW; go_simp; try with_reducible rfl)
  try simp only [Act.put,List.setIfInBounds_toArray,List.set_cons_zero,List.set_cons_succ]
  refine wpAnyH_take (i := 2) (oi := ⟨_,_,_,_,_,_⟩) (v := ?vg9_8) rfl (by kernel_rfl) (by kernel_rfl) (by kernel_rfl) (fun _ _ _ h => h) (Or.inl ⟨by rfl,?hyg9_8⟩) (by assumption) ?restg9_8
  case hyg9_8 => (intro W hW; go_simp; try with_reducible rfl)
  try simp only [Act.put,List.setIfInBounds_toArray,List.set_cons_zero,List.set_cons_succ]
  refine wpAnyH_take (i := 3) (oi := ⟨_,_,_,_,_,_⟩) (v := .string TN) rfl (by kernel_rfl) (by kernel_rfl) (by kernel_rfl) (fun _ _ _ h => h) (Or.inl ⟨by rfl,fun W hW => (by have c0 := hW.c0; go_simp)⟩) (by assumption) ?restg9_9
  try simp only [Act.put,List.setIfInBounds_toArray,List.set_cons_zero,List.set_cons_succ]
  refine wpAnyH_ready (rs := [1]) (by kernel_rfl) (by simp) ?_
  refine AllReadyH.cons (o := ⟨_,_,_,_,_,_⟩) rfl (fun K hK => ?_) AllReadyH.nil
  go_simp
  refine Calls.mono (FN.out _ _ _ _ hHeld0.n) ?_
  rintro r w4 ⟨rfl,b4⟩
  have T1 := hHeld0.below b4
  clear b4
  go_wp2_with fail
  refine hK.out _ _ (T1) (fun hHeld1 => ?_)
  clear hK K hHeld0
  try simp only [Act.put,List.setIfInBounds_toArray,List.set_cons_zero,List.set_cons_succ]
  refine wpAnyH_take (i := 4) (oi := ⟨_,_,_,_,_,_⟩) (v := ?vg9_10) rfl (by kernel_rfl) (by kernel_rfl) (by kernel_rfl) (fun _ _ _ h => h) (Or.inl ⟨by rfl,?hyg9_10⟩) (by assumption) ?restg9_10
  case hyg9_10 => (intro W hW; go_simp; try with_reducible rfl)
  try simp only [Act.put,List.setIfInBounds_toArray,List.set_cons_zero,List.set_cons_succ]
  refine wpAnyH_take (i := 5) (oi := ⟨_,_,_,_,_,_⟩) (v := ?vg9_11) rfl (by kernel_rfl) (by kernel_rfl) (by kernel_rfl) (fun _ _ _ h => h) (Or.inl ⟨by rfl,?hyg9_11⟩) (by assumption) ?restg9_11
  case hyg9_11 => (intro W hW; go_simp; try with_reducible rfl)
  try simp only [Act.put,List.setIfInBounds_toArray,List.set_cons_zero,List.set_cons_succ]
  refine wpAnyH_take (i := 6) (oi := ⟨_,_,_,_,_,_⟩) (v := ?vg9_12) rfl (by kernel_rfl) (by kernel_rfl) (by kernel_rfl) (fun _ _ _ h => h) (Or.inl ⟨by rfl,?hyg9_12⟩) (by assumption) ?restg9_12
  case hyg9_12 => (intro W hW; go_simp; try with_reducible rfl)
  try simp only [Act.put,List.setIfInBounds_toArray,List.set_cons_zero,List.set_cons_succ]
  refine wpAnyH_take (i := 8) (oi := ⟨_,_,_,_,_,_⟩) (v := ?vg9_13) rfl (by kernel_rfl) (by kernel_rfl) (by kernel_rfl) (fun _ _ _ h => h) (Or.inl ⟨by rfl,?hyg9_13⟩) (by assumption) ?restg9_13
  case hyg9_13 => (intro W hW; go_simp; try with_reducible rfl)
  try simp only [Act.put,List.setIfInBounds_toArray,List.set_cons_zero,List.set_cons_succ]
  refine wpAnyH_take (i := 9) (oi := ⟨_,_,_,_,_,_⟩) (v := .string TE) rfl (by kernel_rfl) (by kernel_rfl) (by kernel_rfl) (fun _ _ _ h => h) (Or.inl ⟨by rfl,fun W hW => (by have c1 := hW.c1; go_simp)⟩) (by assumption) ?restg9_14
  try simp only [Act.put,List.setIfInBounds_toArray,List.set_cons_zero,List.set_cons_succ]
  refine wpAnyH_ready (rs := [7]) (by kernel_rfl) (by simp) ?_
  refine AllReadyH.cons (o := ⟨_,_,_,_,_,_⟩) rfl (fun K hK => ?_) AllReadyH.nil
  go_simp
  refine Calls.mono (FE.out _ _ _ _ hHeld1.e) ?_
  rintro r w5 ⟨rfl,b5⟩
  have T2 := hHeld1.below b5
  clear b5
  go_wp2_with fail
  refine hK.out _ _ (T2) (fun hHeld2 => ?_)
  clear hK K hHeld1
  try simp only [Act.put,List.setIfInBounds_toArray,List.set_cons_zero,List.set_cons_succ]
  refine wpAnyH_take (i := 10) (oi := ⟨_,_,_,_,_,_⟩) (v := ?vg9_15) rfl (by kernel_rfl) (by kernel_rfl) (by kernel_rfl) (fun _ _ _ h => h) (Or.inl ⟨by rfl,?hyg9_15⟩) (by assumption) ?restg9_15
  case hyg9_15 => (intro W hW; go_simp; try with_reducible rfl)
  try simp only [Act.put,List.setIfInBounds_toArray,List.set_cons_zero,List.set_cons_succ]
  refine wpAnyH_take (i := 11) (oi := ⟨_,_,_,_,_,_⟩) (v := ?vg9_16) rfl (by kernel_rfl) (by kernel_rfl) (by kernel_rfl) (fun _ _ _ h => h) (Or.inl ⟨by rfl,?hyg9_16⟩) (by assumption) ?restg9_16
  case hyg9_16 => (intro W hW; go_simp; try with_reducible rfl)
  try simp only [Act.put,List.setIfInBounds_toArray,List.set_cons_zero,List.set_cons_succ]
  refine wpAnyH_take (i := 12) (oi := ⟨_,_,_,_,_,_⟩) (v := ?vg9_17) rfl (by kernel_rfl) (by kernel_rfl) (by kernel_rfl) (fun _ _ _ h => h) (Or.inl ⟨by rfl,?hyg9_17⟩) (by assumption) ?restg9_17
  case hyg9_17 => (intro W hW; go_simp; try with_reducible rfl)
  try simp only [Act.put,List.setIfInBounds_toArray,List.set_cons_zero,List.set_cons_succ]
  refine wpAnyH_take (i := 13) (oi := ⟨_,_,_,_,_,_⟩) (v := ?vg9_18) rfl (by kernel_rfl) (by kernel_rfl) (by kernel_rfl) (fun _ _ _ h => h) (Or.inl ⟨by rfl,?hyg9_18⟩) (by assumption) ?restg9_18
  case hyg9_18 => (intro W hW; go_simp; try with_reducible rfl)
  try simp only [Act.put,List.setIfInBounds_toArray,List.set_cons_zero,List.set_cons_succ]
  refine wpAnyH_ready (rs := [14]) (by kernel_rfl) (by simp) ?_
  refine AllReadyH.cons (o := ⟨_,_,_,_,_,_⟩) rfl (fun K hK => ?_) AllReadyH.nil
  go_simp
  refine Calls.mono (LN.out _ _ _ _ hHeld2.n) ?_
  rintro r wz ⟨rfl,rfl⟩
  go_wp2_with fail
  refine hK.out _ _ (hHeld2) (fun hHeld3 => ?_)
  clear hK K hHeld2
  try simp only [Act.put,List.setIfInBounds_toArray,List.set_cons_zero,List.set_cons_succ]
  refine wpAnyH_take (i := 15) (oi := ⟨_,_,_,_,_,_⟩) (v := ?vg9_19) rfl (by kernel_rfl) (by kernel_rfl) (by kernel_rfl) (fun _ _ _ h => h) (Or.inl ⟨by rfl,?hyg9_19⟩) (by assumption) ?restg9_19
  case hyg9_19 => (intro W hW; go_simp; try with_reducible rfl)
  try simp only [Act.put,List.setIfInBounds_toArray,List.set_cons_zero,List.set_cons_succ]
  refine wpAnyH_take (i := 16) (oi := ⟨_,_,_,_,_,_⟩) (v := ?vg9_20) rfl (by kernel_rfl) (by kernel_rfl) (by kernel_rfl) (fun _ _ _ h => h) (Or.inl ⟨by rfl,?hyg9_20⟩) (by assumption) ?restg9_20
  case hyg9_20 => (intro W hW; go_simp; try with_reducible rfl)
  try simp only [Act.put,List.setIfInBounds_toArray,List.set_cons_zero,List.set_cons_succ]
  refine wpAnyH_take (i := 17) (oi := ⟨_,_,_,_,_,_⟩) (v := ?vg9_21) rfl (by kernel_rfl) (by kernel_rfl) (by kernel_rfl) (fun _ _ _ h => h) (Or.inl ⟨by rfl,?hyg9_21⟩) (by assumption) ?restg9_21
  case hyg9_21 => (intro W hW; go_simp; try with_reducible rfl)
  try simp only [Act.put,List.setIfInBounds_toArray,List.set_cons_zero,List.set_cons_succ]
  refine wpAnyH_take (i := 18) (oi := ⟨_,_,_,_,_,_⟩) (v := ?vg9_22) rfl (by kernel_rfl) (by kernel_rfl) (by kernel_rfl) (fun _ _ _ h => h) (Or.inl ⟨by rfl,?hyg9_22⟩) (by assumption) ?restg9_22
  case hyg9_22 => (intro W hW; go_simp; try with_reducible rfl)
  try simp only [Act.put,List.setIfInBounds_toArray,List.set_cons_zero,List.set_cons_succ]
  refine wpAnyH_ready (rs := [19]) (by kernel_rfl) (by simp) ?_
  refine AllReadyH.cons (o := ⟨_,_,_,_,_,_⟩) rfl (fun K hK => ?_) AllReadyH.nil
  go_simp
  refine Calls.mono (LE.out _ _ _ _ hHeld3.e) ?_
  rintro r wz ⟨rfl,rfl⟩
  go_wp2_with fail
  refine hK.out _ _ (hHeld3) (fun hHeld4 => ?_)
  clear hK K hHeld3
  try simp only [Act.put,List.setIfInBounds_toArray,List.set_cons_zero,List.set_cons_succ]
  refine wpAnyH_take (i := 20) (oi := ⟨_,_,_,_,_,_⟩) (v := ?vg9_23) rfl (by kernel_rfl) (by kernel_rfl) (by kernel_rfl) (fun _ _ _ h => h) (Or.inl ⟨by rfl,?hyg9_23⟩) (by assumption) ?restg9_23
  case hyg9_23 => (intro W hW; go_simp; try with_reducible rfl)
  try simp only [Act.put,List.setIfInBounds_toArray,List.set_cons_zero,List.set_cons_succ]
  refine wpAnyH_take (i := 21) (oi := ⟨_,_,_,_,_,_⟩) (v := ?vg9_24) rfl (by kernel_rfl) (by kernel_rfl) (by kernel_rfl) (fun _ _ _ h => h) (Or.inl ⟨by rfl,?hyg9_24⟩) (by assumption) ?restg9_24
  case hyg9_24 => (intro W hW; go_simp; try with_reducible rfl)
  try simp only [Act.put,List.setIfInBounds_toArray,List.set_cons_zero,List.set_cons_succ]
  refine wpAnyH_take (i := 22) (oi := ⟨_,_,_,_,_,_⟩) (v := ?vg9_25) rfl (by kernel_rfl) (by kernel_rfl) (by kernel_rfl) (fun _ _ _ h => h) (Or.inl ⟨by rfl,?hyg9_25⟩) (by assumption) ?restg9_25
  case hyg9_25 => (intro W hW; go_simp; try with_reducible rfl)
  try simp only [Act.put,List.setIfInBounds_toArray,List.set_cons_zero,List.set_cons_succ]
  refine wpAnyH_take (i := 23) (oi := ⟨_,_,_,_,_,_⟩) (v := ?vg9_26) rfl (by kernel_rfl) (by kernel_rfl) (by kernel_rfl) (fun _ _ _ h => h) (Or.inl ⟨by rfl,?hyg9_26⟩) (by assumption) ?restg9_26
  case hyg9_26 => (intro W hW; go_simp; try with_reducible rfl)
  try simp only [Act.put,List.setIfInBounds_toArray,List.set_cons_zero,List.set_cons_succ]
  refine wpAnyH_ready (rs := [24]) (by kernel_rfl) (by simp) ?_
  refine AllReadyH.cons (o := ⟨_,_,_,_,_,_⟩) rfl (fun K hK => ?_) AllReadyH.nil
  go_simp
  refine Calls.mono (BN.out _ _ _ _ hHeld4.n) ?_
  rintro r wz ⟨rfl,rfl⟩
  go_wp2_with fail
  refine hK.out _ _ (hHeld4) (fun hHeld5 => ?_)
  clear hK K hHeld4
  try simp only [Act.put,List.setIfInBounds_toArray,List.set_cons_zero,List.set_cons_succ]
  refine wpAnyH_take (i := 25) (oi := ⟨_,_,_,_,_,_⟩) (v := ?vg9_27) rfl (by kernel_rfl) (by kernel_rfl) (by kernel_rfl) (fun _ _ _ h => h) (Or.inl ⟨by rfl,?hyg9_27⟩) (by assumption) ?restg9_27
  case hyg9_27 => (intro W hW; go_simp; try with_reducible rfl)
  try simp only [Act.put,List.setIfInBounds_toArray,List.set_cons_zero,List.set_cons_succ]
  refine wpAnyH_take (i := 26) (oi := ⟨_,_,_,_,_,_⟩) (v := ?vg9_28) rfl (by kernel_rfl) (by kernel_rfl) (by kernel_rfl) (fun _ _ _ h => h) (Or.inl ⟨by rfl,?hyg9_28⟩) (by assumption) ?restg9_28
  case hyg9_28 => (intro W hW; go_simp; try with_reducible rfl)
  try simp only [Act.put,List.setIfInBounds_toArray,List.set_cons_zero,List.set_cons_succ]
  refine wpAnyH_take (i := 27) (oi := ⟨_,_,_,_,_,_⟩) (v := ?vg9_29) rfl (by kernel_rfl) (by kernel_rfl) (by kernel_rfl) (fun _ _ _ h => h) (Or.inl ⟨by rfl,?hyg9_29⟩) (by assumption) ?restg9_29
  case hyg9_29 => (intro W hW; go_simp; try with_reducible rfl)
  try simp only [Act.put,List.setIfInBounds_toArray,List.set_cons_zero,List.set_cons_succ]
  refine wpAnyH_take (i := 28) (oi := ⟨_,_,_,_,_,_⟩) (v := ?vg9_30) rfl (by kernel_rfl) (by kernel_rfl) (by kernel_rfl) (fun _ _ _ h => h) (Or.inl ⟨by rfl,?hyg9_30⟩) (by assumption) ?restg9_30
  case hyg9_30 => (intro W hW; go_simp; try with_reducible rfl)
  try simp only [Act.put,List.setIfInBounds_toArray,List.set_cons_zero,List.set_cons_succ]
  refine wpAnyH_ready (rs := [29]) (by kernel_rfl) (by simp) ?_
  refine AllReadyH.cons (o := ⟨_,_,_,_,_,_⟩) rfl (fun K hK => ?_) AllReadyH.nil
  go_simp
  refine Calls.mono (BN.out _ _ _ _ hHeld5.n) ?_
  rintro r wz ⟨rfl,rfl⟩
  go_wp2_with fail
  refine hK.out _ _ (hHeld5) (fun hHeld6 => ?_)
  clear hK K hHeld5
  try simp only [Act.put,List.setIfInBounds_toArray,List.set_cons_zero,List.set_cons_succ]
  refine wpAnyH_take (i := 30) (oi := ⟨_,_,_,_,_,_⟩) (v := ?vg9_31) rfl (by kernel_rfl) (by kernel_rfl) (by kernel_rfl) (fun _ _ _ h => h) (Or.inl ⟨by rfl,?hyg9_31⟩) (by assumption) ?restg9_31
  case hyg9_31 => (intro W hW; go_simp; try with_reducible rfl)
  try simp only [Act.put,List.setIfInBounds_toArray,List.set_cons_zero,List.set_cons_succ]
  refine wpAnyH_take (i := 31) (oi := ⟨_,_,_,_,_,_⟩) (v := ?vg9_32) rfl (by kernel_rfl) (by kernel_rfl) (by kernel_rfl) (fun _ _ _ h => h) (Or.inl ⟨by rfl,?hyg9_32⟩) (by assumption) ?restg9_32
  case hyg9_32 => (intro W hW; go_simp; try with_reducible rfl)
  try simp only [Act.put,List.setIfInBounds_toArray,List.set_cons_zero,List.set_cons_succ]
  refine wpAnyH_take (i := 32) (oi := ⟨_,_,_,_,_,_⟩) (v := ?vg9_33) rfl (by kernel_rfl) (by kernel_rfl) (by kernel_rfl) (fun _ _ _ h => h) (Or.inl ⟨by rfl,?hyg9_33⟩) (by assumption) ?restg9_33
  case hyg9_33 => (intro W hW; go_simp; try with_reducible rfl)
  try simp only [Act.put,List.setIfInBounds_toArray,List.set_cons_zero,List.set_cons_succ]
  refine wpAnyH_take (i := 33) (oi := ⟨_,_,_,_,_,_⟩) (v := ?vg9_34) rfl (by kernel_rfl) (by kernel_rfl) (by kernel_rfl) (fun _ _ _ h => h) (Or.inl ⟨by rfl,?hyg9_34⟩) (by assumption) ?restg9_34
  case hyg9_34 => (intro W hW; go_simp; try with_reducible rfl)
  try simp only [Act.put,List.setIfInBounds_toArray,List.set_cons_zero,List.set_cons_succ]
  refine wpAnyH_ready (rs := [34]) (by kernel_rfl) (by simp) ?_
  refine AllReadyH.cons (o := ⟨_,_,_,_,_,_⟩) rfl (fun K hK => ?_) AllReadyH.nil
  go_simp
  refine hK.out _ _ ((hHeld6.below ((Below.refl _ _).alloc (Nat.le_refl _) _))) (fun hHeld7 => ?_)
  clear hK K hHeld6
  try simp only [Act.put,List.setIfInBounds_toArray,List.set_cons_zero,List.set_cons_succ]
  obtain ⟨r7,z7,M7⟩ := M3.out _ _ _ _ _ hHeld7.e (Rn.three_lim _)
  refine wpAnyH_ready (rs := [35]) (by kernel_rfl) (by simp) ?_
  refine AllReadyH.cons (o := ⟨_,_,_,_,_,_⟩) rfl (fun K hK => ?_) AllReadyH.nil
  go_simp
  refine Calls.mono (M7) ?_
  rintro r w7 ⟨rfl,j7,hw7⟩
  have T7 : Rs.KeyS w w.heap.size TN TE an kn cn ae ke ce w7 := by rw [hw7]; exact hHeld7.below (Rn.beyond2 _ j7)
  clear hw7 M7
  go_wp2_with fail
  refine hK.out _ _ (T7) (fun hHeld8 => ?_)
  clear hK K hHeld7
  try simp only [Act.put,List.setIfInBounds_toArray,List.set_cons_zero,List.set_cons_succ]
  refine wpAnyH_take (i := 36) (oi := ⟨_,_,_,_,_,_⟩) (v := ?vg9_35) rfl (by kernel_rfl) (by kernel_rfl) (by kernel_rfl) (fun _ _ _ h => h) (Or.inl ⟨by rfl,?hyg9_35⟩) (by assumption) ?restg9_35
  case hyg9_35 => (intro W hW; go_simp; try with_reducible rfl)
  try simp only [Act.put,List.setIfInBounds_toArray,List.set_cons_zero,List.set_cons_succ]
  refine wpAnyH_take (i := 37) (oi := ⟨_,_,_,_,_,_⟩) (v := ?vg9_36) rfl (by kernel_rfl) (by kernel_rfl) (by kernel_rfl) (fun _ _ _ h => h) (Or.inl ⟨by rfl,?hyg9_36⟩) (by assumption) ?restg9_36
  case hyg9_36 => (intro W hW; go_simp; try with_reducible rfl)
  try simp only [Act.put,List.setIfInBounds_toArray,List.set_cons_zero,List.set_cons_succ]
  refine wpAnyH_take (i := 38) (oi := ⟨_,_,_,_,_,_⟩) (v := ?vg9_37) rfl (by kernel_rfl) (by kernel_rfl) (by kernel_rfl) (fun _ _ _ h => h) (Or.inl ⟨by rfl,?hyg9_37⟩) (by assumption) ?restg9_37
  case hyg9_37 => (intro W hW; go_simp; try with_reducible rfl)
  try simp only [Act.put,List.setIfInBounds_toArray,List.set_cons_zero,List.set_cons_succ]
  refine wpAnyH_take (i := 39) (oi := ⟨_,_,_,_,_,_⟩) (v := ?vg9_38) rfl (by kernel_rfl) (by kernel_rfl) (by kernel_rfl) (fun _ _ _ h => h) (Or.inl ⟨by rfl,?hyg9_38⟩) (by assumption) ?restg9_38
  case hyg9_38 => (intro W hW; go_simp; try with_reducible rfl)
  try simp only [Act.put,List.setIfInBounds_toArray,List.set_cons_zero,List.set_cons_succ]
  refine wpAnyH_ready (rs := [40]) (by kernel_rfl) (by simp) ?_
  refine AllReadyH.cons (o := ⟨_,_,_,_,_,_⟩) rfl (fun K hK => ?_) AllReadyH.nil
  go_simp
  refine Calls.mono (BE.out _ _ _ _ hHeld8.e) ?_
  rintro r wz ⟨rfl,rfl⟩
  go_wp2_with fail
  refine hK.out _ _ (hHeld8) (fun hHeld9 => ?_)
  clear hK K hHeld8
  try simp only [Act.put,List.setIfInBounds_toArray,List.set_cons_zero,List.set_cons_succ]
  refine wpAnyH_take (i := 41) (oi := ⟨_,_,_,_,_,_⟩) (v := ?vg9_39) rfl (by kernel_rfl) (by kernel_rfl) (by kernel_rfl) (fun _ _ _ h => h) (Or.inl ⟨by rfl,?hyg9_39⟩) (by assumption) ?restg9_39
  case hyg9_39 => (intro W hW; go_simp; try with_reducible rfl)
  try simp only [Act.put,List.setIfInBounds_toArray,List.set_cons_zero,List.set_cons_succ]
  refine wpAnyH_take (i := 42) (oi := ⟨_,_,_,_,_,_⟩) (v := ?vg9_40) rfl (by kernel_rfl) (by kernel_rfl) (by kernel_rfl) (fun _ _ _ h => h) (Or.inl ⟨by rfl,?hyg9_40⟩) (by assumption) ?restg9_40
  case hyg9_40 => (intro W hW; go_simp; try with_reducible rfl)
  try simp only [Act.put,List.setIfInBounds_toArray,List.set_cons_zero,List.set_cons_succ]
  refine wpAnyH_take (i := 43) (oi := ⟨_,_,_,_,_,_⟩) (v := ?vg9_41) rfl (by kernel_rfl) (by kernel_rfl) (by kernel_rfl) (fun _ _ _ h => h) (Or.inl ⟨by rfl,?hyg9_41⟩) (by assumption) ?restg9_41
  case hyg9_41 => (intro W hW; go_simp; try with_reducible rfl)
  try simp only [Act.put,List.setIfInBounds_toArray,List.set_cons_zero,List.set_cons_succ]
  refine wpAnyH_done (by kernel_rfl) ?_ _
  have HB := Lib.hid hHeld9.bel
  go_wp2_with fail
  go_ret
  exact ⟨rfl,HB.out⟩
end Go.Proofs.YthlecdggkolgmaaGreatDoor
