/- read: bytes as limbs. -/
import Derived.Test.YthlecdggkolgmaaGreatDoorNtW
import Derived.Test.YthlecdggkolgmaaGreatDoorNtU
import Derived.BigRegion
namespace Go.Proofs.YthlecdggkolgmaaGreatDoor
open Go.RowKit

theorem Nt.read_step (f : Nat → Nat) (N V i a r c : Nat) (hi : i = 4 * a + r) (hr : r < 4) (ha : a < N) (hv : Vl.val 4294967296 f N = V) (hV : V < 256 ^ i) (hc : c < 256) :
    f a < 2 ^ (8 * r) ∧ c * 2 ^ (8 * r) < 4294967296 ∧ (f a ||| c * 2 ^ (8 * r)) = f a + c * 2 ^ (8 * r) ∧ f a + c * 2 ^ (8 * r) < 4294967296 ∧ Vl.val 4294967296 (Vl.upd f a (f a + c * 2 ^ (8 * r))) N = V + c * 256 ^ i := by
  have eP : (256 : Nat) ^ i = 2 ^ (8 * r) * 4294967296 ^ a := by
    rw [hi, show (256 : Nat) = 2 ^ 8 by rfl, ← Nat.pow_mul, show 8 * (4 * a + r) = 8 * r + 32 * a by omega, Nat.pow_add, Nat.pow_mul 2 32]
  have hp : 0 < 4294967296 ^ a := Nat.pow_pos (by decide)
  have hle : f a * 4294967296 ^ a ≤ V := by
    have e1 := Nt.val_split 4294967296 f a (N - a)
    rw [show a + (N - a) = N by omega, hv] at e1
    obtain ⟨m, hm⟩ : ∃ m, N - a = 1 + m := ⟨N - a - 1, by omega⟩
    have e2 := Nt.val_split 4294967296 (fun j => f (a + j)) 1 m
    rw [hm, e2] at e1
    have e3 : Vl.val 4294967296 (fun j => f (a + j)) 1 = f a := by simp [Vl.val]
    rw [e3, Nat.add_mul] at e1
    omega
  have h1 : f a < 2 ^ (8 * r) := by
    rw [eP] at hV
    exact Nat.lt_of_mul_lt_mul_right (Nat.lt_of_le_of_lt hle hV)
  have h24 : 2 ^ (8 * r) ≤ 2 ^ 24 := Nat.pow_le_pow_right (by decide) (by omega)
  have h2 : c * 2 ^ (8 * r) ≤ 255 * 2 ^ 24 := Nat.mul_le_mul (by omega) h24
  have h3 : c * 2 ^ (8 * r) < 4294967296 := by omega
  have h4 : (f a ||| c * 2 ^ (8 * r)) = f a + c * 2 ^ (8 * r) := by
    have h := Nt.up_or c (8 * r) (f a) (by omega) h1
    rw [Nat.mod_eq_of_lt h3] at h
    rw [Nat.or_comm, h, Nat.add_comm]
  refine ⟨h1, h3, h4, by omega, ?_⟩
  have h5 := Vl.val_upd 4294967296 f a (f a + c * 2 ^ (8 * r)) N ha
  rw [Nat.add_mul, hv, Nat.mul_assoc c, ← eP] at h5
  omega
set_option maxHeartbeats 1000000 in
set_option maxRecDepth 100000 in
theorem Nt.read_ok (w : World) (s : ByteArray) (hs : s.size ≤ 512) :
    Calls Tryz.prog 106 #[.string s] w fun e w' => ∃ av k c, e = .returned (.tuple #[.slice av k c, .nilIface]) ∧ Nt.Num w' av k c (Nt.rd s.data.toList) ∧ Below w.heap.size w w' := by
  obtain ⟨L, hL⟩ : ∃ L, s.size = L := ⟨_, rfl⟩
  have hsz : (s.size : Int) = (L : Int) := by rw [hL]
  have hlist : s.data.toList.length = L := by rw [← hL]; simp
  have hval := Nt.rd_val s.data.toList
  rw [hlist] at hval
  obtain ⟨L3, hL3⟩ : ∃ L3, L + 3 = L3 := ⟨_, rfl⟩
  obtain ⟨N, hN⟩ : ∃ N, L3 / 4 = N := ⟨_, rfl⟩
  have hL3z : (L : Int) + 3 = (L3 : Int) := by omega
  have hNz : (L3 : Int) / 4 = (N : Int) := by omega
  have hLb : (L : Int) ≤ 512 := by omega
  have hL3b : (L3 : Int) ≤ 515 := by omega
  have hNb : (N : Int) ≤ 128 := by omega
  have hNb2 : N ≤ 1000000 := by omega
  have H0 := Lib.hid (And.intro hL (And.intro hlist (And.intro hval (And.intro hL3 hN))))
  have hLlo : ¬ (512 : Int) < (L : Int) := by omega
  clear hL hlist hval hL3 hN hs
  go_enter Tryz.func106, Tryz.ntmps106
  go_upto_region 4 with (at_make; refine Nt.wpList_make rfl _ _ rfl N rfl rfl hNb2 ?_)
  have hL0 : Nt.Lim (w.alloc (Obj.cells (Array.replicate N (Value.int IntKind.u32 0)) 145)) w.heap.size 0 N (fun _ => 0) := by
    refine Nt.Lim.ofRow (T := 145) (l := List.replicate N (Value.int .u32 0)) ?_ (fun j hj => ?_) (fun _ => by decide)
    · rw [heap_alloc_new]; simp
    · rw [List.getElem?_replicate, if_pos hj]; rfl
  have hb0 := (Below.refl w.heap.size w).alloc (Nat.le_refl _) (Obj.cells (Array.replicate N (Value.int IntKind.u32 0)) 145)
  obtain ⟨g, hg⟩ : ∃ g, w.heap.size = g := ⟨_, rfl⟩
  revert hL0 hb0
  generalize w.alloc (Obj.cells (Array.replicate N (Value.int IntKind.u32 0)) 145) = w1
  rw [hg]
  intro hL0 hb0
  have HG := Lib.hid (And.intro hg (And.intro hL0 hb0))
  clear hg hL0 hb0
  go_wp2_with fail
  go_loopw [17] (fun iv wr => ∃ (i : Nat) (f : Nat → Nat), i ≤ L ∧ iv = .int .i64 (i : Int) ∧ Nt.Lim wr g 0 N f ∧ Vl.val 4294967296 f N = Vl.val 256 (Nt.lo s.data.toList) i ∧ Below g w wr) (fun iv _ => L - (intOf iv).toNat)
  case atStart => exact ⟨0, _, Nat.zero_le _, rfl, HG.out.2.1, by rw [Vl.val_zero _ _ _ (fun _ _ => rfl)]; rfl, HG.out.2.2⟩
  case round =>
  obtain ⟨i, f, hi, rfl, hLm, hv, hB⟩ := hrel
  obtain ⟨w3, rfl⟩ : ∃ w3, w3 = wr := ⟨_, rfl⟩
  by_cases hin : i < L
  · have hiz : (i : Int) < (L : Int) := by omega
    have hiz0 : 0 ≤ (i : Int) := by omega
    obtain ⟨L1, hL1⟩ : ∃ L1, L - 1 = L1 := ⟨_, rfl⟩
    obtain ⟨p, hp⟩ : ∃ p, L1 - i = p := ⟨_, rfl⟩
    obtain ⟨a, ha⟩ : ∃ a, i / 4 = a := ⟨_, rfl⟩
    obtain ⟨r, hr⟩ : ∃ r, i % 4 = r := ⟨_, rfl⟩
    obtain ⟨t, ht⟩ : ∃ t, 8 * r = t := ⟨_, rfl⟩
    have hall := H0.out
    have haN : a < N := by omega
    have ht24 : t ≤ 24 := by omega
    have hps : p < s.size := by omega
    obtain ⟨c, hc⟩ : ∃ c, s[p] = c := ⟨_, rfl⟩
    obtain ⟨ch, hch⟩ : ∃ ch, c.toNat = ch := ⟨_, rfl⟩
    have hchb : ch < 256 := by rw [← hch]; exact c.toNat_lt
    have hlo : Nt.lo s.data.toList i = ch := by
      unfold Nt.lo
      rw [hall.2.1, show L - 1 - i = p by omega, List.getD_eq_getElem?_getD, List.getElem?_eq_getElem (by rw [hall.2.1]; omega)]
      show (s[p]).toNat = ch
      rw [hc, hch]
    have hVb : Vl.val 256 (Nt.lo s.data.toList) i < 256 ^ i := Vl.val_lt 256 (by decide) _ i (fun j _ => UInt8.toNat_lt _)
    have hst := Nt.read_step f N _ i a r ch (by omega) (by omega) haN hv hVb hchb
    rw [ht] at hst
    have cx := hLm.cell a haN
    have rx := hLm.fro a haN
    have dx := hLm.dig a
    obtain ⟨x, ex⟩ : ∃ x, f a = x := ⟨_, rfl⟩
    rw [ex] at hst cx dx
    rw [Nat.zero_add] at cx rx
    obtain ⟨v, hv2⟩ : ∃ v, ch * 2 ^ t = v := ⟨_, rfl⟩
    rw [hv2] at hst
    obtain ⟨y, hy⟩ : ∃ y, x + v = y := ⟨_, rfl⟩
    rw [hy] at hst
    have hLs := fun k => (hLm.drewN k).set a y haN hst.2.2.2.1
    have hBs := fun k => (hB.trans (Tx.drewNb w3 k)).setCell (p := ⟨g, a, none⟩) (Nat.le_refl _) (.int .u32 (y : Int))
    have e1 : Vl.val 4294967296 (Vl.upd f a y) N = Vl.val 256 (Nt.lo s.data.toList) (i + 1) := by
      rw [hst.2.2.2.2, Vl.val, hlo]
    have hor : bits .or .u32 (x : Int) (v : Int) = (y : Int) := by rw [u32_or_nat _ _ dx hst.2.1, hst.2.2.1]
    have hL1z : (L : Int) - 1 = (L1 : Int) := by omega
    have hpz : (L1 : Int) - (i : Int) = (p : Int) := by omega
    have htz : 8 * (r : Int) = (t : Int) := by omega
    have ht0 : ¬ (t : Int) < 0 := by omega
    have htm : min t 64 = t := Nat.min_eq_left (by omega)
    have haz0 : 0 ≤ (a : Int) := by omega
    have haNz : (a : Int) < (N : Int) := by omega
    have hpz0 : 0 ≤ (p : Int) := by omega
    have hpL : (p : Int) < (L : Int) := by omega
    have hrz0 : 0 ≤ (r : Int) := by omega
    have hq1 : (i : Int).tdiv 4 = (a : Int) := by rw [Int.tdiv_eq_ediv_of_nonneg (by omega)]; omega
    have hq2 : (i : Int).tmod 4 = (r : Int) := by rw [Int.tmod_eq_emod_of_nonneg (by omega)]; omega
    have hq3 : (i : Int) / 4 = (a : Int) := by omega
    have hq4 : (i : Int) % 4 = (r : Int) := by omega
    have hsh : (ch : Int) * 2 ^ t = (v : Int) := by rw [← hv2]; simp
    have hvb := hst.2.1
    have hyb := hst.2.2.2.1
    have HV := Lib.hid (And.intro hLs (And.intro hBs e1))
    have k1 : IntKind.u32.wrap (ch : Int) = (ch : Int) := Nt.u32_eq _ _ (by omega)
    have k2 : IntKind.u32.wrap (v : Int) = (v : Int) := Nt.u32_eq _ _ (by omega)
    have k3 : IntKind.i64.wrap (L1 : Int) = (L1 : Int) := IntWalk.i64_in _ (by omega)
    have k4 : IntKind.i64.wrap (p : Int) = (p : Int) := IntWalk.i64_in _ (by omega)
    have k5 : IntKind.i64.wrap (t : Int) = (t : Int) := IntWalk.i64_in _ (by omega)
    have k6 : IntKind.i64.wrap (a : Int) = (a : Int) := IntWalk.i64_in _ (by omega)
    have k7 : IntKind.i64.wrap (r : Int) = (r : Int) := IntWalk.i64_in _ (by omega)
    clear hst hLs hBs e1 hv hB hLm hL1 hp ha hr ht hall hv2 hy ex hlo hVb hchb
    go_wp2_with fail
    go_region
    all_goals
      have hLs := HV.out.1 1
      have hBs := HV.out.2.1 1
      rw [Nat.zero_add] at hLs
      have HW := Lib.hid (And.intro hLs hBs)
      clear hLs hBs
      go_wp2_with fail
      exact ⟨⟨i + 1, _, by omega, by go_num, HW.out.1, HV.out.2.2, HW.out.2⟩, by simp [intOf]; omega⟩
  · have hie : i = L := by omega
    have hiz : ¬ (i : Int) < (L : Int) := by omega
    have HT := Lib.hid (And.intro (Nt.trimmed_any w3 g 0 N N f hLm (Nat.le_refl _) hNb2) (And.intro hLm (And.intro hB (by rw [hv, hie, H0.out.2.2.1] : Vl.val 4294967296 f N = Nt.rd s.data.toList))))
    clear hLm hv hB hie
    go_wp2_with (go_at_call 124; refine Calls.mono HT.out.1 ?_; rintro e1 w4 ⟨rfl, k, rfl, hk, hz, ht⟩; have HZ := Lib.hid (And.intro hk (And.intro hz ht)); clear hk hz ht)
    go_ret2
    refine ⟨_, _, _, rfl, ?_, HT.out.2.2.1.mono (Nat.le_of_eq HG.out.1)⟩
    rw [← HT.out.2.2.2]
    exact Nt.Num.of HT.out.2.1 HZ.out.1 HZ.out.1 HZ.out.2.1 HZ.out.2.2
theorem Nt.read_long (w : World) (ok : Nt.Ok w) (s : ByteArray) (hs : 512 < s.size) (hb : s.size ≤ 9223372036854775807) :
    Calls Tryz.prog 106 #[.string s] w fun e w' => ∃ v, e = .returned (.tuple #[.slice none 0 0, v]) ∧ Nt.Err w' v 30 ∧ Below w.heap.size w w' := by
  obtain ⟨a, hv⟩ := ok 30 (by decide) (by decide)
  have hc : w.cell? ⟨6, 0, none⟩ = some (.iface 200 (.pointer (some a))) := hv.var
  have HV := Lib.hid hv
  have hsz : (512 : Int) < (s.size : Int) := by omega
  clear hv ok
  go_enter Tryz.func106, Tryz.ntmps106
  go_wp2_with fail
  go_quiet (fail)
  go_wp2_with fail
  go_ret2
  exact ⟨_, rfl, .inr ⟨by decide, by decide, a, rfl, HV.out.below (Tx.drewNb w _)⟩, Tx.drewNb w _⟩
end Go.Proofs.YthlecdggkolgmaaGreatDoor
