/- PSS: saltOf. -/
import Derived.Test.YthlecdggkolgmaaGreatDoorRsD
import Derived.Deep.RegionWith
import Derived.Test.YthlecdggkolgmaaGreatDoorNtW
import Derived.Laws.BitsAllLaws
import Derived.Lib.ConvBytes
namespace Go.Proofs.YthlecdggkolgmaaGreatDoor
section
section
open Go.RowKit
/-- The sum within a block. -/
def Rs.inner (s salt : List UInt8) : List UInt8 := Hs.sum 0 (List.replicate 8 0 ++ Hs.sum 0 s ++ salt)
theorem Rs.inner_len (s salt : List UInt8) : (Rs.inner s salt).length = 32 := Rs.sum_len _
theorem Rs.zeros8 : (⟨(Lib.repeatL (⟨#[0]⟩ : ByteArray).data.toList 8).toArray⟩ : ByteArray) = Tx.ba (List.replicate 8 0) := rfl
set_option maxHeartbeats 2000000 in
set_option maxRecDepth 100000 in
theorem Rs.saltedSum_any (w : World) (s salt : ByteArray) (hs : s.size ≤ 1152921504606840000) (ht : salt.size ≤ 1024) :
    Calls Tryz.prog 28 #[.string s,.string salt] w fun e w' => e = .returned (.string (Tx.ba (Rs.inner s.data.toList salt.data.toList))) ∧ Below w.heap.size w w' := by
  have hR := fun W => Tryz.strings_Repeat ⟨#[0]⟩ 8 W (by omega) (by show 1 * 8 ≤ _; omega)
  rw [Rs.zeros8] at hR
  obtain ⟨z,hz⟩ : ∃ z,Tx.ba (List.replicate 8 0) = z := ⟨_,rfl⟩
  have hzs : z.size = 8 := by rw [← hz]; rfl
  obtain ⟨y,hy⟩ : ∃ y,Tx.ba (Hs.sum 0 s.data.toList) = y := ⟨_,rfl⟩
  have hys : y.size = 32 := by rw [← hy]; exact Rs.sum_len _
  have hS := fun W => Hs.Sum256_any s (by omega) W
  have hzy : (z ++ y).size = 40 := by rw [ByteArray.size_append]; omega
  have hT := fun W => Hs.Sum256_any (z ++ y ++ salt) (by rw [ByteArray.size_append]; omega) W
  have e : Tx.ba (Hs.sum 0 (z ++ y ++ salt).data.toList) = Tx.ba (Rs.inner s.data.toList salt.data.toList) := by
    rw [← hz,← hy,Rs.ba_app]
    unfold Rs.inner
    congr 2
  rw [hz] at hR
  rw [hy] at hS
  rw [e] at hT
  have HS := Lib.hid (And.intro hR (And.intro hS hT))
  clear hR hS hT hz hy e hs
  go_enter Tryz.func28,Tryz.ntmps28
  go_wp2_with fail
  go_at_call 49
  refine (HS.out.1 _).mono ?_
  rintro e1 w1 ⟨rfl,hb⟩
  have H1 := Lib.hid hb
  clear hb
  go_wp2_with fail
  go_at_call 16
  refine (HS.out.2.1 _).mono ?_
  rintro e2 w2 ⟨rfl,hb⟩
  have H2 := Lib.hid (H1.out.trans (hb.mono H1.out.size))
  clear hb
  go_wp2_with fail
  go_at_call 16
  refine (HS.out.2.2 _).mono ?_
  rintro e3 w3 ⟨rfl,hb⟩
  have H3 := Lib.hid (H2.out.trans (hb.mono H2.out.size))
  clear hb
  go_wp2_with fail
  go_ret
  exact ⟨rfl,H3.out⟩
end
section
open Go.RowKit
set_option maxHeartbeats 1000000 in
theorem Rs.hasEnd (s t : ByteArray) (w : World) (h1 : 1 ≤ s.size) (hs : s.size ≤ 1152921504606840000) (ht : s.extract (s.size - 1) s.size = t) (r : Bool) (hr : (t.toList == [188]) = r) :
    Calls Tryz.prog 72 #[.string s,.string ⟨#[188]⟩] w fun e w' => e = .returned (.bool r) ∧ w' = w := by
  obtain ⟨n,hn⟩ : ∃ n,s.size = n + 1 := ⟨s.size - 1,by omega⟩
  rw [hn] at ht hs
  have ht : s.extract n (n + 1) = t := ht
  have hz : (s.size : Int) = (n : Int) + 1 := by omega
  have h0 : (1 : Int) ≤ (n : Int) + 1 := by omega
  have hnb : (n : Int) ≤ 1152921504606840000 := by omega
  have hsub : (n : Int) + 1 - 1 = (n : Int) := by omega
  clear h1
  go_enter Tryz.func72,Tryz.ntmps72
  go_wp2_with fail
  go_ret
  exact ⟨by rw [← hr]; rfl,rfl⟩
set_option maxHeartbeats 1000000 in
theorem Rs.liteEnd (s t : ByteArray) (w : World) (h1 : 1 ≤ s.size) (hs : s.size ≤ 1152921504606840000) (ht : s.extract (s.size - 1) s.size = t) :
    Calls Tryz.prog 48 #[.string s,.string ⟨#[188]⟩] w fun e w' => e = .returned (.tuple #[.string (if (t.toList == [188]) = true then s.extract 0 (s.size - 1) else s),.bool (t.toList == [188])]) ∧ w' = w := by
  obtain ⟨r,hr⟩ : ∃ r,(t.toList == [188]) = r := ⟨_,rfl⟩
  have HH := Lib.hid (Rs.hasEnd s t w h1 hs ht r hr)
  rw [hr]
  obtain ⟨n,hn⟩ : ∃ n,s.size = n + 1 := ⟨s.size - 1,by omega⟩
  obtain ⟨q,hq⟩ : ∃ q,s.extract 0 n = q := ⟨_,rfl⟩
  rw [hn] at hs ⊢
  rw [Nat.add_sub_cancel,hq]
  have hz : (s.size : Int) = (n : Int) + 1 := by omega
  have hnb : (n : Int) ≤ 1152921504606840000 := by omega
  have hsub : (n : Int) + 1 - 1 = (n : Int) := by omega
  clear h1 ht hr
  cases r
  · go_enter Tryz.func48,Tryz.ntmps48
    go_wp2_with fail
    go_at_call 72
    refine Calls.mono HH.out ?_
    rintro e w' ⟨rfl,rfl⟩
    go_wp2_with fail
    go_ret2
    exact ⟨rfl,rfl⟩
  · go_enter Tryz.func48,Tryz.ntmps48
    go_wp2_with fail
    go_at_call 72
    refine Calls.mono HH.out ?_
    rintro e w' ⟨rfl,rfl⟩
    go_wp2_with fail
    go_ret2
    exact ⟨rfl,rfl⟩
set_option maxHeartbeats 1000000 in
theorem Rs.cutEnd (s t : ByteArray) (w : World) (h1 : 1 ≤ s.size) (hs : s.size ≤ 1152921504606840000) (ht : s.extract (s.size - 1) s.size = t) :
    Calls Tryz.prog 26 #[.string s,.string ⟨#[188]⟩] w fun e w' => e = .returned (.tuple #[.string (if (t.toList == [188]) = true then s.extract 0 (s.size - 1) else s),.bool (t.toList == [188])]) ∧ w' = w := by
  have HH := Lib.hid (Rs.liteEnd s t w h1 hs ht)
  generalize (if (t.toList == [188]) = true then s.extract 0 (s.size - 1) else s) = x at HH ⊢
  generalize (t.toList == [188]) = r at HH ⊢
  clear h1 ht hs
  go_enter Tryz.func26,Tryz.ntmps26
  go_wp2_with fail
  go_at_call 48
  refine Calls.mono HH.out ?_
  rintro e w' ⟨rfl,rfl⟩
  go_wp2_with fail
  go_ret2
  exact ⟨rfl,rfl⟩
end
end
section
open Go.RowKit
def Rs.at (l : List UInt8) (j : Nat) : Nat := (l.getD j 0).toNat
theorem Rs.at_lt (l : List UInt8) (j : Nat) : Rs.at l j < 256 := UInt8.toNat_lt _
theorem Rs.at_get (s : ByteArray) (j : Nat) (h : j < s.size) : (s[j]).toNat = Rs.at s.data.toList j := by
  unfold Rs.at
  rw [List.getD_eq_getElem?_getD,List.getElem?_eq_getElem (by simpa using h)]
  rfl
/-- What is left of what stands ahead of the sum, without its mask. -/
def Rs.bf (a m : Nat → Nat) (sp j : Nat) : Nat := if j = 0 then (m 0 ^^^ a 0) &&& (255 / 2 ^ sp) else m j ^^^ a j
theorem Rs.xor_lt (a b : Nat) (ha : a < 256) (hb : b < 256) : a ^^^ b < 256 := Nat.xor_lt_two_pow (n := 8) ha hb
theorem Rs.and_lt (a b : Nat) (ha : a < 256) : a &&& b < 256 := Nat.lt_of_le_of_lt Nat.and_le_left ha
/-- The bytes of a text, in a block of their own. -/
theorem Rs.Byt_text (w : World) (s : ByteArray) : Nt.Byt (Lib.bytesWorld w 5 s) w.heap.size 0 s.size (Rs.at s.data.toList) ∧ Below w.heap.size w (Lib.bytesWorld w 5 s) := by
  have hge := grownCap_ge w s.size 0 5
  have hat := Lib.bytesWorld_at_new w 5 s
  have hsz : (Lib.bytesCells w 5 s).size = grownCap w s.size 0 5 := by
    simp only [Lib.bytesCells,Array.size_append,Array.size_map,Array.size_replicate,ByteArray.size_data]
    omega
  refine ⟨⟨fun j hj => ?_,fun j hj => ?_,(Array.getElem?_eq_some_iff.1 hat).1⟩,⟨rfl,rfl,rfl,by rw [Lib.bytesWorld_size]; omega,fun k hk => Lib.bytesWorld_at_old w _ s k hk⟩⟩
  · rw [Nat.zero_add,Lib.bytesWorld_cell w _ s j hj]
    have e := Rs.at_get s j hj
    rw [← e]
    unfold Rs.at at e
    rw [e]
  · simp only [World.frozen?,hat]
    simp
    omega
theorem Rs.Byt_cut {w : World} {b n cap : Nat} {f : Nat → Nat} (off k : Nat) (h : Nt.Byt w b 0 n f) (hf : ∀ j,f j < 256) (hk : off + k ≤ n) : (convert 36 9 (.slice (some ⟨b,off,none⟩) k cap)).run Tryz.prog w = .ok (.string (Tx.ba ((List.range k).map fun j => UInt8.ofNat (f (off + j))))) w := by
  have hl : ((List.range k).map fun j => UInt8.ofNat (f (off + j))).length = k := by simp
  have := run_convert_bytes_back (P := Tryz.prog) w _ _ _ ⟨b,off,none⟩ cap ((List.range k).map fun j => UInt8.ofNat (f (off + j))) Tryz.underlying36 Tryz.underlying5 Tryz.underlying9 (fun j hj => by
    have hj' : j < k := by rw [← hl]; exact hj
    have ea : ((⟨b,off,none⟩ : Addr).add j) = ⟨b,0 + (off + j),none⟩ := by unfold Addr.add; split <;> simp_all
    rw [ea,h.cell (off + j) (by omega)]
    simp only [List.getElem_map,List.getElem_range]
    rw [UInt8.toNat_ofNat_of_lt' (hf _)])
  rw [hl] at this
  exact this
theorem Rs.toList_inj (a b : ByteArray) : a.toList = b.toList ↔ a = b := by
  constructor
  · intro e
    apply ByteArray.ext
    rw [← Array.toList_inj]
    simpa [ByteArray.toList_eq] using e
  · intro e
    rw [e]
theorem Rs.Byt_below {w w' : World} {b off n B : Nat} {f : Nat → Nat} (h : Nt.Byt w b off n f) (hb : Below B w w') (hB : b < B) : Nt.Byt w' b off n f :=
  ⟨fun j hj => (hb.cell (p := ⟨b,off + j,none⟩) hB).trans (h.cell j hj),fun j hj => (hb.frozen (p := ⟨b,off + j,none⟩) hB).trans (h.fro j hj),Nat.lt_of_lt_of_le h.lt hb.size⟩
theorem Rs.Byt_congr {w : World} {b n : Nat} {f f' : Nat → Nat} (h : Nt.Byt w b 0 n f) (hf : ∀ j,j < n → f j = f' j) : Nt.Byt w b 0 n f' :=
  ⟨fun j hj => by rw [← hf j hj]; exact h.cell j hj,h.fro,h.lt⟩
theorem Rs.bf_lt (a m : Nat → Nat) (ha : ∀ j,a j < 256) (hm : ∀ j,m j < 256) (sp j : Nat) : Rs.bf a m sp j < 256 := by
  unfold Rs.bf
  split
  · exact Rs.and_lt _ _ (Rs.xor_lt _ _ (hm 0) (ha 0))
  · exact Rs.xor_lt _ _ (hm j) (ha j)
/-- k bytes from off on. -/
def Rs.cut (f : Nat → Nat) (off k : Nat) : List UInt8 := (List.range k).map fun j => UInt8.ofNat (f (off + j))
theorem Rs.cut_len (f : Nat → Nat) (off k : Nat) : (Rs.cut f off k).length = k := by simp [Rs.cut]
def Rs.one (k : Nat) : List UInt8 := List.replicate (k - 1) 0 ++ [1]
theorem Rs.one_rep (k : Nat) : (⟨(Lib.repeatL (⟨#[0]⟩ : ByteArray).data.toList (k - 1)).toArray⟩ : ByteArray) ++ ⟨#[1]⟩ = Tx.ba (Rs.one k) := by
  have h := Lib.repeatL_replicate (0 : UInt8) 1 (k - 1)
  rw [Nat.mul_one] at h
  have e1 : (⟨(Lib.repeatL (⟨#[0]⟩ : ByteArray).data.toList (k - 1)).toArray⟩ : ByteArray) = Tx.ba (List.replicate (k - 1) 0) := by rw [← h]; rfl
  rw [e1,show (⟨#[1]⟩ : ByteArray) = Tx.ba [1] from rfl,Rs.ba_app]
  rfl
set_option maxHeartbeats 4000000 in
set_option maxRecDepth 100000 in
theorem Rs.saltOf_high (w : World) (ok : Rs.Ok w) (A h : ByteArray) (n sp : Nat) (hA : A.size = n) (h1 : 33 ≤ n) (h2 : n ≤ 479) (hsp : sp ≤ 7) (hb : Rs.at A.data.toList 0 / 2 ^ (8 - sp) ≠ 0) :
    Calls Tryz.prog 27 #[.string A,.string h,.int .i64 (sp : Int)] w fun e w' => ∃ v,e = .returned (.tuple #[.string ⟨#[]⟩,v]) ∧ Rs.Err w' v 42 ∧ Below w.heap.size w w' := by
  obtain ⟨a,hv⟩ := ok.2 42 (by decide) (by decide)
  have hx : w.cell? ⟨2,0,none⟩ = some (.iface 200 (.pointer (some a))) := hv.var
  have HV := Lib.hid hv
  clear hv ok
  have h0 : 0 < A.size := by omega
  have hspz : (sp : Int) ≤ 7 := by omega
  have hz : (A.size : Int) = (n : Int) := by omega
  have hnz : (0 : Int) < (n : Int) := by omega
  have hc0 := Rs.at_get A 0 h0
  obtain ⟨c,hc⟩ : ∃ c,A[0] = c := ⟨_,rfl⟩
  rw [hc] at hc0
  have t1 : ((c.toNat : Int) / 2 ^ (8 - sp) != 0) = true := by
    rw [← hc0] at hb
    have e : (c.toNat : Int) / 2 ^ (8 - sp) = ((c.toNat / 2 ^ (8 - sp) : Nat) : Int) := by simp
    rw [e,bne_iff_ne]
    exact fun h => hb (by exact_mod_cast h)
  clear hb hc0
  go_enter Tryz.func27,Tryz.ntmps27
  go_wp2_with fail
  go_quiet (fail)
  go_wp2_with fail
  go_ret2
  exact ⟨_,rfl,.inr ⟨by decide,by decide,a,1,.about _ .leaf,HV.out.below (below_drewN (Below.refl _ _) _)⟩,below_drewN (Below.refl _ _) _⟩
set_option maxHeartbeats 1000000 in
set_option maxRecDepth 100000 in
theorem Rs.saltOf_low (w : World) (ok : Rs.Ok w) (A h : ByteArray) (n sp : Nat) (hA : A.size = n) (h1 : 33 ≤ n) (h2 : n ≤ 479) (hsp : sp ≤ 7) (hh : h.size ≤ 1024) (hb : Rs.at A.data.toList 0 / 2 ^ (8 - sp) = 0) :
    Calls Tryz.prog 27 #[.string A,.string h,.int .i64 (sp : Int)] w fun e w' => ((Rs.cut (Rs.bf (Rs.at A.data.toList) (Rs.at (Rs.mask h n).data.toList) sp) 0 (n - 32) = Rs.one (n - 32) ∧ e = .returned (.tuple #[.string (Tx.ba (Rs.cut (Rs.bf (Rs.at A.data.toList) (Rs.at (Rs.mask h n).data.toList) sp) (n - 32) 32)),.nilIface])) ∨
      (Rs.cut (Rs.bf (Rs.at A.data.toList) (Rs.at (Rs.mask h n).data.toList) sp) 0 (n - 32) ≠ Rs.one (n - 32) ∧ ∃ v,e = .returned (.tuple #[.string ⟨#[]⟩,v]) ∧ Rs.Err w' v 42)) ∧ Below w.heap.size w w' := by
  have h0 : 0 < A.size := by omega
  have hspz : (sp : Int) ≤ 7 := by omega
  have hz : (A.size : Int) = (n : Int) := by omega
  have hnz : (0 : Int) < (n : Int) := by omega
  have hnb : (n : Int) ≤ 479 := by omega
  have hc0 := Rs.at_get A 0 h0
  obtain ⟨c,hc⟩ : ∃ c,A[0] = c := ⟨_,rfl⟩
  rw [hc] at hc0
  have t1 : ((c.toNat : Int) / 2 ^ (8 - sp) != 0) = false := by
    rw [← hc0] at hb
    have e : (c.toNat : Int) / 2 ^ (8 - sp) = ((c.toNat / 2 ^ (8 - sp) : Nat) : Int) := by simp
    rw [e,hb]
    rfl
  have HM := Lib.hid (fun W => Rs.mask_any W h n (by omega) (by omega))
  obtain ⟨M,hM⟩ : ∃ M,Rs.mask h n = M := ⟨_,rfl⟩
  have hMs : M.size = n := by rw [← hM]; exact Rs.mask_size h n (by omega)
  rw [hM] at HM ⊢
  have hal := Rs.at_lt A.data.toList
  have hml := Rs.at_lt M.data.toList
  have hga := Rs.at_get A
  obtain ⟨a,ha⟩ : ∃ a,Rs.at A.data.toList = a := ⟨_,rfl⟩
  obtain ⟨m,hm⟩ : ∃ m,Rs.at M.data.toList = m := ⟨_,rfl⟩
  rw [ha] at hal hga hc0 ⊢
  rw [hm] at hml ⊢
  have HA := Lib.hid (And.intro hal (And.intro hml hga))
  have HT := Lib.hid (fun W => Rs.Byt_text W M)
  rw [hMs,hm] at HT
  have hcv := fun W => Lib.run_convert_string_bytes (P := Tryz.prog) W 9 36 5 M Tryz.underlying9 Tryz.underlying36 Tryz.underlying5
  have HO := Lib.hid (And.intro ok (And.intro hM hc0))
  clear hb hc0 hM ok
  go_enter Tryz.func27,Tryz.ntmps27
  go_upto_region 4 with ((go_at_call 32; refine Calls.mono (HM.out _) ?_; rintro e1 w1 ⟨rfl,hb1⟩))
  have hT := HT.out w1
  have hge := grownCap_ge w1 n 0 5
  obtain ⟨C,hC⟩ : ∃ C,grownCap w1 n 0 5 = C := ⟨_,rfl⟩
  obtain ⟨g,hg⟩ : ∃ g,w1.heap.size = g := ⟨_,rfl⟩
  rw [hC] at hge ⊢
  rw [hg] at hT ⊢
  clear hcv
  generalize Lib.bytesWorld w1 5 M = w2 at hT ⊢
  have hgw : w.heap.size ≤ g := by rw [← hg]; exact hb1.size
  have H2 := Lib.hid (And.intro hT.1 (And.intro hT.2 (And.intro hgw hb1)))
  clear hT hg hC hgw hb1 HM HT
  go_wp2_with fail
  go_loopw [27] (fun iv wr => ∃ (i : Nat) (f : Nat → Nat),i ≤ n ∧ iv = .int .i64 (i : Int) ∧ Nt.Byt wr g 0 n f ∧ (∀ j,j < i → f j = m j ^^^ a j) ∧ (∀ j,i ≤ j → f j = m j) ∧ Below g w1 wr) (fun iv _ => n - (intOf iv).toNat)
  case atStart => exact ⟨0,m,by omega,rfl,H2.out.1,fun j hj => by omega,fun j _ => rfl,H2.out.2.1⟩
  case round =>
  obtain ⟨i,f,hi,rfl,hL,hlo,hup,hB⟩ := hrel
  obtain ⟨w3,rfl⟩ : ∃ w3,w3 = wr := ⟨_,rfl⟩
  by_cases hin : i < n
  · have hiz : (i : Int) < (n : Int) := by omega
    have hi0 : 0 ≤ (i : Int) := by omega
    have hiA : i < A.size := by omega
    have hib : (i : Int) ≤ 479 := by omega
    have c3 := (hL.drewN 1).cell i hin
    have f3 := (hL.drewN 1).fro i hin
    rw [Nat.zero_add] at c3 f3
    have c3 : w3.drew.cell? ⟨g,i,none⟩ = _ := c3
    have f3 : w3.drew.frozen? ⟨g,i,none⟩ = false := f3
    have hx := hup i (Nat.le_refl _)
    obtain ⟨x,ex⟩ : ∃ x,f i = x := ⟨_,rfl⟩
    rw [ex] at c3 hx
    have hxl : x < 256 := by rw [hx]; exact HA.out.2.1 i
    have hy := HA.out.2.2 i hiA
    obtain ⟨d,hd⟩ : ∃ d,A[i] = d := ⟨_,rfl⟩
    rw [hd] at hy
    have hxo : bits .xor .u8 (x : Int) (d.toNat : Int) = ((x ^^^ d.toNat : Nat) : Int) := u8_xor_nat x d.toNat hxl (UInt8.toNat_lt _)
    obtain ⟨z,hz2⟩ : ∃ z,x ^^^ d.toNat = z := ⟨_,rfl⟩
    rw [hz2] at hxo
    have hzm : z = m i ^^^ a i := by rw [← hz2,hx,hy]
    have hLs := (hL.drewN 1).set i z
    rw [Nat.zero_add] at hLs
    have hBs := (below_drewN hB 1).setCell (p := ⟨g,i,none⟩) (Nat.le_refl _) (.int .u8 (z : Int))
    have HV := Lib.hid (And.intro hLs (And.intro hBs (And.intro hlo (And.intro hup hzm))))
    clear hL hlo hup hB hLs hBs hzm hz2 hy ex hx hal hml hga ha hm hA
    go_wp2_with fail
    go_region
    go_wp2_with fail
    refine ⟨⟨i + 1,_,by omega,by go_num,HV.out.1,?_,?_,HV.out.2.1⟩,by simp [intOf]; omega⟩
    · intro j hj
      unfold Vl.upd
      by_cases e : j = i
      · rw [if_pos e,e]
        exact HV.out.2.2.2.2
      · rw [if_neg e]
        exact HV.out.2.2.1 j (by omega)
    · intro j hj
      unfold Vl.upd
      rw [if_neg (by omega)]
      exact HV.out.2.2.2.1 j (by omega)
  · obtain ⟨p,hp⟩ : ∃ p,n - 32 = p := ⟨_,rfl⟩
    have hiz : ¬ (i : Int) < (n : Int) := by omega
    have hin2 : i = n := by omega
    have hn0 : 0 < n := by omega
    have c3 := (hL.drewN 1).cell 0 hn0
    have f3 := (hL.drewN 1).fro 0 hn0
    rw [Nat.zero_add] at c3 f3
    have c3 : w3.drew.cell? ⟨g,0,none⟩ = _ := c3
    have f3 : w3.drew.frozen? ⟨g,0,none⟩ = false := f3
    have hx := hlo 0 (by omega)
    obtain ⟨x,ex⟩ : ∃ x,f 0 = x := ⟨_,rfl⟩
    rw [ex] at c3 hx
    have hxl : x < 256 := by rw [hx]; exact Rs.xor_lt _ _ (HA.out.2.1 0) (HA.out.1 0)
    have hsh : (255 : Int) / 2 ^ sp = ((255 / 2 ^ sp : Nat) : Int) := by simp
    obtain ⟨y,hy⟩ : ∃ y,255 / 2 ^ sp = y := ⟨_,rfl⟩
    have hyl : y < 256 := by rw [← hy]; exact Nat.lt_of_le_of_lt (Nat.div_le_self _ _) (by omega)
    rw [hy] at hsh
    have han : bits .and .u8 (x : Int) (y : Int) = ((x &&& y : Nat) : Int) := u8_and_nat x y hxl hyl
    obtain ⟨z,hz2⟩ : ∃ z,x &&& y = z := ⟨_,rfl⟩
    rw [hz2] at han
    have hLs := (hL.drewN 1).set 0 z
    rw [Nat.zero_add] at hLs
    have hLb : Nt.Byt ((w3.drewN 1).setCell ⟨g,0,none⟩ (.int .u8 (z : Int))) g 0 n (Rs.bf a m sp) := Rs.Byt_congr hLs (fun j hj => by
      unfold Vl.upd Rs.bf
      by_cases e : j = 0
      · rw [if_pos e,if_pos e,← hz2,hx,hy]
      · rw [if_neg e,if_neg e]
        exact hlo j (by omega))
    have hBs := (below_drewN hB 1).setCell (p := ⟨g,0,none⟩) (Nat.le_refl _) (.int .u8 (z : Int))
    have hBw := H2.out.2.2.2.trans (hBs.mono H2.out.2.2.1)
    have HV := Lib.hid (And.intro hLb (And.intro hBw hBs))
    have hpz : (n : Int) - 32 = (p : Int) := by omega
    have hp1 : 1 ≤ p := by omega
    have hpb : p ≤ 447 := by omega
    have HP := Lib.hid (And.intro hp (And.intro hin2 hge))
    clear hL hlo hup hB hLs hBs hLb hBw hz2 hy ex hx hal hml hga ha hm hA hp hin2
    go_upto_region 9 with fail
    go_region
    go_upto_region 11 with fail
    have h4 : Nt.Byt (w3.setCell ⟨g,0,none⟩ (.int .u8 (z : Int))).drew g 0 n (Rs.bf a m sp) := HV.out.1
    have b4 : Below w.heap.size w (w3.setCell ⟨g,0,none⟩ (.int .u8 (z : Int))).drew := HV.out.2.1
    revert h4 b4
    generalize (w3.setCell ⟨g,0,none⟩ (.int .u8 (z : Int))).drew = w4
    intro h4 b4
    have hbl := Rs.bf_lt a m HA.out.1 HA.out.2.1 sp
    obtain ⟨q,hq⟩ : ∃ q,p - 1 = q := ⟨_,rfl⟩
    have hqz : (p : Int) - 1 = (q : Int) := by omega
    have hqb : q ≤ 447 := by omega
    have hqi : (q : Int) ≤ 447 := by omega
    have hpi : (p : Int) ≤ 447 := by omega
    have hwq : IntKind.i64.wrap (q : Int) = (q : Int) := by unfold IntKind.wrap; simp [IntKind.bits,IntKind.signed]; omega
    have HR := Lib.hid (fun W => Tryz.strings_Repeat ⟨#[0]⟩ q W (by omega) (by show 1 * q ≤ _; omega))
    have hRY := Rs.one_rep p
    rw [hq] at hRY
    obtain ⟨R,hR⟩ : ∃ R,(⟨(Lib.repeatL (⟨#[0]⟩ : ByteArray).data.toList q).toArray⟩ : ByteArray) = R := ⟨_,rfl⟩
    obtain ⟨Y,hY⟩ : ∃ Y,Tx.ba (Rs.one p) = Y := ⟨_,rfl⟩
    obtain ⟨X,hX⟩ : ∃ X,Tx.ba (Rs.cut (Rs.bf a m sp) 0 p) = X := ⟨_,rfl⟩
    rw [hR,hY] at hRY
    rw [hR] at HR
    have hRs : R.size ≤ 512 := by
      have e := congrArg ByteArray.size hRY
      rw [ByteArray.size_append,← hY] at e
      have e2 : (Tx.ba (Rs.one p)).size = p - 1 + 1 := by show (Rs.one p).length = _; unfold Rs.one; simp
      rw [e2] at e
      omega
    have cX := Rs.Byt_cut (cap := C) 0 p (h4.drewN 1) hbl (by omega)
    have cX : (convert 36 9 (.slice (some ⟨g,0,none⟩) p C)).run Tryz.prog w4.drew = .ok (.string (Tx.ba (Rs.cut (Rs.bf a m sp) 0 p))) w4.drew := cX
    rw [hX] at cX
    have hpn : (p : Int) ≤ (n : Int) := by omega
    have hpC : (p : Int) ≤ (C : Int) := by have := HP.out.2.2; omega
    have hnp : (n : Int) - (p : Int) = 32 := by omega
    have hnpN : n - p = 32 := by omega
    have hCb : (n : Int) ≤ (C : Int) := by have := HP.out.2.2; omega
    have hXY : (Rs.cut (Rs.bf a m sp) 0 p = Rs.one p) ↔ X = Y := by
      rw [← hX,← hY]
      constructor
      · intro e; rw [e]
      · intro e
        have := congrArg (fun b : ByteArray => b.data.toList) e
        simpa [Tx.ba] using this
    have HW := Lib.hid (And.intro h4 (And.intro b4 (And.intro hbl (And.intro hXY hX))))
    clear h4 b4 hbl hq hR hY hX hXY
    by_cases hE : X = Y
    · have t2 : (X.toList == Y.toList) = true := by rw [hE]; simp
      have t3 : (X.toList != Y.toList) = false := by rw [hE]; simp
      have HE := Lib.hid hE
      clear hE
      go_region_with (go_at_call 49; refine Calls.mono (HR.out _) ?_; rintro e5 w5 ⟨rfl,hb5⟩; have hb6 : Below w4.heap.size w4 w5 := (below_drewN (Below.refl w4.heap.size w4) 1).trans hb5; have h5 := Rs.Byt_below HW.out.1 hb6 HW.out.1.lt; have cX5 := Rs.Byt_cut (cap := C) 0 p h5 HW.out.2.2.1 (by have := HP.out; omega); rw [show (Tx.ba ((List.range p).map fun j => UInt8.ofNat (Rs.bf a m sp (0 + j)))) = X from HW.out.2.2.2.2] at cX5; have H5 := Lib.hid (And.intro h5 (HW.out.2.1.trans (hb6.mono HW.out.2.1.size))); clear hb5 hb6 h5)
      all_goals
        clear cX5 cX
        have cS := fun cap => Rs.Byt_cut (cap := cap) p 32 H5.out.1 HW.out.2.2.1 (by have := HP.out; omega)
        obtain ⟨S,hS⟩ : ∃ S,Tx.ba ((List.range 32).map fun j => UInt8.ofNat (Rs.bf a m sp (p + j))) = S := ⟨_,rfl⟩
        rw [hS] at cS
        have HS := Lib.hid hS
        clear hS
        go_wp2_with fail
        go_ret2
        refine ⟨.inl ⟨?_,?_⟩,H5.out.2⟩
        · rw [HP.out.1]
          exact HW.out.2.2.2.1.2 HE.out
        · rw [HP.out.1,show Tx.ba (Rs.cut (Rs.bf a m sp) p 32) = S from HS.out]
          rfl
    · have t2 : (X.toList == Y.toList) = false := by rw [beq_eq_false_iff_ne]; exact fun e => hE (by rwa [Rs.toList_inj] at e)
      have t3 : (X.toList != Y.toList) = true := by rw [bne,t2]; rfl
      have HE := Lib.hid hE
      clear hE
      go_region_with (go_at_call 49; refine Calls.mono (HR.out _) ?_; rintro e5 w5 ⟨rfl,hb5⟩; have hb6 : Below w4.heap.size w4 w5 := (below_drewN (Below.refl w4.heap.size w4) 1).trans hb5; have h5 := Rs.Byt_below HW.out.1 hb6 HW.out.1.lt; have cX5 := Rs.Byt_cut (cap := C) 0 p h5 HW.out.2.2.1 (by have := HP.out; omega); rw [show (Tx.ba ((List.range p).map fun j => UInt8.ofNat (Rs.bf a m sp (0 + j)))) = X from HW.out.2.2.2.2] at cX5; have H5 := Lib.hid (And.intro h5 (HW.out.2.1.trans (hb6.mono HW.out.2.1.size))); clear hb5 hb6 h5)
      all_goals
        clear cX5 cX
        obtain ⟨u,hv⟩ := (HO.out.1.below H5.out.2).2 42 (by decide) (by decide)
        have hx : w5.cell? ⟨2,0,none⟩ = some (.iface 200 (.pointer (some u))) := hv.var
        have HV2 := Lib.hid hv
        clear hv
        go_upto_region 12 with fail
        go_quiet (fail)
        go_wp2_with fail
        go_ret2
        refine ⟨.inr ⟨?_,_,rfl,.inr ⟨by decide,by decide,u,1,.about _ .leaf,HV2.out.below (below_drewN (Below.refl _ _) _)⟩⟩,below_drewN H5.out.2 _⟩
        rw [HP.out.1]
        exact fun e => HE.out (HW.out.2.2.2.1.1 e)
end
end Go.Proofs.YthlecdggkolgmaaGreatDoor
