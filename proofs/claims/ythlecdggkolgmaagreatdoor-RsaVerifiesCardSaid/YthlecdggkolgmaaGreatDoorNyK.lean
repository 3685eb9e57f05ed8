/- Pad, where it fits. -/
import Derived.Test.YthlecdggkolgmaaGreatDoorNyD
import Derived.Lib.Repeat
namespace Go.Proofs.YthlecdggkolgmaaGreatDoor
open Go.RowKit

/-- n bytes, noughts ahead. -/
def Nt.pd (x n : Nat) : ByteArray := ⟨(Lib.repeatL [0] (n - Nt.by x)).toArray⟩ ++ ⟨(Nt.fm x).toArray⟩
theorem Nt.rep_zeros (k : Nat) : Lib.repeatL [0] k = List.replicate k (0 : UInt8) := by
  have h := Lib.repeatL_replicate (0 : UInt8) 1 k
  rw [Nat.mul_one] at h
  exact h
theorem Nt.pd_size (x n : Nat) (h : Nt.by x ≤ n) : (Nt.pd x n).size = n := by
  unfold Nt.pd
  rw [ByteArray.size_append]
  show (Lib.repeatL [0] (n - Nt.by x)).length + (Nt.fm x).length = n
  rw [Nt.fm_len,Nt.rep_zeros,List.length_replicate]
  omega
theorem Nt.pd_nv (x n : Nat) : Nt.nv (Nt.pd x n) = x := by
  unfold Nt.pd Nt.nv
  rw [ByteArray.data_append,Array.toList_append]
  show Nt.rd (Lib.repeatL [0] (n - Nt.by x) ++ Nt.fm x) = x
  rw [Nt.rd_append,Nt.rep_zeros,Nt.rd_zeros,Nt.rd_fm]
  omega
set_option maxHeartbeats 1000000 in
theorem Nt.Pad_ok (w : World) (s : ByteArray) (n : Nat) (hn : n ≤ 512) (h : Nt.by (Nt.nv s) ≤ n) :
    Calls Tryz.prog 64 #[.string s,.int .i64 (n : Int)] w fun e w' => e = .returned (.tuple #[.string (Nt.pd (Nt.nv s) n),.int .i64 0]) ∧ Below w.heap.size w w' := by
  have T1 := Nt.Trim_any w s
  have hsz := Nt.ts_size s
  obtain ⟨x,hx⟩ : ∃ x,Nt.ts s = x := ⟨_,rfl⟩
  obtain ⟨P,hP⟩ : ∃ P,Nt.pd (Nt.nv s) n = P := ⟨_,rfl⟩
  have hP2 : (⟨(Lib.repeatL (⟨#[0]⟩ : ByteArray).data.toList (n - Nt.by (Nt.nv s))).toArray⟩ : ByteArray) ++ x = P := by rw [← hP,← hx]; rfl
  rw [hx] at T1 hsz
  obtain ⟨l,hl⟩ : ∃ l,Nt.by (Nt.nv s) = l := ⟨_,rfl⟩
  rw [hl] at hsz h hP2
  obtain ⟨k,hk⟩ : ∃ k,n - l = k := ⟨_,rfl⟩
  rw [hk] at hP2
  have hR := fun W => Tryz.strings_Repeat ⟨#[0]⟩ k W (by omega) (by show 1 * k ≤ _; omega)
  obtain ⟨z,hz⟩ : ∃ z,(⟨(Lib.repeatL (⟨#[0]⟩ : ByteArray).data.toList k).toArray⟩ : ByteArray) = z := ⟨_,rfl⟩
  have hzs : z.size = k := by
    rw [← hz]
    show (Lib.repeatL [0] k).length = k
    rw [Nt.rep_zeros,List.length_replicate]
  rw [hz] at hP2 hR
  have hn0 : ¬ (n : Int) < 0 := by omega
  have hn5 : ¬ (512 : Int) < (n : Int) := by omega
  have hnl : ¬ (n : Int) < (l : Int) := by omega
  have hkz : (n : Int) - (l : Int) = (k : Int) := by omega
  have hkb : (k : Int) ≤ 512 := by omega
  have hk0 : 0 ≤ (k : Int) := by omega
  have hsz2 : (x.size : Int) = (l : Int) := by rw [hsz]
  have hxb : x.size ≤ 512 := by omega
  have hzb : z.size ≤ 512 := by omega
  have HT := Lib.hid (And.intro T1 hR)
  have HP := Lib.hid hP2
  rw [hP]
  clear T1 hR hx hsz hl hk hP hP2 hz hzs h
  have Pd : Calls Tryz.prog 92 #[.string x,.int .i64 (n : Int)] w fun e w' => e = .returned (.tuple #[.string (z ++ x),.nilIface]) ∧ Below w.heap.size w w' := by
    go_enter Tryz.func92,Tryz.ntmps92
    go_wp2_with fail
    go_at_call 49
    refine (HT.out.2 _).mono ?_
    rintro e1 w1 ⟨rfl,hb⟩
    have H1 := Lib.hid hb
    clear hb
    go_wp2_with fail
    go_ret2
    exact ⟨rfl,H1.out⟩
  have HPd := Lib.hid Pd
  clear Pd
  go_enter Tryz.func64,Tryz.ntmps64
  go_wp2_with fail
  go_at_call 88
  refine Calls.mono HT.out.1 ?_
  rintro e1 w1 ⟨rfl,rfl⟩
  go_wp2_with fail
  go_at_call 92
  refine Calls.mono HPd.out ?_
  rintro e2 w2 ⟨rfl,hb⟩
  have H2 := Lib.hid hb
  clear hb
  go_wp2_with fail
  go_at_call 93
  refine Calls.mono (Nt.told_nil _) ?_
  rintro e4 w4 ⟨rfl,rfl⟩
  go_wp2_with fail
  go_ret2
  exact ⟨by rw [HP.out]; rfl,H2.out⟩
end Go.Proofs.YthlecdggkolgmaaGreatDoor
