/- The calls whose answers the document fixes: 'fixed' answers true. -/
import Derived.Test.YtelfhdihkeafnaaHsY
namespace Go.Proofs.Ytelfhdihkeafnaa
open Go.RowKit

def Hs.S1 : ByteArray := Tx.ba (Hs.sum 0 [97, 98, 99])
def Hs.S2 : ByteArray := Tx.ba (Hs.mac 0 [74, 101, 102, 101] [119, 104, 97, 116, 32, 100, 111, 32, 121, 97, 32, 119, 97, 110, 116, 32, 102, 111, 114, 32, 110, 111, 116, 104, 105, 110, 103, 63])
def Hs.S3 : ByteArray := Tx.ba (Hs.sum 1 [97, 98, 99])
theorem Hs.S1_size : Hs.S1.size = 32 := Hs.sum_length 0 _
theorem Hs.S2_size : Hs.S2.size = 32 := Hs.sum_length 0 _
theorem Hs.S3_size : Hs.S3.size = 48 := Hs.sum_length 1 _
theorem Hs.S1_a : Hs.S1.extract 0 4 = ⟨#[186, 120, 22, 191]⟩ := by decide +kernel
theorem Hs.S1_b : Hs.S1.extract 28 32 = ⟨#[242, 0, 21, 173]⟩ := by decide +kernel
theorem Hs.S2_a : Hs.S2.extract 0 4 = ⟨#[91, 220, 193, 70]⟩ := by decide +kernel
theorem Hs.S3_a : Hs.S3.extract 0 4 = ⟨#[203, 0, 117, 63]⟩ := by decide +kernel
theorem Hs.S3_b : Hs.S3.extract 44 48 = ⟨#[52, 200, 37, 167]⟩ := by decide +kernel
set_option maxHeartbeats 8000000 in
set_option maxRecDepth 100000 in
theorem Hs.fixed_any (w : World) :
    Calls Try.prog 7 #[] w fun e w' => e = .returned (.bool true) ∧ Below w.heap.size w w' := by
  have C1 : ∀ w, Calls Try.prog 14 #[.string ⟨#[97, 98, 99]⟩] w fun e w' => e = .returned (.string Hs.S1) ∧ Below w.heap.size w w' := fun w => Hs.Sum256_any ⟨#[97, 98, 99]⟩ (by decide) w
  have C2 : ∀ w, Calls Try.prog 15 #[.string ⟨#[74, 101, 102, 101]⟩, .string ⟨#[119, 104, 97, 116, 32, 100, 111, 32, 121, 97, 32, 119, 97, 110, 116, 32, 102, 111, 114, 32, 110, 111, 116, 104, 105, 110, 103, 63]⟩] w fun e w' => e = .returned (.string Hs.S2) ∧ Below w.heap.size w w' :=
    fun w => Hs.Mac256_any ⟨#[74, 101, 102, 101]⟩ ⟨#[119, 104, 97, 116, 32, 100, 111, 32, 121, 97, 32, 119, 97, 110, 116, 32, 102, 111, 114, 32, 110, 111, 116, 104, 105, 110, 103, 63]⟩ (by decide) (by decide) w
  have C3 : ∀ w, Calls Try.prog 16 #[.string ⟨#[97, 98, 99]⟩] w fun e w' => e = .returned (.string Hs.S3) ∧ Below w.heap.size w w' := fun w => Hs.Sum384_any ⟨#[97, 98, 99]⟩ (by decide) w
  have C4 : ∀ (w : World) (p : Nat) (m : List UInt8), Hs.Is w p 1 m → m = [97] ++ [98, 99] → Calls Try.prog 19 #[.pointer (some ⟨p, 0, none⟩)] w fun e w' => e = .returned (.string Hs.S3) ∧ Below w.heap.size w w' := by
    rintro w p m h rfl
    exact Hs.Sum_any w p 1 _ h (by decide)
  have C5 : ∀ (w : World) (p : Nat) (m : List UInt8), Hs.Is w p 1 m → m = [97] ++ [98, 99] → Calls Try.prog 20 #[.pointer (some ⟨p, 0, none⟩)] w fun e w' => e = .returned (.int .i64 3) ∧ w' = w := by
    rintro w p m h rfl
    exact Hs.Size_any w p 1 _ h
  have D1 := Lib.hid C1
  have D2 := Lib.hid C2
  have D3 := Lib.hid C3
  have D4 := Lib.hid C4
  have D5 := Lib.hid C5
  have DN := Lib.hid Hs.New1
  have DM := Lib.hid (fun w => Hs.New_no (-1) (by decide) (by decide) w)
  have DF := Lib.hid (fun w => Hs.FSum_no 2 (by decide) (by decide) ⟨#[]⟩ w)
  have DW1 := Lib.hid (fun (W : World) (p : Nat) (hW : Hs.Is W p 1 []) => Hs.Write_any W p 1 [] ⟨#[97]⟩ hW (by decide))
  have DW2 := Lib.hid (fun (W : World) (p : Nat) (m : List UInt8) (hW : Hs.Is W p 1 m) (hm : m = [97]) => Hs.Write_any W p 1 m ⟨#[98, 99]⟩ hW (by rw [hm]; decide))
  have s1 := Hs.S1_size
  have s2 := Hs.S2_size
  have s3 := Hs.S3_size
  have a1 := Hs.S1_a
  have b1 := Hs.S1_b
  have a2 := Hs.S2_a
  have a3 := Hs.S3_a
  have b3 := Hs.S3_b
  clear C1 C2 C3 C4 C5
  generalize Hs.S1 = S1 at *
  generalize Hs.S2 = S2 at *
  generalize Hs.S3 = S3 at *
  go_enter Try.func7, Try.ntmps7
  go_wp2_with fail
  refine (D1.out w).mono ?_
  rintro e w1 ⟨rfl, b1⟩
  go_wp2_with fail
  refine (D2.out _).mono ?_
  rintro e w2 ⟨rfl, b2⟩
  have B2 := b1.trans (b2.mono b1.size)
  go_wp2_with fail
  refine (D3.out _).mono ?_
  rintro e w3 ⟨rfl, b3⟩
  have B3 := B2.trans (b3.mono B2.size)
  go_wp2_with fail
  refine (DN.out _).mono ?_
  rintro e w4 ⟨p, rfl, hp, h4, b4⟩
  have B4 := B3.trans (b4.mono B3.size)
  have hwp := Nat.le_trans B3.size hp
  go_wp2_with fail
  refine (DW1.out _ _ h4).mono ?_
  rintro e w5 ⟨rfl, h5, b5⟩
  have B5 := B4.trans (b5.toBelow hwp B4.size)
  go_wp2_with fail
  refine (DW2.out _ _ _ h5 rfl).mono ?_
  rintro e w6 ⟨rfl, h6, b6⟩
  have B6 := B5.trans (b6.toBelow hwp B5.size)
  clear h4 h5 b1 b2 b3 b4 b5 b6 B2 B3 B4 B5
  go_wp2_with fail
  refine (DF.out _).mono ?_
  rintro e w7 ⟨rfl, rfl⟩
  go_wp2_with fail
  refine (DM.out _).mono ?_
  rintro e w8 ⟨rfl, rfl⟩
  go_wp2_with fail
  refine (D4.out _ _ _ h6 rfl).mono ?_
  rintro e w9 ⟨rfl, b9⟩
  have h9 := h6.below b9 h6.lt
  have B9 := B6.trans (b9.mono B6.size)
  clear h6 B6
  go_wp2_with fail
  refine (D5.out _ _ _ h9 rfl).mono ?_
  rintro e w10 ⟨rfl, rfl⟩
  go_wp2_with fail
  go_ret
  exact ⟨rfl, B9⟩
end Go.Proofs.Ytelfhdihkeafnaa
