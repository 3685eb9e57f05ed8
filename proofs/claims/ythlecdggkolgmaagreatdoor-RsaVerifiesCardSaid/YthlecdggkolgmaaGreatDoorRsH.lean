/- The reference's Known at 0. -/
import Derived.Test.YthlecdggkolgmaaGreatDoorRsF
import Derived.Great.BuildSlice
import Derived.Laws.Tables
import Derived.Laws.Rows
namespace Go.Proofs.YthlecdggkolgmaaGreatDoor
section
open Go.RowKit
theorem Rs.info79 : (Tryz.prog.info? 66).map (·.size) = some 7 := by kernel_rfl
theorem Rs.info80 : (Tryz.prog.info? 67).map (·.size) = some 35 := by kernel_rfl
def Rs.hx00 : ByteArray := ⟨#[98,52,97,100,49,52,99,97,56,49,53,49,99,99,50,51,48,49,56,102,98,49,53,49,98,100,98,49,49,101,98,52,54,97,99,54,98,99,98,98,97,48,56,53,53,49,51,57,53,49,51,51,49,49,97,100,52,51,54,53,50,97,55,57,101,50,50,51,101,97,51,51,97,54,50,48,102,49,48,51,99,55,48,101,56,54,51,53,55,100,52,102,99,48,52,101,52,54,97,56,98,50,57,52,48,53,98,48,56,55,52,101,99,57,102,97,98,48,49,56,57,52,56,52,55,102,99,98]⟩
def Rs.hx01 : ByteArray := ⟨#[48,49,48,48,48,49]⟩
def Rs.hx02 : ByteArray := ⟨#[101,54,53,49,49,48,50,99,49,97,48,99,55,57,52,56,50,55,51,48,101,97,102,101,53,102,53,48,53,49,102,51,101,54,102,101,51,100,50,50,52,101,57,57,54,49,99,57,48,101,51,99,48,50,99,51,51,55,99,98,99,53,97,55]⟩
def Rs.hx03 : ByteArray := ⟨#[99,56,100,50,101,57,48,97,48,50,49,101,53,50,53,98,99,55,56,56,57,52,102,102,48,49,48,102,53,102,50,100,53,99,52,55,56,52,100,101,101,48,49,50,99,55,99,53,56,100,101,57,55,52,50,98,48,99,101,49,52,49,51,100]⟩
def Rs.hx04 : ByteArray := ⟨#[57,49,52,56,100,102,55,55,99,50,55,50,99,100,101,97,99,97,102,54,49,98,98,54,57,99,54,102,55,49,53,50,102,55,48,97,98,55,56,98,98,53,97,51,50,49,99,49,48,102,53,101,97,49,97,98,55,100,98,100,101,56,48,102]⟩
def Rs.hx05 : ByteArray := ⟨#[48,100,57,102,98,49,52,98,56,97,56,53,52,48,49,53,49,53,100,101,52,48,50,100,54,52,56,55,48,52,54,102,102,49,53,56,98,48,98,99,101,53,102,97,97,48,50,101,100,56,99,55,99,51,97,55,99,48,48,49,102,48,48,57]⟩
def Rs.hx06 : ByteArray := ⟨#[50,48,98,57,55,48,54,56,49,57,98,49,97,53,56,50,56,49,54,98,56,53,100,101,98,55,54,53,100,48,52,48,55,49,101,56,97,56,99,48,97,101,56,101,48,54,50,100,48,53,49,51,99,100,56,56,51,98,49,98,102,52,101,98]⟩
def Rs.hx10 : ByteArray := ⟨#[48,49,55,97,56,54,52,52,55,98,52,48,51,49,51,49,98,55,100,98,51,52,51,57,56,98,52,101,102,51,101,55,54,97,100,57,55,57,50,50,99,57,56,52,100,101,52,54,102,57,97,54,102,57,49,102,57,54,102,48,52,51,99,56,49,48,56,99,56,57,51,102,100,48,52,53,98,57,54,50,57,100,48,100,99,102,51,49,55,53,51,52,51,100,101,53,97,97,56,97,101,52,101,101,57,98,50,55,100,57,53,56,55,56,48,49,101,48,100,97,56,50,53,100,101,101,102,54,50,101,97,52,49,53]⟩
def Rs.hx11 : ByteArray := ⟨#[48,51]⟩
def Rs.hx12 : ByteArray := ⟨#[48,49,101,54,102,55,48,101,97,100,101,51,98,49,99,97,102,53,99,97,51,50,98,97,97,56,97,53,52,51,53,55,98,50,51,49,102,98,99,48,98,57,99,50,57,53,57,101,48,49,54,55,102,97,54,99,100,100,97,57,57,53,48,97,102,102,100,53]⟩
def Rs.hx13 : ByteArray := ⟨#[99,54,102,101,48,51,50,55,57,53,98,49,48,48,102,52,57,53,54,101,100,98,55,102,98,102,48,102,99,50,49,49,53,53,57,100,49,102,49,100,49,55,102,54,97,54,53,57,57,56,48,98,55,102,49,97,48,49,54,97,49,98,55,51,52,49]⟩
def Rs.hx14 : ByteArray := ⟨#[48,49,52,52,97,52,98,52,55,51,101,100,50,49,51,49,102,57,51,49,55,55,50,55,49,98,49,56,100,55,56,102,99,99,50,49,53,50,56,48,55,98,100,55,48,101,54,57,53,54,52,53,53,49,57,100,101,57,49,98,98,56,98,49,102,102,101,51]⟩
def Rs.hx15 : ByteArray := ⟨#[56,52,97,57,53,55,54,102,98,57,50,48,97,98,52,100,98,56,102,52,57,50,53,53,50,97,48,97,56,49,54,48,101,51,98,101,49,52,98,101,48,102,102,57,99,52,51,98,98,97,98,50,53,52,98,99,48,48,102,49,54,55,97,50,50,98]⟩
def Rs.hx16 : ByteArray := ⟨#[48,49,55,100,98,102,52,53,98,97,53,53,54,101,101,48,100,48,53,57,53,53,102,55,98,49,55,48,55,49,49,56,99,101,52,57,54,100,51,52,56,100,101,100,48,99,48,99,98,101,49,98,98,50,52,98,52,57,50,50,49,49,50,50,49,48,52,97]⟩
def Rs.hx20 : ByteArray := ⟨#[48,51,56,49,101,57,57,53,99,50,97,56,54,98,98,49,57,99,51,57,56,101,57,100,50,99,97,97,49,49,49,48,56,57,52,49,100,56,102,50,102,97,55,50,54,51,101,50,50,55,56,48,99,98,56,54,49,97,101,99,54,100,98,50,102,49,57,48,102,49,101,98,51,54,53,98,51,97,56,54,50,52,102,50,101,48,55,99,51,51,55,54,101,99,53,101,99,57,52,54,49,48,51,51,99,50,100,50,55,98,101,101,48,51,97,51,98,98,101,99,49,52,57,49,56,102,55,97,54,99,51,99,52,102]⟩
def Rs.hx21 : ByteArray := ⟨#[48,49,48,48,48,49]⟩
def Rs.hx22 : ByteArray := ⟨#[48,49,102,49,56,57,52,100,99,56,101,101,97,98,55,51,53,56,56,52,51,54,102,51,56,97,56,49,50,54,99,50,49,53,98,55,99,53,56,55,48,97,49,56,53,100,98,100,100,98,57,101,49,50,99,102,99,99,52,51,48,100,100,50,98,49,55,102]⟩
def Rs.hx23 : ByteArray := ⟨#[48,49,99,101,48,49,102,51,99,102,57,48,57,99,97,98,56,50,99,54,50,54,56,50,98,50,50,50,55,99,100,57,100,56,54,54,53,57,97,49,56,98,52,102,51,50,101,51,99,55,98,99,50,55,99,53,102,48,54,98,102,98,98,51,51,100,51,49]⟩
def Rs.hx24 : ByteArray := ⟨#[100,49,53,100,48,102,101,56,54,102,100,54,97,49,102,49,50,98,97,49,100,99,49,53,102,97,56,55,48,101,99,49,48,56,100,54,48,99,49,102,52,57,54,53,57,57,49,49,50,51,57,49,57,50,102,51,99,55,55,98,98,55,57,102,56,100]⟩
def Rs.hx25 : ByteArray := ⟨#[48,49,55,48,53,49,97,48,50,52,97,101,98,101,50,56,48,49,55,54,97,53,48,54,102,54,97,97,56,53,101,99,52,97,49,55,98,54,56,55,49,49,102,102,56,101,97,98,56,54,102,53,53,97,97,51,102,51,98,97,98,50,56,98,98,102,53,49]⟩
def Rs.hx26 : ByteArray := ⟨#[101,56,98,101,97,100,57,53,97,99,102,54,98,55,98,49,102,49,56,56,53,52,97,56,53,97,55,100,99,102,100,101,48,98,99,53,97,51,102,52,102,56,54,56,52,101,48,100,53,49,48,56,97,54,97,99,50,102,57,100,97,56,102,52,98,55]⟩
def Rs.hx30 : ByteArray := ⟨#[98,102,56,50,52,54,57,100,98,57,102,98,53,53,55,53,55,52,53,99,53,101,49,99,98,52,98,54,97,99,55,50,100,49,54,52,101,53,55,97,100,55,53,55,48,98,98,101,49,52,49,98,97,99,48,98,56,100,50,51,100,99,98,48,52,101,100,50,102,52,98,48,50,51,54,53,52,51,57,101,51,53,100,54,52,48,55,49,100,102,55,102,101,100,51,53,52,97,55,98,51,100,49,56,101,101,49,99,101,57,101,99,55,54,52,101,99,56,52,48,54,56,100,57,101,57,56,56,55,56,99,55,54,52,49,56,102,98,50,54,97,52,49,54,100,50,101,55,100,101,51,53,55,101,51,49,55,49,55,100,100,54,50,100,100,56,50,101,101,49,102,49,97,54,48,98,99,98,56,55,57,57,100,97,56,101,51,53,49,57,50,98]⟩
def Rs.hx31 : ByteArray := ⟨#[49,49]⟩
def Rs.hx32 : ByteArray := ⟨#[100,56,57,52,55,52,52,52,55,99,102,100,52,56,56,97,52,102,56,54,98,98,57,100,52,101,51,48,49,49,102,102,97,102,98,49,50,50,98,53,97,50,97,55,100,52,99,102,97,101,54,100,50,50,54,50,51,48,98,48,101,98,55,56,55,54,53,102,50,97,101,55,51,100,54,97,48,50,100,52,100,98,50,48,48,57,57,55,55,98,100,56,102,102,102,51]⟩
def Rs.hx33 : ByteArray := ⟨#[101,50,53,100,97,51,50,98,50,53,57,52,57,101,48,53,101,55,56,49,101,100,48,102,54,50,100,102,100,48,57,51,52,101,97,51,99,50,99,100,98,99,51,102,98,97,56,102,55,57,56,99,48,102,49,52,98,48,102,56,101,57,99,54,52,55,48,98,98,50,97,101,51,102,101,53,51,98,49,57,55,98,101,100,49,97,49,100,102,56,49,57,56,55,101,57]⟩
def Rs.hx34 : ByteArray := ⟨#[54,53,101,98,56,50,48,50,49,99,98,51,54,100,54,101,52,51,56,97,98,50,97,52,54,49,48,55,56,102,102,102,100,97,51,53,51,100,56,50,97,54,101,53,57,49,53,50,97,99,54,102,57,55,98,53,98,99,56,102,55,100,100,101,53,53,100,50,54,101,56,97,101,102,98,57,54,97,98,101,56,53,51,99,52,48,98,102,99,49,99,102,56,55,56,49]⟩
def Rs.hx35 : ByteArray := ⟨#[56,53,50,56,48,53,97,48,101,56,101,101,48,50,57,97,48,102,98,53,100,54,98,100,99,49,98,48,100,53,48,98,53,98,54,102,54,51,56,56,49,52,54,49,98,57,48,57,49,97,53,50,54,51,51,57,53,57,48,97,101,51,100,101,48,98,97,99,56,55,51,57,53,50,99,51,49,51,98,52,97,51,52,48,50,100,55,98,48,97,54,57,53,102,48,49]⟩
def Rs.hx36 : ByteArray := ⟨#[98,99,100,97,54,101,49,52,51,49,49,98,101,101,49,54,100,102,51,50,57,102,53,55,49,51,102,57,50,55,97,55,56,48,100,97,54,56,48,51,50,101,98,48,100,49,51,98,98,50,48,52,53,52,101,98,48,101,101,54,52,52,98,54,50,102,54,97,48,49,101,101,48,50,101,98,49,99,57,57,53,97,49,51,98,56,50,56,48,57,55,57,101,52,48,50]⟩
def Rs.hx40 : ByteArray := ⟨#[97,97,57,50,97,50,52,54,98,54,101,97,56,99,51,100,98,49,97,57,98,48,57,48,49,51,56,57,52,55,99,48,54,54,50,52,54,52,99,102,102,101,51,99,49,101,52,57,56,97,98,98,55,49,57,97,97,51,101,99,100,100,57,56,50,100,48,54,56,99,55,50,49,54,50,101,50,55,98,51,99,55,100,100,102,51,102,102,101,52,49,57,53,100,101,102,52,50,53,49,52,102,48,51,56,52,50,49,97,57,97,100,48,52,48,100,57,102,100,101,55,100,102,53,100,50,101,55,48,100,57,98,99,50,57,54,100,48,97,55,49,98,54,98,50,97,99,52,51,52,49,52,50,48,49,57,99,100,55,98,53,98,48,99,101,49,99,54,56,100,102,102,102,57,49,56,54,101,55,49,57,51,102,48,101,49,48,55,56,48,55,53,51,51,52,97,49,101,56,51,54,54,49,101,99,99,56,51,52,50,57,52,101,54,99,101,55,101,48,102,52,57,99,54,49,57,53,55,50,54,55,97,97,100,100,56,100,53,98,56,56,48,54,100,97,54,51,98,52,101,51,55,98,102,56,100]⟩
def Rs.hx41 : ByteArray := ⟨#[48,49,48,48,48,49]⟩
def Rs.hx42 : ByteArray := ⟨#[99,48,100,100,52,54,57,101,48,102,48,97,52,99,100,56,55,99,99,48,98,97,51,53,101,56,55,97,101,48,48,54,97,48,101,56,50,49,97,49,51,48,52,57,55,56,53,52,57,51,50,97,49,56,102,49,99,98,53,102,52,54,48,98,53,97,52,51,100,101,97,99,97,99,50,52,102,52,97,48,102,56,102,57,53,101,53,100,53,48,51,56,50,100,99,100,102,99,52,56,98,49,52,54,57,52,50,51,50,99,51,99,48,48,97,50,53,56,100,56,100,49,53,51,55,102,54,53]⟩
def Rs.hx43 : ByteArray := ⟨#[101,50,54,57,51,101,57,101,99,56,57,100,53,98,98,97,101,102,51,51,102,102,100,57,49,54,50,50,49,52,56,100,49,49,48,53,56,101,57,100,53,99,55,52,101,97,50,51,54,53,56,52,50,52,55,56,49,56,50,97,102,97,52,54,55,50,102,56,98,53,57,97,102,100,54,53,100,97,54,56,101,52,53,50,102,54,51,50,48,53,100,54,101,99,99,101,48,55,53,53,56,53,57,56,56,55,97,51,57,52,50,48,53,102,53,50,51,54,52,56,55,50,52,55,54,49,48,57]⟩
def Rs.hx44 : ByteArray := ⟨#[54,55,97,53,56,51,49,49,101,54,53,98,52,101,98,56,102,57,51,50,52,57,101,48,51,54,98,51,102,50,51,57,49,100,98,56,50,50,55,97,57,49,56,99,97,97,53,50,50,57,53,52,55,50,53,98,53,102,52,52,51,48,52,99,54,49,57,50,49,102,100,53,48,52,49,101,52,56,50,57,52,97,50,52,49,57,56,54,54,52,53,97,48,99,97,51,97,97,55,53,49,54,55,48,50,98,97,52,52,98,53,100,54,51,97,57,100,98,98,100,56,57,97,49,50,57,100,49]⟩
def Rs.hx45 : ByteArray := ⟨#[48,51,52,56,50,102,52,54,51,49,102,54,52,53,102,99,50,49,98,55,56,57,51,102,101,54,53,56,51,99,50,48,48,55,53,100,50,51,52,50,49,56,98,51,48,49,50,57,100,101,51,48,100,97,50,101,55,98,55,98,51,52,48,49,56,100,54,100,49,57,56,52,100,51,97,51,56,52,53,52,102,99,101,97,52,101,102,51,52,101,97,101,53,99,101,52,54,55,97,97,99,102,98,50,102,52,53,52,54,52,98,51,52,98,54,101,54,102,97,55,48,49,51,49,49,51,98,49]⟩
def Rs.hx46 : ByteArray := ⟨#[55,55,49,98,100,100,53,49,51,57,56,52,50,56,54,52,101,50,101,52,102,98,56,52,54,51,53,100,53,102,48,100,98,98,101,99,99,49,56,101,54,51,55,53,56,52,50,97,50,48,52,52,51,102,48,100,98,51,98,49,97,98,102,54,100,55,49,102,99,54,100,100,53,100,52,56,53,102,100,52,102,51,98,52,54,98,52,101,97,56,102,99,100,99,55,50,97,52,101,49,99,51,100,55,48,97,98,50,54,51,52,50,52,55,52,99,51,49,55,55,56,99,57,53,50,53,99,102]⟩
def Rs.kb00 : ByteArray := ⟨#[180,173,20,202,129,81,204,35,1,143,177,81,189,177,30,180,106,198,188,187,160,133,81,57,81,51,17,173,67,101,42,121,226,35,234,51,166,32,241,3,199,14,134,53,125,79,192,78,70,168,178,148,5,176,135,78,201,250,176,24,148,132,127,203]⟩
def Rs.kb01 : ByteArray := ⟨#[1,0,1]⟩
def Rs.kb02 : ByteArray := ⟨#[230,81,16,44,26,12,121,72,39,48,234,254,95,80,81,243,230,254,61,34,78,153,97,201,14,60,2,195,55,203,197,167]⟩
def Rs.kb03 : ByteArray := ⟨#[200,210,233,10,2,30,82,91,199,136,148,255,1,15,95,45,92,71,132,222,224,18,199,197,141,233,116,43,12,225,65,61]⟩
def Rs.kb04 : ByteArray := ⟨#[145,72,223,119,194,114,205,234,202,246,27,182,156,111,113,82,247,10,183,139,181,163,33,193,15,94,161,171,125,189,232,15]⟩
def Rs.kb05 : ByteArray := ⟨#[13,159,177,75,138,133,64,21,21,222,64,45,100,135,4,111,241,88,176,188,229,250,160,46,216,199,195,167,192,1,240,9]⟩
def Rs.kb06 : ByteArray := ⟨#[32,185,112,104,25,177,165,130,129,107,133,222,183,101,208,64,113,232,168,192,174,142,6,45,5,19,205,136,59,27,244,235]⟩
def Rs.kr0 : Array Value := #[.string Rs.hx00,.string Rs.hx01,.string Rs.hx02,.string Rs.hx03,.string Rs.hx04,.string Rs.hx05,.string Rs.hx06]
def Rs.kr1 : Array Value := #[.string Rs.hx10,.string Rs.hx11,.string Rs.hx12,.string Rs.hx13,.string Rs.hx14,.string Rs.hx15,.string Rs.hx16]
def Rs.kr2 : Array Value := #[.string Rs.hx20,.string Rs.hx21,.string Rs.hx22,.string Rs.hx23,.string Rs.hx24,.string Rs.hx25,.string Rs.hx26]
def Rs.kr3 : Array Value := #[.string Rs.hx30,.string Rs.hx31,.string Rs.hx32,.string Rs.hx33,.string Rs.hx34,.string Rs.hx35,.string Rs.hx36]
def Rs.kr4 : Array Value := #[.string Rs.hx40,.string Rs.hx41,.string Rs.hx42,.string Rs.hx43,.string Rs.hx44,.string Rs.hx45,.string Rs.hx46]
def Rs.tab : Array Value := #[.string Rs.hx00,.string Rs.hx01,.string Rs.hx02,.string Rs.hx03,.string Rs.hx04,.string Rs.hx05,.string Rs.hx06,.string Rs.hx10,.string Rs.hx11,.string Rs.hx12,.string Rs.hx13,.string Rs.hx14,.string Rs.hx15,.string Rs.hx16,.string Rs.hx20,.string Rs.hx21,.string Rs.hx22,.string Rs.hx23,.string Rs.hx24,.string Rs.hx25,.string Rs.hx26,.string Rs.hx30,.string Rs.hx31,.string Rs.hx32,.string Rs.hx33,.string Rs.hx34,.string Rs.hx35,.string Rs.hx36,.string Rs.hx40,.string Rs.hx41,.string Rs.hx42,.string Rs.hx43,.string Rs.hx44,.string Rs.hx45,.string Rs.hx46]
theorem Rs.tab_one : Rs.tab.all (·.oneCell') = true := by kernel_rfl
set_option maxRecDepth 100000 in
theorem Rs.from00 (w : World) : Calls Tryz.prog 34 #[.string Rs.hx00] w fun e w' => e = .returned (.tuple #[.string Rs.kb00,.int .i64 0]) ∧ Below w.heap.size w w' := by
  have h1 : (Tx.hexB (Tx.ba (Tx.rsay Tx.sixteen 4 Rs.hx00))).data.toList = Rs.hx00.data.toList := by decide +kernel
  have h2 : (Tx.ba (Tx.rsay Tx.sixteen 4 Rs.hx00)).data.toList = Rs.kb00.data.toList := by decide +kernel
  have h3 : ¬ ∃ c ∈ Rs.hx00.data.toList,Lib.indexByte Tx.sixteen.data.toList c < 0 := by decide +kernel
  have e1 := Tx.ba_ext h1
  have e2 := Tx.ba_ext h2
  refine (Tx.RFromHex_any Rs.hx00 w (by decide +kernel)).mono ?_
  rintro e w' ⟨⟨_,_,rfl⟩ | ⟨h,_⟩,hb⟩
  · rw [e2]
    exact ⟨rfl,hb⟩
  · rcases h with h | h
    · exact absurd h h3
    · exact absurd e1 h
set_option maxRecDepth 100000 in
theorem Rs.from01 (w : World) : Calls Tryz.prog 34 #[.string Rs.hx01] w fun e w' => e = .returned (.tuple #[.string Rs.kb01,.int .i64 0]) ∧ Below w.heap.size w w' := by
  have h1 : (Tx.hexB (Tx.ba (Tx.rsay Tx.sixteen 4 Rs.hx01))).data.toList = Rs.hx01.data.toList := by decide +kernel
  have h2 : (Tx.ba (Tx.rsay Tx.sixteen 4 Rs.hx01)).data.toList = Rs.kb01.data.toList := by decide +kernel
  have h3 : ¬ ∃ c ∈ Rs.hx01.data.toList,Lib.indexByte Tx.sixteen.data.toList c < 0 := by decide +kernel
  have e1 := Tx.ba_ext h1
  have e2 := Tx.ba_ext h2
  refine (Tx.RFromHex_any Rs.hx01 w (by decide +kernel)).mono ?_
  rintro e w' ⟨⟨_,_,rfl⟩ | ⟨h,_⟩,hb⟩
  · rw [e2]
    exact ⟨rfl,hb⟩
  · rcases h with h | h
    · exact absurd h h3
    · exact absurd e1 h
set_option maxRecDepth 100000 in
theorem Rs.from02 (w : World) : Calls Tryz.prog 34 #[.string Rs.hx02] w fun e w' => e = .returned (.tuple #[.string Rs.kb02,.int .i64 0]) ∧ Below w.heap.size w w' := by
  have h1 : (Tx.hexB (Tx.ba (Tx.rsay Tx.sixteen 4 Rs.hx02))).data.toList = Rs.hx02.data.toList := by decide +kernel
  have h2 : (Tx.ba (Tx.rsay Tx.sixteen 4 Rs.hx02)).data.toList = Rs.kb02.data.toList := by decide +kernel
  have h3 : ¬ ∃ c ∈ Rs.hx02.data.toList,Lib.indexByte Tx.sixteen.data.toList c < 0 := by decide +kernel
  have e1 := Tx.ba_ext h1
  have e2 := Tx.ba_ext h2
  refine (Tx.RFromHex_any Rs.hx02 w (by decide +kernel)).mono ?_
  rintro e w' ⟨⟨_,_,rfl⟩ | ⟨h,_⟩,hb⟩
  · rw [e2]
    exact ⟨rfl,hb⟩
  · rcases h with h | h
    · exact absurd h h3
    · exact absurd e1 h
set_option maxRecDepth 100000 in
theorem Rs.from03 (w : World) : Calls Tryz.prog 34 #[.string Rs.hx03] w fun e w' => e = .returned (.tuple #[.string Rs.kb03,.int .i64 0]) ∧ Below w.heap.size w w' := by
  have h1 : (Tx.hexB (Tx.ba (Tx.rsay Tx.sixteen 4 Rs.hx03))).data.toList = Rs.hx03.data.toList := by decide +kernel
  have h2 : (Tx.ba (Tx.rsay Tx.sixteen 4 Rs.hx03)).data.toList = Rs.kb03.data.toList := by decide +kernel
  have h3 : ¬ ∃ c ∈ Rs.hx03.data.toList,Lib.indexByte Tx.sixteen.data.toList c < 0 := by decide +kernel
  have e1 := Tx.ba_ext h1
  have e2 := Tx.ba_ext h2
  refine (Tx.RFromHex_any Rs.hx03 w (by decide +kernel)).mono ?_
  rintro e w' ⟨⟨_,_,rfl⟩ | ⟨h,_⟩,hb⟩
  · rw [e2]
    exact ⟨rfl,hb⟩
  · rcases h with h | h
    · exact absurd h h3
    · exact absurd e1 h
set_option maxRecDepth 100000 in
theorem Rs.from04 (w : World) : Calls Tryz.prog 34 #[.string Rs.hx04] w fun e w' => e = .returned (.tuple #[.string Rs.kb04,.int .i64 0]) ∧ Below w.heap.size w w' := by
  have h1 : (Tx.hexB (Tx.ba (Tx.rsay Tx.sixteen 4 Rs.hx04))).data.toList = Rs.hx04.data.toList := by decide +kernel
  have h2 : (Tx.ba (Tx.rsay Tx.sixteen 4 Rs.hx04)).data.toList = Rs.kb04.data.toList := by decide +kernel
  have h3 : ¬ ∃ c ∈ Rs.hx04.data.toList,Lib.indexByte Tx.sixteen.data.toList c < 0 := by decide +kernel
  have e1 := Tx.ba_ext h1
  have e2 := Tx.ba_ext h2
  refine (Tx.RFromHex_any Rs.hx04 w (by decide +kernel)).mono ?_
  rintro e w' ⟨⟨_,_,rfl⟩ | ⟨h,_⟩,hb⟩
  · rw [e2]
    exact ⟨rfl,hb⟩
  · rcases h with h | h
    · exact absurd h h3
    · exact absurd e1 h
set_option maxRecDepth 100000 in
theorem Rs.from05 (w : World) : Calls Tryz.prog 34 #[.string Rs.hx05] w fun e w' => e = .returned (.tuple #[.string Rs.kb05,.int .i64 0]) ∧ Below w.heap.size w w' := by
  have h1 : (Tx.hexB (Tx.ba (Tx.rsay Tx.sixteen 4 Rs.hx05))).data.toList = Rs.hx05.data.toList := by decide +kernel
  have h2 : (Tx.ba (Tx.rsay Tx.sixteen 4 Rs.hx05)).data.toList = Rs.kb05.data.toList := by decide +kernel
  have h3 : ¬ ∃ c ∈ Rs.hx05.data.toList,Lib.indexByte Tx.sixteen.data.toList c < 0 := by decide +kernel
  have e1 := Tx.ba_ext h1
  have e2 := Tx.ba_ext h2
  refine (Tx.RFromHex_any Rs.hx05 w (by decide +kernel)).mono ?_
  rintro e w' ⟨⟨_,_,rfl⟩ | ⟨h,_⟩,hb⟩
  · rw [e2]
    exact ⟨rfl,hb⟩
  · rcases h with h | h
    · exact absurd h h3
    · exact absurd e1 h
set_option maxRecDepth 100000 in
theorem Rs.from06 (w : World) : Calls Tryz.prog 34 #[.string Rs.hx06] w fun e w' => e = .returned (.tuple #[.string Rs.kb06,.int .i64 0]) ∧ Below w.heap.size w w' := by
  have h1 : (Tx.hexB (Tx.ba (Tx.rsay Tx.sixteen 4 Rs.hx06))).data.toList = Rs.hx06.data.toList := by decide +kernel
  have h2 : (Tx.ba (Tx.rsay Tx.sixteen 4 Rs.hx06)).data.toList = Rs.kb06.data.toList := by decide +kernel
  have h3 : ¬ ∃ c ∈ Rs.hx06.data.toList,Lib.indexByte Tx.sixteen.data.toList c < 0 := by decide +kernel
  have e1 := Tx.ba_ext h1
  have e2 := Tx.ba_ext h2
  refine (Tx.RFromHex_any Rs.hx06 w (by decide +kernel)).mono ?_
  rintro e w' ⟨⟨_,_,rfl⟩ | ⟨h,_⟩,hb⟩
  · rw [e2]
    exact ⟨rfl,hb⟩
  · rcases h with h | h
    · exact absurd h h3
    · exact absurd e1 h
end
section
open Go.RowKit
theorem Rs.second (w : World) (a b : Obj) : ((w.alloc a).alloc b).heap[w.heap.size + 1]? = some b := by
  have h := heap_alloc_new (w.alloc a) b
  have e : (w.alloc a).heap.size = w.heap.size + 1 := by show (w.heap.push a).size = _; simp
  rw [e] at h
  exact h
/-- A block of memory, and what it holds. -/
structure Rs.Blk (w : World) (p : Nat) (o : Obj) : Prop where
  lt : p < w.heap.size
  eq : w.heap[p]? = some o
theorem Rs.Blk.below {w w' : World} {p : Nat} {o : Obj} (h : Rs.Blk w p o) (hb : Below w.heap.size w w') : Rs.Blk w' p o := ⟨Nat.lt_of_lt_of_le h.lt hb.size,(hb.block p h.lt).trans h.eq⟩
theorem Rs.Blk.new (w : World) (o : Obj) : Rs.Blk (w.alloc o) w.heap.size o := ⟨by show w.heap.size < (w.heap.push o).size; simp,heap_alloc_new w o⟩
theorem Rs.Blk.row {w : World} {p : Nat} {old : Array Value} {T : TypeId} (h : Rs.Blk w p (.cells old T (0,0))) (new : Array Value) : Rs.Blk (w.setRow p new) p (.cells new T (0,0)) :=
  ⟨by have := h.lt; simpa [World.setRow] using this,setRow_heap w p old new T _ h.eq⟩
theorem Rs.Blk.rowFar {w : World} {p q : Nat} {o : Obj} (h : Rs.Blk w p o) (new : Array Value) (hq : p ≠ q) : Rs.Blk (w.setRow q new) p o :=
  ⟨by have := h.lt; simpa [World.setRow] using this,(setRow_other w q p new hq).trans h.eq⟩
theorem Rs.Blk.set {w : World} {p j : Nat} {cs : Array Value} {T : TypeId} (h : Rs.Blk w p (.cells cs T (0,0))) (v : Value) : Rs.Blk (w.setCell ⟨p,j,none⟩ v) p (.cells (cs.setIfInBounds j v) T (0,0)) :=
  ⟨by have := h.lt; simpa using this,heap_setCell_same w p j cs _ v h.eq⟩
theorem Rs.Blk.setFar {w : World} {p q j : Nat} {o : Obj} {v : Value} (h : Rs.Blk w p o) (hq : p ≠ q) : Rs.Blk (w.setCell ⟨q,j,none⟩ v) p o :=
  ⟨by have := h.lt; simpa using this,(heap_setCell_other w ⟨q,j,none⟩ p v hq).trans h.eq⟩
theorem Rs.row_below {B : Nat} {w w' : World} (h : Below B w w') (p : Nat) (new : Array Value) (hp : B ≤ p) : Below B w (w'.setRow p new) :=
  ⟨h.os,h.tape,h.output,by have := h.size; simpa [World.setRow] using this,fun k hk => (setRow_other w' p k new (by omega)).trans (h.block k hk)⟩
def Rs.hx : Nat → ByteArray
  | 0 => Rs.hx00
  | 1 => Rs.hx01
  | 2 => Rs.hx02
  | 3 => Rs.hx03
  | 4 => Rs.hx04
  | 5 => Rs.hx05
  | _ => Rs.hx06
def Rs.kb : Nat → ByteArray
  | 0 => Rs.kb00
  | 1 => Rs.kb01
  | 2 => Rs.kb02
  | 3 => Rs.kb03
  | 4 => Rs.kb04
  | 5 => Rs.kb05
  | _ => Rs.kb06
theorem Rs.from0 (k : Nat) (hk : k < 7) (w : World) : Calls Tryz.prog 34 #[.string (Rs.hx k)] w fun e w' => e = .returned (.tuple #[.string (Rs.kb k),.int .i64 0]) ∧ Below w.heap.size w w' := by
  rcases k with _ | _ | _ | _ | _ | _ | _ | k
  · exact Rs.from00 w
  · exact Rs.from01 w
  · exact Rs.from02 w
  · exact Rs.from03 w
  · exact Rs.from04 w
  · exact Rs.from05 w
  · exact Rs.from06 w
  · omega
theorem Rs.tab_at (k : Nat) (hk : k < 7) : Rs.tab[k]? = some (.string (Rs.hx k)) := by
  rcases k with _ | _ | _ | _ | _ | _ | _ | k
  · rfl
  · rfl
  · rfl
  · rfl
  · rfl
  · rfl
  · rfl
  · omega
def Rs.part (k : Nat) : Array Value := #[.string (if 0 < k then Rs.kb 0 else ⟨#[]⟩),.string (if 1 < k then Rs.kb 1 else ⟨#[]⟩),.string (if 2 < k then Rs.kb 2 else ⟨#[]⟩),.string (if 3 < k then Rs.kb 3 else ⟨#[]⟩),.string (if 4 < k then Rs.kb 4 else ⟨#[]⟩),.string (if 5 < k then Rs.kb 5 else ⟨#[]⟩),.string (if 6 < k then Rs.kb 6 else ⟨#[]⟩)]
theorem Rs.part_set (k : Nat) (hk : k < 7) : (Rs.part k).setIfInBounds k (.string (Rs.kb k)) = Rs.part (k + 1) := by
  rcases k with _ | _ | _ | _ | _ | _ | _ | k
  · rfl
  · rfl
  · rfl
  · rfl
  · rfl
  · rfl
  · rfl
  · omega
def Rs.e7 : Array Value := #[.string ⟨#[]⟩,.string ⟨#[]⟩,.string ⟨#[]⟩,.string ⟨#[]⟩,.string ⟨#[]⟩,.string ⟨#[]⟩,.string ⟨#[]⟩]
theorem Rs.e7_one : Rs.e7.all (·.oneCell') = true := by kernel_rfl
theorem Rs.part_cell (k j : Nat) (hj : j < 7) : (Rs.part k)[j]? = some (.string (if j < k then Rs.kb j else ⟨#[]⟩)) := by
  rcases j with _ | _ | _ | _ | _ | _ | _ | j
  · rfl
  · rfl
  · rfl
  · rfl
  · rfl
  · rfl
  · rfl
  · omega
/-- The first known key, whole. -/
def Rs.pair0 : Array Value := #[.string (Rs.kb 0),.string (Rs.kb 1),.string (Rs.kb 2),.string (Rs.kb 3),.string (Rs.kb 4),.string (Rs.kb 5),.string (Rs.kb 6)]
theorem Rs.pair0_one : Rs.pair0.all (·.oneCell') = true := by simp [Rs.pair0,Value.oneCell']
theorem Rs.info41 : (Tryz.prog.info? 42).map (·.size) = some 7 := by kernel_rfl
set_option maxHeartbeats 4000000 in
set_option maxRecDepth 100000 in
theorem Rs.Known0 (w : World) :
    Calls Tryz.prog 17 #[.int .i64 0] w fun r w' => r = .returned (.agg Rs.pair0) ∧ Below w.heap.size w w' := by
  go_enter Tryz.func17,Tryz.ntmps17
  go_upto_region 2 with (first | (refine wpList_buildTo rfl 66 _ rfl (some 6) rfl Rs.kr0 (by kernel_rfl) ?_) | (refine wpList_buildTo rfl 66 _ rfl (some 7) rfl Rs.kr1 (by kernel_rfl) ?_) | (refine wpList_buildTo rfl 66 _ rfl (some 8) rfl Rs.kr2 (by kernel_rfl) ?_) | (refine wpList_buildTo rfl 66 _ rfl (some 9) rfl Rs.kr3 (by kernel_rfl) ?_) | (refine wpList_buildTo rfl 66 _ rfl (some 10) rfl Rs.kr4 (by kernel_rfl) ?_) | (refine wpList_buildTo rfl 67 _ rfl (some 11) rfl Rs.tab (by kernel_rfl) ?_) | (refine wpList_store_row rfl 67 (.tmp 3) (.tmp 11) rfl (w.heap.size + 1) Rs.tab rfl rfl 67 _ (Rs.second _ _ _) Rs.info80 (by kernel_rfl) Rs.tab_one ?_))
  have hs1 : (w.alloc (Obj.cells #[.string ⟨#[]⟩,.string ⟨#[]⟩,.string ⟨#[]⟩,.string ⟨#[]⟩,.string ⟨#[]⟩,.string ⟨#[]⟩,.string ⟨#[]⟩] 42)).heap.size = w.heap.size + 1 := by show (w.heap.push _).size = _; simp
  have b1 := (Below.refl w.heap.size w).alloc (Nat.le_refl _) (Obj.cells #[.string ⟨#[]⟩,.string ⟨#[]⟩,.string ⟨#[]⟩,.string ⟨#[]⟩,.string ⟨#[]⟩,.string ⟨#[]⟩,.string ⟨#[]⟩] 42)
  have k2 := Rs.Blk.new w (Obj.cells #[.string ⟨#[]⟩,.string ⟨#[]⟩,.string ⟨#[]⟩,.string ⟨#[]⟩,.string ⟨#[]⟩,.string ⟨#[]⟩,.string ⟨#[]⟩] 42)
  have k3 := Rs.Blk.new (w.alloc (Obj.cells #[.string ⟨#[]⟩,.string ⟨#[]⟩,.string ⟨#[]⟩,.string ⟨#[]⟩,.string ⟨#[]⟩,.string ⟨#[]⟩,.string ⟨#[]⟩] 42)) (Obj.cells #[.string ⟨#[]⟩,.string ⟨#[]⟩,.string ⟨#[]⟩,.string ⟨#[]⟩,.string ⟨#[]⟩,.string ⟨#[]⟩,.string ⟨#[]⟩,.string ⟨#[]⟩,.string ⟨#[]⟩,.string ⟨#[]⟩,.string ⟨#[]⟩,.string ⟨#[]⟩,.string ⟨#[]⟩,.string ⟨#[]⟩,.string ⟨#[]⟩,.string ⟨#[]⟩,.string ⟨#[]⟩,.string ⟨#[]⟩,.string ⟨#[]⟩,.string ⟨#[]⟩,.string ⟨#[]⟩,.string ⟨#[]⟩,.string ⟨#[]⟩,.string ⟨#[]⟩,.string ⟨#[]⟩,.string ⟨#[]⟩,.string ⟨#[]⟩,.string ⟨#[]⟩,.string ⟨#[]⟩,.string ⟨#[]⟩,.string ⟨#[]⟩,.string ⟨#[]⟩,.string ⟨#[]⟩,.string ⟨#[]⟩,.string ⟨#[]⟩] 67)
  have b2 := (Below.refl (w.alloc (Obj.cells #[.string ⟨#[]⟩,.string ⟨#[]⟩,.string ⟨#[]⟩,.string ⟨#[]⟩,.string ⟨#[]⟩,.string ⟨#[]⟩,.string ⟨#[]⟩] 42)).heap.size (w.alloc (Obj.cells #[.string ⟨#[]⟩,.string ⟨#[]⟩,.string ⟨#[]⟩,.string ⟨#[]⟩,.string ⟨#[]⟩,.string ⟨#[]⟩,.string ⟨#[]⟩] 42))).alloc (Nat.le_refl _) (Obj.cells #[.string ⟨#[]⟩,.string ⟨#[]⟩,.string ⟨#[]⟩,.string ⟨#[]⟩,.string ⟨#[]⟩,.string ⟨#[]⟩,.string ⟨#[]⟩,.string ⟨#[]⟩,.string ⟨#[]⟩,.string ⟨#[]⟩,.string ⟨#[]⟩,.string ⟨#[]⟩,.string ⟨#[]⟩,.string ⟨#[]⟩,.string ⟨#[]⟩,.string ⟨#[]⟩,.string ⟨#[]⟩,.string ⟨#[]⟩,.string ⟨#[]⟩,.string ⟨#[]⟩,.string ⟨#[]⟩,.string ⟨#[]⟩,.string ⟨#[]⟩,.string ⟨#[]⟩,.string ⟨#[]⟩,.string ⟨#[]⟩,.string ⟨#[]⟩,.string ⟨#[]⟩,.string ⟨#[]⟩,.string ⟨#[]⟩,.string ⟨#[]⟩,.string ⟨#[]⟩,.string ⟨#[]⟩,.string ⟨#[]⟩,.string ⟨#[]⟩] 67)
  have k2b := k2.below b2
  rw [hs1] at k3
  have k3b := k3.row Rs.tab
  have k2c := k2b.rowFar Rs.tab (q := w.heap.size + 1) (by omega)
  have bb := Rs.row_below (b1.trans (b2.mono b1.size)) (w.heap.size + 1) Rs.tab (by omega)
  clear hs1 b1 k2 k3 b2 k2b
  revert k3b k2c bb
  generalize World.setRow _ (w.heap.size + 1) Rs.tab = w1
  intro k3b k2c bb
  have H1 := Lib.hid (And.intro k3b (And.intro k2c bb))
  clear k3b k2c bb
  go_wp2_with (refine wpList_store_row rfl 66 (.tmp 4) (.tmp 18) rfl w1.heap.size Rs.e7 rfl rfl 66 _ (heap_alloc_new w1 _) Rs.info79 (by kernel_rfl) Rs.e7_one ?_; rw [World.setRow_alloc_new])
  have hp2 : w.heap.size < w1.heap.size := H1.out.2.1.lt
  have hp3 : w.heap.size + 1 < w1.heap.size := H1.out.1.lt
  have k4 := Rs.Blk.new w1 (Obj.cells Rs.e7 66)
  have b2 := (Below.refl w1.heap.size w1).alloc (Nat.le_refl _) (Obj.cells Rs.e7 66)
  revert k4 b2
  generalize w1.alloc (Obj.cells Rs.e7 66) = w2
  intro k4 b2
  have H2 := Lib.hid (And.intro (H1.out.1.below b2) (And.intro (H1.out.2.1.below b2) (And.intro k4 (And.intro (H1.out.2.2.trans (b2.mono H1.out.2.2.size)) (And.intro hp2 hp3)))))
  clear k4 b2 hp2 hp3
  go_loopw [5] (fun iv wr => ∃ k : Nat,k ≤ 7 ∧ iv = .int .i64 (k : Int) ∧ Rs.Blk wr (w.heap.size + 1) (.cells Rs.tab 67 (0,0)) ∧ Rs.Blk wr w.heap.size (Obj.cells #[.string ⟨#[]⟩,.string ⟨#[]⟩,.string ⟨#[]⟩,.string ⟨#[]⟩,.string ⟨#[]⟩,.string ⟨#[]⟩,.string ⟨#[]⟩] 42) ∧ Rs.Blk wr w1.heap.size (.cells (Rs.part k) 66 (0,0)) ∧ Below w.heap.size w wr) (fun iv _ => 7 - (intOf iv).toNat)
  case atStart => exact ⟨0,by omega,rfl,H2.out.1,H2.out.2.1,H2.out.2.2.1,H2.out.2.2.2.1⟩
  case round =>
  obtain ⟨k,hk,rfl,k3,k2,k4,hB⟩ := hrel
  obtain ⟨w4,rfl⟩ : ∃ w4,w4 = wr := ⟨_,rfl⟩
  by_cases hlt : k < 7
  · have hkz : (k : Int) < 7 := by omega
    have hk0 : 0 ≤ (k : Int) := by omega
    have ck := (cell_of_row w4 (w.heap.size + 1) k _ _ _ k3.eq).trans (Rs.tab_at k hlt)
    have HF := Lib.hid (Rs.from0 k hlt w4)
    have H4 := Lib.hid (And.intro k3 (And.intro k2 (And.intro k4 (And.intro hB hlt))))
    clear k3 k2 k4 hB
    go_wp2_with fail
    refine Calls.mono HF.out ?_
    rintro e5 w5 ⟨rfl,hb⟩
    have k4 := H4.out.2.2.1.below hb
    have d0 := (cell_of_row w5 w1.heap.size k _ _ _ k4.eq).trans (Rs.part_cell k k hlt)
    have fz : w5.frozen? ⟨w1.heap.size,k,none⟩ = false := by
      have h := k4.eq
      simp [World.frozen?,h]
    have hk4 := k4.set (j := k) (.string (Rs.kb k))
    rw [Rs.part_set k hlt] at hk4
    have hk2 := (H4.out.2.1.below hb).setFar (j := k) (v := .string (Rs.kb k)) (Nat.ne_of_lt H2.out.2.2.2.2.1)
    have hk3 := (H4.out.1.below hb).setFar (j := k) (v := .string (Rs.kb k)) (Nat.ne_of_lt H2.out.2.2.2.2.2)
    have hbl := (H4.out.2.2.2.1.trans (hb.mono H4.out.2.2.2.1.size)).setCell (p := ⟨w1.heap.size,k,none⟩) (Nat.le_of_lt H2.out.2.2.2.2.1) (.string (Rs.kb k))
    have H5 := Lib.hid (And.intro hk3 (And.intro hk2 (And.intro hk4 hbl)))
    clear hb k4 hk4 hk2 hk3 hbl ck
    go_wp2_with fail
    exact ⟨⟨k + 1,by omega,by go_num,H5.out.1,H5.out.2.1,H5.out.2.2.1,H5.out.2.2.2⟩,by simp [intOf]; omega⟩
  · have hkz : ¬ (k : Int) < 7 := by omega
    obtain rfl : k = 7 := by omega
    have c0 : w4.cell? ⟨w1.heap.size,0,none⟩ = some (.string (Rs.kb 0)) := (cell_of_row w4 w1.heap.size 0 _ _ _ k4.eq).trans (Rs.part_cell 7 0 (by decide))
    have c1 : w4.cell? ⟨w1.heap.size,1,none⟩ = some (.string (Rs.kb 1)) := (cell_of_row w4 w1.heap.size 1 _ _ _ k4.eq).trans (Rs.part_cell 7 1 (by decide))
    have c2 : w4.cell? ⟨w1.heap.size,2,none⟩ = some (.string (Rs.kb 2)) := (cell_of_row w4 w1.heap.size 2 _ _ _ k4.eq).trans (Rs.part_cell 7 2 (by decide))
    have c3 : w4.cell? ⟨w1.heap.size,3,none⟩ = some (.string (Rs.kb 3)) := (cell_of_row w4 w1.heap.size 3 _ _ _ k4.eq).trans (Rs.part_cell 7 3 (by decide))
    have c4 : w4.cell? ⟨w1.heap.size,4,none⟩ = some (.string (Rs.kb 4)) := (cell_of_row w4 w1.heap.size 4 _ _ _ k4.eq).trans (Rs.part_cell 7 4 (by decide))
    have c5 : w4.cell? ⟨w1.heap.size,5,none⟩ = some (.string (Rs.kb 5)) := (cell_of_row w4 w1.heap.size 5 _ _ _ k4.eq).trans (Rs.part_cell 7 5 (by decide))
    have c6 : w4.cell? ⟨w1.heap.size,6,none⟩ = some (.string (Rs.kb 6)) := (cell_of_row w4 w1.heap.size 6 _ _ _ k4.eq).trans (Rs.part_cell 7 6 (by decide))
    have H4 := Lib.hid (And.intro k2 hB)
    clear k3 k2 k4 hB hlt hk
    go_wp2_with (refine wpList_store_row rfl 42 (.tmp 2) (.tmp 49) rfl w.heap.size Rs.pair0 rfl rfl 42 _ H4.out.1.eq Rs.info41 rfl Rs.pair0_one ?_)
    exact bodyPost_ret (v := .agg Rs.pair0) (results_cell_row rfl _ _ w.heap.size 42 Rs.pair0 (0,0) _ rfl (H4.out.1.row Rs.pair0).eq Tryz.underlying42 rfl Rs.info41) rfl ⟨rfl,Rs.row_below H4.out.2 _ _ (Nat.le_refl _)⟩
end
end Go.Proofs.YthlecdggkolgmaaGreatDoor
