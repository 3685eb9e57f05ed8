/- TextCursors: the law by pieces. -/
import Derived.Test.YtbemgeicpbcdhaaDoorCursM
import Derived.Deep.RegionWith
import Derived.Deep.CutRange
import Derived.Deep.CutBlock
namespace Go.Proofs.YtbemgeicpbcdhaaDoor
open Go.RowKit
def Tx.regs : Code → List Code
  | .region i o d => [.region i o d]
  | .loop c => Tx.regs c
  | .seq a b => Tx.regs a ++ Tx.regs b
  | .block _ c => Tx.regs c
  | .scope c => Tx.regs c
  | .cond _ a b => Tx.regs a ++ Tx.regs b
  | _ => []
def Tx.isReg (n : Nat) : Code → Bool
  | .region i _ _ => i == n
  | _ => false
def Tx.blks : Code → List Code
  | .loop c => Tx.blks c
  | .seq a b => Tx.blks a ++ Tx.blks b
  | .block i c => .block i c :: Tx.blks c
  | .scope c => Tx.blks c
  | .cond _ a b => Tx.blks a ++ Tx.blks b
  | _ => []
def Tx.isBlk (n : Nat) : Code → Bool
  | .block i _ => i == n
  | _ => false
/-- As Q0, without a panic. -/
def Tx.np (Q0 : Exit → Act → World → Prop) : Exit → Act → World → Prop := fun e a w => match e with
  | .panic _ => False
  | e => Q0 e a w
theorem Tx.np_up (Q0 : Exit → Act → World → Prop) (e : Exit) (a : Act) (w : World) (h : Tx.np Q0 e a w) : Q0 e a w := by
  cases e <;> first | exact h | exact h.elim
/-- The n-th region of the law. -/
noncomputable def Tx.reg (n : Nat) : Code := (((Tryd.f3.body.map Tx.regs).getD []).find? (Tx.isReg n)).getD .skip
/-- The law's switch. -/
noncomputable def Tx.sw : Code := (((Tryd.f3.body.map Tx.blks).getD []).find? (Tx.isBlk 2)).getD .skip
end Go.Proofs.YtbemgeicpbcdhaaDoor
