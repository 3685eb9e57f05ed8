/- Rows of bytes, each in a block of its own. -/
import Derived.Test.YthlecdggkolgmaaGreatDoorHsW
import Derived.Lib.AppendStr
namespace Go.Proofs.YthlecdggkolgmaaGreatDoor
open Go.RowKit

/-- Slice value v holds the bytes l, in block g. -/
def Hs.Row (w : World) (g : Nat) (v : Value) (l : List UInt8) : Prop := Tx.Own w g v l ∧ v.ownBlock = some g
theorem Hs.Row.lt {w : World} {g : Nat} {v : Value} {l : List UInt8} (h : Hs.Row w g v l) : g < w.heap.size := (World.ownsRow.lt h.1 g h.2).2
theorem Hs.Row.keep {w w' : World} {g : Nat} {v : Value} {l : List UInt8} (h : Hs.Row w g v l) (hk : w'.heap[g]? = w.heap[g]?) : Hs.Row w' g v l := by
  refine ⟨⟨h.1.1,?_⟩,h.2⟩
  rcases h.1.2 with hn | ⟨g2,cap,cur,rfl,hg,hgg,rest⟩
  · exact .inl hn
  · have e : g2 = g := by have := h.2; simpa [Value.ownBlock] using this
    subst e
    exact .inr ⟨g2,cap,cur,rfl,hg,by rw [hk]; exact hgg,rest⟩
theorem Hs.Row.below {w w' : World} {g B : Nat} {v : Value} {l : List UInt8} (h : Hs.Row w g v l) (hb : Below B w w') (hB : g < B) : Hs.Row w' g v l := h.keep (hb.block g hB)
theorem Hs.Row.but {w w' : World} {g p : Nat} {v : Value} {l : List UInt8} (h : Hs.Row w g v l) (hb : Hs.But p w w') (hp : g ≠ p) : Hs.Row w' g v l := h.keep (hb.block g h.lt hp)
theorem Hs.Row.len {w : World} {g : Nat} {v : Value} {l : List UInt8} (h : Hs.Row w g v l) : ∃ cap,v = .slice (some ⟨g,0,none⟩) l.length cap := by
  rcases h.1.2 with ⟨rfl,_⟩ | ⟨g2,cap,cur,rfl,_⟩
  · have := h.2; simp [Value.ownBlock] at this
  · have e : g2 = g := by have := h.2; simpa [Value.ownBlock] using this
    subst e
    exact ⟨cap,rfl⟩
theorem Hs.Row.nil (w : World) : Hs.Row (w.alloc (.cells #[] 5)) w.heap.size (.slice (some ⟨w.heap.size,0,none⟩) 0 0) [] :=
  ⟨⟨rfl,.inr ⟨w.heap.size,0,#[],rfl,Nat.le_refl _,heap_alloc_new _ _,Nat.le_refl _,Nat.zero_le _,rfl,rfl⟩⟩,rfl⟩
theorem Hs.Row.conv {w : World} {g : Nat} {v : Value} {l : List UInt8} (h : Hs.Row w g v l) : (convert 36 9 v).run Tryz.prog w = .ok (.string (Tx.ba l)) w := Tx.Own.conv h.1
theorem Hs.Row.of {w : World} {B g : Nat} {v : Value} {l : List UInt8} (h : Tx.Own w B v l) (hv : v.ownBlock = some g) : Hs.Row w g v l := by
  refine ⟨⟨h.1,?_⟩,hv⟩
  rcases h.2 with ⟨rfl,_⟩ | ⟨g2,cap,cur,rfl,_,rest⟩
  · simp [Value.ownBlock] at hv
  · have e : g2 = g := by simpa [Value.ownBlock] using hv
    subst e
    exact .inr ⟨g2,cap,cur,rfl,Nat.le_refl _,rest⟩
theorem Hs.But.of_grown {w w' : World} {g : Nat} (h : w.grownBy w' (some g)) : Hs.But g w w' := ⟨h.os,h.tape,h.output,h.size,fun k hk hg => h.block k hk (by simp; exact fun e => hg e)⟩
theorem Hs.strCells_eq (l : List UInt8) (s : ByteArray) : (l ++ s.data.toList).map Tx.bv = l.map Tx.bv ++ Lib.strCells s := by simp [Lib.strCells,Tx.bv]
/-- append of a text's bytes: where the new row lies. -/
theorem Hs.run_append (w : World) (ty : TypeId) (g : Nat) (v : Value) (l : List UInt8) (h : Hs.Row w g v l) (s : ByteArray) (hb : l.length + s.size ≤ 140737488355328) :
    ∃ v' w' g',(Builtin.append_ #[36,9] ty #[v,.string s]).run Tryz.prog w = .ok v' w' ∧ Hs.Row w' g' v' (l ++ s.data.toList) ∧ (g' = g ∨ g' = w.heap.size) ∧ Hs.But g w w' := by
  obtain ⟨i0,hi,hz0,hz1,hz2⟩ := info_parts Tx.info8
  obtain ⟨v',w',hr,h2,h3,h4⟩ := Lib.run_append_own_string (P := Tryz.prog) w g 36 9 ty 5 i0 Tryz.underlying36 Tryz.underlying9 hi hz0 hz1 hz2 v l.length (l.map Tx.bv) h.1 s (by unfold maxLen; omega) hb (Nat.le_of_lt h.lt)
  have hown : Tx.Own w' g v' (l ++ s.data.toList) := by
    unfold Tx.Own
    rw [Hs.strCells_eq,List.length_append,Tx.len]
    exact h2
  have hbk : v'.ownBlock = some g ∨ v'.ownBlock = some w.heap.size := by
    rcases h.1.2 with ⟨rfl,_⟩ | ⟨g2,cap,cur,rfl,hbg,hg,hnc,hcm,hcs,htake⟩
    · have := h.2; simp [Value.ownBlock] at this
    · have e : g2 = g := by have := h.2; simpa [Value.ownBlock] using this
      subst e
      by_cases hroom : l.length + s.size ≤ cap
      · have hr2 := Lib.run_append_room_string (P := Tryz.prog) w 36 9 ty 5 i0 Tryz.underlying36 Tryz.underlying9 hi hz1 g2 l.length cap cur hg s hroom (by simp at hcs; omega)
        rw [hr2] at hr
        injection hr with e1 e2
        left
        rw [← e1]
        rfl
      · have holds : ∀ j u,(l.map Tx.bv)[j]? = some u → w.cell? ((⟨g2,0,none⟩ : Addr).add j) = some u := h.1.cells (g := g2) rfl
        have hr2 := Lib.run_append_grow_string (P := Tryz.prog) w 36 9 ty 5 i0 (.int .u8 0) Tryz.underlying36 Tryz.underlying9 hi hz0 ⟨g2,0,none⟩ l.length cap (l.map Tx.bv) (by rw [hz1]; simp) holds s (by omega) (by omega) (by rw [hz2]; exact growslice_fits (by omega) (by omega))
        rw [hr2] at hr
        injection hr with e1 e2
        right
        rw [← e1]
        rfl
  rw [h.2] at h3
  rcases hbk with hbk | hbk
  · exact ⟨v',w',g,hr,Hs.Row.of hown hbk,.inl rfl,Hs.But.of_grown h3⟩
  · exact ⟨v',w',w.heap.size,hr,Hs.Row.of hown hbk,.inr rfl,Hs.But.of_grown h3⟩
theorem Hs.appendS {w : World} {ops : Array Oper} {rest : List Oper} {o : Oper} {a : Act} {Q : Exit → Act → World → Prop} (hgd : o.guard = none) (s x : Operand) (hop : o.op = .call { callee := .builtin .append,args := #[s,x],argTypes := #[36,9] }) (g : Nat) (v : Value) (l : List UInt8) (hs : a.eval s = v) (hrow : Hs.Row w g v l)
    (p : ByteArray) (hx : a.eval x = .string p) (hlen : l.length + p.size ≤ 140737488355328)
    (hK : ∀ v' w' g',Hs.Row w' g' v' (l ++ p.data.toList) → (g' = g ∨ g' = w.heap.size) → Hs.But g w w' → wpList Tryz.prog ops Q rest (a.put o.dst v') w') : wpList Tryz.prog ops Q (o :: rest) a w := by
  refine wpList_plain hgd fun K hK2 => ?_
  obtain ⟨v',w',g',hr,h1,h2,h3⟩ := Hs.run_append w o.type g v l hrow p hlen
  unfold Oper.wp execOp
  simp only [hop,resolve,invoke,builtin,Sem.run_bind,Sem.run_pure,Result.andThen_ok,List.map_toArray,List.map_cons,List.map_nil,hs,hx,hr]
  exact hK2 _ _ (hK v' w' g' h1 h2 h3)

end Go.Proofs.YthlecdggkolgmaaGreatDoor
