/-
  Joining, a step at a time; an entry appended to a row of the call's own.
-/
import Derived.Test.YtbckgmfopbpocaaE8
import Derived.Deep.AppendLies
namespace Go.Proofs.Ytbckgmfopbpocaa.R
open K
theorem join_take {a t : List En} {y : En} {i : Nat} (h : i < a.length) (hy : ahead a[i] y = true) : joinL (a.drop i) (y :: t) = a[i] :: joinL (a.drop (i + 1)) (y :: t) := by
  rw [List.drop_eq_getElem_cons h]
  unfold joinL
  rw [List.takeWhile_cons, List.dropWhile_cons]
  simp only [hy, if_true]
  rfl
theorem join_put {a t : List En} {y : En} {i : Nat} (h : ∀ h : i < a.length, ahead a[i] y = false) : joinL (a.drop i) (y :: t) = y :: joinL (a.drop i) t := by
  by_cases hi : i < a.length
  · rw [List.drop_eq_getElem_cons hi]
    conv => lhs; unfold joinL
    rw [List.takeWhile_cons, List.dropWhile_cons]
    simp [h hi]
  · rw [List.drop_eq_nil_of_le (by omega)]
    rfl
end Go.Proofs.Ytbckgmfopbpocaa.R
namespace Go.Proofs.Ytbckgmfopbpocaa.W
open Go.RowKit K R

theorem cellsE_snoc (l : List En) (e : En) : cellsE (l ++ [e]) = cellsE l ++ enC e := by
  unfold cellsE
  rw [List.flatMap_append]
  simp
theorem app_en {ops : Array Oper} {rest : List Oper} {o : Oper} {a : Act} {Q : Exit → Act → World → Prop} (hgd : o.guard = none) (s x : Operand)
    (ho : o.op = .call { callee := .builtin .append, args := #[s, x], argTypes := #[30, 30] })
    (w : World) (base : Nat) (v : Value) (l : List En) (hs : a.eval s = v) (hown : OwnE w base v l) (b cc : Nat) (e : En)
    (hx : a.eval x = .slice (some ⟨b, 0, none⟩) 1 cc) (c0 : w.cell? ⟨b, 0, none⟩ = some (.string e.key)) (c1 : w.cell? ⟨b, 1, none⟩ = some (.int .i64 e.val)) (c2 : w.cell? ⟨b, 2, none⟩ = some (.bool e.gone)) (c3 : w.cell? ⟨b, 3, none⟩ = some (.int .i64 e.time))
    (hl : l.length ≤ 1000000) (hbase : base ≤ w.heap.size)
    (h : ∀ v' w', OwnE w' base v' (l ++ [e]) → w.grownBy w' v.ownBlock → wpList Try.prog ops Q rest (a.put o.dst v') w') : wpList Try.prog ops Q (o :: rest) a w := by
  obtain ⟨i0, hi, hz0, hz1, hz2⟩ := info_parts ent_info
  refine wpList_append_lies w hgd s x _ ho base _ i0 (.agg #[.string ⟨#[]⟩, .int .i64 0, .bool false, .int .i64 0]) 4 40 Try.underlying30 hi hz0 hz1 hz2 rfl (by decide) v l.length (cellsE l) hs hown ⟨b, 0, none⟩ 1 cc (enC e) hx rfl ?_ ?_ (by decide) ?_ ?_ hbase _ rfl ?_
  · intro j u hj
    match j, hj with
    | 0, hj => simp [enC] at hj; subst hj; simpa [Addr.add] using c0
    | 1, hj => simp [enC] at hj; subst hj; simpa [Addr.add] using c1
    | 2, hj => simp [enC] at hj; subst hj; simpa [Addr.add] using c2
    | 3, hj => simp [enC] at hj; subst hj; simpa [Addr.add] using c3
    | n + 4, hj => simp [enC] at hj
  · intro u hu
    simp [enC] at hu
    rcases hu with rfl | rfl | rfl | rfl <;> rfl
  · unfold maxLen; omega
  · omega
  · intro g cap w' h2 h3 h4 _
    refine h _ w' ?_ h3
    unfold OwnE
    rw [cellsE_snoc, List.length_append, List.length_singleton]
    exact h2

end Go.Proofs.Ytbckgmfopbpocaa.W
