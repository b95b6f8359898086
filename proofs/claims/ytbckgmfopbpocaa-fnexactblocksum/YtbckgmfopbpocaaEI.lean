/-
  Appending a slice of entries to one of the call's own.
-/
import Derived.Test.YtbckgmfopbpocaaEH
namespace Go.Proofs.Ytbckgmfopbpocaa.W
open Go.RowKit K R

/-- appending nothing changes nothing -/
theorem run_app_nilE (w : World) (base : Nat) (v : Value) (l : List En) (hown : OwnE w base v l) (A2 : Option Addr) (c2 : Nat) (ty : TypeId) :
    (Builtin.append_ #[30, 30] ty #[v, .slice A2 0 c2]).run Try.prog w = .ok v w := by
  obtain ⟨i0, hi, hz0, hz1, hz2⟩ := info_parts ent_info
  rcases hown.2 with ⟨rfl, _⟩ | ⟨g, cap, cur, rfl, _, _, hnc, _⟩
  · cases A2 <;> simp [Builtin.append_, run_underlying Try.underlying30, sizeOf, typeInfo, hi, Builtin.lenOf, Builtin.firstCells, loadCells, loadCellsFrom]
  · cases A2 <;> simp [Builtin.append_, run_underlying Try.underlying30, sizeOf, typeInfo, hi, Builtin.lenOf, Builtin.firstCells, hnc, storeCells, loadCells, loadCellsFrom]
theorem cellsE_app (a b : List En) : cellsE (a ++ b) = cellsE a ++ cellsE b := by unfold cellsE; rw [List.flatMap_append]
theorem cellsE_one {l : List En} {u : Value} (h : u ∈ cellsE l) : u.oneCell' = true := by
  unfold cellsE at h
  rw [List.mem_flatMap] at h
  obtain ⟨e, -, h⟩ := h
  simp [enC] at h
  rcases h with rfl | rfl | rfl | rfl <;> rfl
/-- append of a slice of entries that can be read -/
theorem app_ens {ops : Array Oper} {rest : List Oper} {o : Oper} {a : Act} {Q : Exit → Act → World → Prop} (hgd : o.guard = none) (s x : Operand)
    (ho : o.op = .call { callee := .builtin .append, args := #[s, x], argTypes := #[30, 30] })
    (w : World) (base : Nat) (v : Value) (l : List En) (hs : a.eval s = v) (hown : OwnE w base v l) (B m cc : Nat) (A2 : Option Addr) (l2 : List En)
    (hx : a.eval x = .slice A2 m cc) (hr : Ents w B A2 m l2) (hl : l.length + m ≤ 4398046511) (hbase : base ≤ w.heap.size)
    (h : ∀ v' w', OwnE w' base v' (l ++ l2) → w.grownBy w' v.ownBlock → wpList Try.prog ops Q rest (a.put o.dst v') w') : wpList Try.prog ops Q (o :: rest) a w := by
  have hlen := hr.len
  refine wpList_step fun K hK => ?_
  rw [if_pos (by simp [Region.wanted, hgd])]
  by_cases hm : m = 0
  · subst hm
    have : l2 = [] := List.eq_nil_of_length_eq_zero hlen
    subst this
    have hrun := run_app_nilE w base v l hown A2 cc o.type
    unfold Oper.wp execOp
    simp only [ho, resolve, invoke, builtin, Sem.run_bind, Sem.run_pure, Result.andThen_ok, List.map_toArray, List.map_cons, List.map_nil, hs, hx, hrun]
    exact hK _ _ (h v w (by rw [List.append_nil]; exact hown) (World.grownBy.refl w _))
  · obtain ⟨b, off, hA, _⟩ := hr.cell 0 (by omega)
    subst hA
    obtain ⟨i0, hi, hz0, hz1, hz2⟩ := info_parts ent_info
    refine wp_append_lies w s x _ ho base _ i0 (.agg #[.string ⟨#[]⟩, .int .i64 0, .bool false, .int .i64 0]) 4 40 Try.underlying30 hi hz0 hz1 hz2 rfl (by decide) v l.length (cellsE l) hs hown ⟨b, off, none⟩ m cc (cellsE l2) hx (by rw [cellsE_len, hlen]) ?_ ?_ (by omega) ?_ ?_ hbase _ rfl ?_
    · intro j u hj
      have hjl : j < l2.length * 4 := by
        have := (List.getElem?_eq_some_iff.mp hj).1
        rw [cellsE_len] at this; exact this
      have hi' : j / 4 < l2.length := by omega
      have hat := cellsE_at hi' (j % 4) (by omega)
      rw [show j / 4 * 4 + j % 4 = j by omega, hj] at hat
      obtain ⟨b', off', hA', _, c0, c1, c2, c3⟩ := hr.cell (j / 4) hi'
      simp only [Option.some.injEq, Addr.mk.injEq, and_true] at hA'
      obtain ⟨rfl, rfl⟩ := hA'
      have hadd : (⟨b, off, none⟩ : Addr).add j = ⟨b, off + j, none⟩ := by unfold Addr.add; split <;> simp_all
      rw [hadd]
      have h4 : j % 4 = 0 ∨ j % 4 = 1 ∨ j % 4 = 2 ∨ j % 4 = 3 := by omega
      rcases h4 with h4 | h4 | h4 | h4
      · rw [h4, show (enC l2[j / 4])[0]? = some (.string l2[j / 4].key) from rfl, Option.some.injEq] at hat; rw [hat, show off + j = off + j / 4 * 4 by omega]; exact c0
      · rw [h4, show (enC l2[j / 4])[1]? = some (.int .i64 l2[j / 4].val) from rfl, Option.some.injEq] at hat; rw [hat, show off + j = off + j / 4 * 4 + 1 by omega]; exact c1
      · rw [h4, show (enC l2[j / 4])[2]? = some (.bool l2[j / 4].gone) from rfl, Option.some.injEq] at hat; rw [hat, show off + j = off + j / 4 * 4 + 2 by omega]; exact c2
      · rw [h4, show (enC l2[j / 4])[3]? = some (.int .i64 l2[j / 4].time) from rfl, Option.some.injEq] at hat; rw [hat, show off + j = off + j / 4 * 4 + 3 by omega]; exact c3
    · intro u hu
      exact cellsE_one hu
    · unfold maxLen; omega
    · omega
    · intro g cap w' h2 h3 _ _
      refine hK _ _ (h _ w' ?_ h3)
      unfold OwnE
      rw [cellsE_app, List.length_append, hlen]
      exact h2

end Go.Proofs.Ytbckgmfopbpocaa.W
