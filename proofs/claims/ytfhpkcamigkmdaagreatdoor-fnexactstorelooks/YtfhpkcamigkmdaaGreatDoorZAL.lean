/-
  The program's sievesEqual; and slices.Clone of entries and of numbers.
  Appending rows of any type; contracts of the trie's heads and of headTexts.
  Contract of the trie's has: where the letters of a key lead.
-/
import Derived.Test.YtfhpkcamigkmdaaGreatDoorZAK
import Derived.Test.YtfhpkcamigkmdaaGreatDoorJ9
import Derived.Test.YtfhpkcamigkmdaaGreatDoorZAJ
import Derived.Lib.SliceRun
import Derived.Deep.Cut
namespace Go.Proofs.YtfhpkcamigkmdaaGreatDoor.W
open Go.RowKit K R

/-- two filters are the same, as the program tells it -/
def eqB (L M_ F X0 X1 X2 : ByteArray) (l l2 : List ByteArray) (k k2 : Int) : Bool := (L.toList == X0.toList) && ((M_.toList == X1.toList) && ((F.toList == X2.toList) && (sameL l l2 && decide (k = k2))))
set_option maxHeartbeats 4000000 in
theorem sevI (w : World) (n c n2 c2 : Nat) (A A2 : Option Addr) (L M_ F X0 X1 X2 : ByteArray) (l l2 : List ByteArray) (k k2 : Int) (hr : Strs w w.heap.size A n l) (hr2 : Strs w w.heap.size A2 n2 l2) (hn : n ≤ maxLen) (hn2 : n2 ≤ maxLen) :
    Calls Tryz.prog 116 #[.agg #[.string L, .string M_, .string F, .slice A n c, .int .i64 k], .agg #[.string X0, .string X1, .string X2, .slice A2 n2 c2, .int .i64 k2]] w fun e w' => e = .returned (.bool (eqB L M_ F X0 X1 X2 l l2 k k2)) ∧ Below w.heap.size w w' := by
  obtain ⟨W0, hW0⟩ : ∃ W0, W0 = (w.alloc (.cells #[.string L, .string M_, .string F, .slice A n c, .int .i64 k] 92)).alloc (.cells #[.string X0, .string X1, .string X2, .slice A2 n2 c2, .int .i64 k2] 92) := ⟨_, rfl⟩
  have hbw : Below w.heap.size w W0 := by rw [hW0]; exact ((Below.refl _ _).alloc (Nat.le_refl _) _).alloc (by simp) _
  have x0 : W0.heap[w.heap.size]? = some (.cells #[.string L, .string M_, .string F, .slice A n c, .int .i64 k] 92 (0, 0)) := by rw [hW0, Below.heap_alloc _ _ _ (by simp)]; exact heap_alloc_new _ _
  have x1 : W0.heap[w.heap.size + 1]? = some (.cells #[.string X0, .string X1, .string X2, .slice A2 n2 c2, .int .i64 k2] 92 (0, 0)) := by rw [hW0]; have := heap_alloc_new (w.alloc (.cells #[.string L, .string M_, .string F, .slice A n c, .int .i64 k] 92)) (.cells #[.string X0, .string X1, .string X2, .slice A2 n2 c2, .int .i64 k2] 92); simpa using this
  have a4 : ∀ W : World, W.heap = W0.heap → W.cell? ⟨w.heap.size, 4, none⟩ = some (.int .i64 k) ∧ W.cell? ⟨w.heap.size + 1, 4, none⟩ = some (.int .i64 k2) := fun W hW => by
    rw [cell_of_row _ _ _ _ _ _ (by rw [hW]; exact x0), cell_of_row _ _ _ _ _ _ (by rw [hW]; exact x1)]; exact ⟨rfl, rfl⟩
  have HE := Lib.hid (equalI W0 W0.heap.size n c n2 c2 A A2 l l2 ((hr.below hbw (Nat.le_refl _)).more hbw.size) ((hr2.below hbw (Nat.le_refl _)).more hbw.size) hn hn2)
  have HBW := Lib.hid hbw
  have HB := Lib.hid (show Below w.heap.size w ((w.alloc (.cells #[.string L, .string M_, .string F, .slice A n c, .int .i64 k] 92)).alloc (.cells #[.string X0, .string X1, .string X2, .slice A2 n2 c2, .int .i64 k2] 92)) by rw [← hW0]; exact hbw)
  have HA := Lib.hid a4
  have HW := Lib.hid hW0
  clear hr hr2 hbw x0 x1 hW0 a4
  rcases Bool.eq_false_or_eq_true (L.toList == X0.toList) with a1 | a1
  case inr =>
    go_enter Tryz.func116, Tryz.ntmps116
    go_wp2
    go_ret
    exact ⟨ret_bool (by unfold eqB; rw [a1]; simp), HB.out⟩
  rcases Bool.eq_false_or_eq_true (M_.toList == X1.toList) with a2 | a2
  case inr =>
    go_enter Tryz.func116, Tryz.ntmps116
    go_wp2
    go_ret
    exact ⟨ret_bool (by unfold eqB; rw [a1, a2]; simp), HB.out⟩
  rcases Bool.eq_false_or_eq_true (F.toList == X2.toList) with a3 | a3
  case inr =>
    go_enter Tryz.func116, Tryz.ntmps116
    go_wp2
    go_ret
    exact ⟨ret_bool (by unfold eqB; rw [a1, a2, a3]; simp), HB.out⟩
  rcases Bool.eq_false_or_eq_true (sameL l l2) with a4 | a4
  case inr =>
    go_enter Tryz.func116, Tryz.ntmps116
    go_wp2_with fail
    rw [← HW.out]
    go_at_call 152
    refine Calls.mono HE.out ?_
    rw [a4]
    rintro e w5 ⟨rfl, m5, rfl⟩
    go_wp2
    go_ret
    exact ⟨ret_bool (by unfold eqB; rw [a1, a2, a3, a4]; simp), below_drewN HBW.out _⟩
  by_cases a5 : k = k2
  case neg =>
    have a6 : (k == k2) = false := by rw [beq_eq_false_iff_ne]; exact a5
    have a7 : decide (k = k2) = false := decide_eq_false a5
    go_enter Tryz.func116, Tryz.ntmps116
    go_wp2_with fail
    rw [← HW.out]
    go_at_call 152
    refine Calls.mono HE.out ?_
    rw [a4]
    rintro e w5 ⟨rfl, m5, rfl⟩
    obtain ⟨i4, j4⟩ := HA.out (W0.drewN m5) rfl
    go_wp2
    go_ret
    exact ⟨ret_bool (by unfold eqB; rw [a1, a2, a3, a4, a7]; simp), below_drewN HBW.out _⟩
  subst a5
  go_enter Tryz.func116, Tryz.ntmps116
  go_wp2_with fail
  rw [← HW.out]
  go_at_call 152
  refine Calls.mono HE.out ?_
  rw [a4]
  rintro e w5 ⟨rfl, m5, rfl⟩
  obtain ⟨i4, j4⟩ := HA.out (W0.drewN m5) rfl
  go_wp2
  go_ret
  exact ⟨ret_bool (by unfold eqB; rw [a1, a2, a3, a4]; simp), below_drewN HBW.out _⟩

/-- an answer in new memory: entries -/
def NewSE (w : World) (l : List En) (e : Ending) (w' : World) : Prop := ∃ v, e = .returned v ∧ OwnE w' w.heap.size v l ∧ Below w.heap.size w w'
theorem ownE_nil (w : World) (base : Nat) : OwnE w base (.slice none 0 0) [] := World.ownsRow_nil w base _ _
set_option maxHeartbeats 1000000 in
theorem cloneE (w : World) (B n c : Nat) (A : Option Addr) (l : List En) (hr : Ents w B A n l) (hB : B ≤ w.heap.size) (hn : n ≤ 1048576) :
    Calls Tryz.prog 113 #[.slice A n c] w (NewSE w l) := by
  have hlen := hr.len
  subst hlen
  have hq := fun W : World => Lib.run_eql_slice_nil (P := Tryz.prog) W 29 83 A l.length c 0 0 Tryz.underlying29
  cases A with
  | none =>
    have hd : l = [] := by
      cases l with
      | nil => rfl
      | cons a t =>
        obtain ⟨b, off, hA, -⟩ := hr.cell 0 (by simp)
        cases hA
    subst hd
    clear hr
    simp only [Option.isNone_none, List.length_nil] at hq
    go_enter Tryz.func113, Tryz.ntmps113
    go_wp2
    go_ret
    exact ⟨_, rfl, ownE_nil _ _, Below.refl _ _⟩
  | some a =>
    have HR := Lib.hid hr
    clear hr
    simp only [Option.isNone_some] at hq
    have E0 := Lib.hid (emptyE w)
    have E1 := Lib.hid ((Below.refl w.heap.size w).alloc (Nat.le_refl _) (.cells #[] 83))
    go_enter Tryz.func113, Tryz.ntmps113
    go_wp2_with (at_builtin; go_must (refine app_ens rfl (.tmp 5) (.tmp 6) rfl _ w.heap.size _ [] rfl E0.out B l.length c (some a) l rfl (HR.out.below E1.out hB) (by simp; omega) (by simp) ?_); intro v1 w1 o1 g1)
    have HB1 := Lib.hid (E1.out.grown g1 (by simp) (fun k hk => (World.ownsRow.lt E0.out k hk).1))
    have HO1 := Lib.hid o1
    clear o1 g1
    go_wp2
    go_ret
    exact ⟨_, rfl, by have := HO1.out; rwa [List.nil_append] at this, HB1.out⟩

theorem intsC_app (a b : List Int) : intsC (a ++ b) = intsC a ++ intsC b := by simp [intsC]
theorem run_app_nilN (w : World) (base : Nat) (v : Value) (l : List Int) (hown : OwnN w base v l) (A2 : Option Addr) (c2 : Nat) (ty : TypeId) :
    (Builtin.append_ #[25, 25] ty #[v, .slice A2 0 c2]).run Tryz.prog w = .ok v w := by
  obtain ⟨i0, hi, hz0, hz1, hz2⟩ := info_parts int_info
  rcases hown.2 with ⟨rfl, _⟩ | ⟨g, cap, cur, rfl, _, _, hnc, _⟩
  · cases A2 <;> simp [Builtin.append_, run_underlying Tryz.underlying25, sizeOf, typeInfo, hi, Builtin.lenOf, Builtin.firstCells, loadCells, loadCellsFrom]
  · cases A2 <;> simp [Builtin.append_, run_underlying Tryz.underlying25, sizeOf, typeInfo, hi, Builtin.lenOf, Builtin.firstCells, hnc, storeCells, loadCells, loadCellsFrom]
theorem app_ns {ops : Array Oper} {rest : List Oper} {o : Oper} {a : Act} {Q : Exit → Act → World → Prop} (hgd : o.guard = none) (s x : Operand)
    (ho : o.op = .call { callee := .builtin .append, args := #[s, x], argTypes := #[25, 25] })
    (w : World) (base : Nat) (v : Value) (l : List Int) (hs : a.eval s = v) (hown : OwnN w base v l) (B m cc : Nat) (A2 : Option Addr) (l2 : List Int)
    (hx : a.eval x = .slice A2 m cc) (hr : Nums w B A2 m l2) (hl : l.length + m ≤ 4398046511) (hbase : base ≤ w.heap.size)
    (h : ∀ v' w', OwnN w' base v' (l ++ l2) → w.grownBy w' v.ownBlock → wpList Tryz.prog ops Q rest (a.put o.dst v') w') : wpList Tryz.prog ops Q (o :: rest) a w := by
  have hlen := hr.len
  refine wpList_step fun K hK => ?_
  rw [if_pos (by simp [Region.wanted, hgd])]
  by_cases hm : m = 0
  · subst hm
    have : l2 = [] := List.eq_nil_of_length_eq_zero hlen
    subst this
    have hrun := run_app_nilN w base v l hown A2 cc o.type
    unfold Oper.wp execOp
    simp only [ho, resolve, invoke, builtin, Sem.run_bind, Sem.run_pure, Result.andThen_ok, List.map_toArray, List.map_cons, List.map_nil, hs, hx, hrun]
    exact hK _ _ (h v w (by rw [List.append_nil]; exact hown) (World.grownBy.refl w _))
  · obtain ⟨b, off, hA, _⟩ := hr.cell 0 (by omega)
    subst hA
    obtain ⟨i0, hi, hz0, hz1, hz2⟩ := info_parts int_info
    refine wp_append_lies w s x _ ho base _ i0 (.int .i64 0) 1 8 Tryz.underlying25 hi hz0 hz1 hz2 rfl (by decide) v l.length (intsC l) hs hown ⟨b, off, none⟩ m cc (intsC l2) hx (by simp [intsC, hlen]) ?_ ?_ (by omega) ?_ ?_ hbase _ rfl ?_
    · intro j u hj
      have hjl : j < l2.length := by
        have := (List.getElem?_eq_some_iff.mp hj).1
        simpa [intsC] using this
      rw [intsC_get hjl, Option.some.injEq] at hj
      subst hj
      obtain ⟨b', off', hA', _, c0⟩ := hr.cell j hjl
      simp only [Option.some.injEq, Addr.mk.injEq, and_true] at hA'
      obtain ⟨rfl, rfl⟩ := hA'
      have hadd : (⟨b, off, none⟩ : Addr).add j = ⟨b, off + j, none⟩ := by unfold Addr.add; split <;> simp_all
      rw [hadd]
      exact c0
    · intro u hu
      unfold intsC at hu
      obtain ⟨x, _, rfl⟩ := List.mem_map.mp hu
      rfl
    · unfold maxLen; omega
    · omega
    · intro g cap w' h2 h3 _ _
      refine hK _ _ (h _ w' ?_ h3)
      unfold OwnN
      rw [intsC_app, List.length_append, hlen]
      exact h2
theorem emptyN (w : World) : OwnN (w.alloc (.cells #[] 3)) w.heap.size (.slice (some ⟨w.heap.size, 0, none⟩) 0 0) [] := World.ownsRow_made w #[] 0 (Nat.le_refl _) (by unfold maxLen; omega) rfl
def NewSN (w : World) (l : List Int) (e : Ending) (w' : World) : Prop := ∃ v, e = .returned v ∧ OwnN w' w.heap.size v l ∧ Below w.heap.size w w'
set_option maxHeartbeats 1000000 in
theorem cloneN (w : World) (B n c : Nat) (A : Option Addr) (l : List Int) (hr : Nums w B A n l) (hB : B ≤ w.heap.size) (hn : n ≤ 1048576) :
    Calls Tryz.prog 114 #[.slice A n c] w (NewSN w l) := by
  have hlen := hr.len
  subst hlen
  have hq := fun W : World => Lib.run_eql_slice_nil (P := Tryz.prog) W 25 3 A l.length c 0 0 Tryz.underlying25
  cases A with
  | none =>
    have hd : l = [] := by
      cases l with
      | nil => rfl
      | cons a t =>
        obtain ⟨b, off, hA, -⟩ := hr.cell 0 (by simp)
        cases hA
    subst hd
    clear hr
    simp only [Option.isNone_none, List.length_nil] at hq
    go_enter Tryz.func114, Tryz.ntmps114
    go_wp2
    go_ret
    exact ⟨_, rfl, World.ownsRow_nil _ _ _ _, Below.refl _ _⟩
  | some a =>
    have HR := Lib.hid hr
    clear hr
    simp only [Option.isNone_some] at hq
    have E0 := Lib.hid (emptyN w)
    have E1 := Lib.hid ((Below.refl w.heap.size w).alloc (Nat.le_refl _) (.cells #[] 3))
    go_enter Tryz.func114, Tryz.ntmps114
    go_wp2_with (at_builtin; go_must (refine app_ns rfl (.tmp 5) (.tmp 6) rfl _ w.heap.size _ [] rfl E0.out B l.length c (some a) l rfl (HR.out.below E1.out hB) (by simp; omega) (by simp) ?_); intro v1 w1 o1 g1)
    have HB1 := Lib.hid (E1.out.grown g1 (by simp) (fun k hk => (World.ownsRow.lt E0.out k hk).1))
    have HO1 := Lib.hid o1
    clear o1 g1
    go_wp2
    go_ret
    exact ⟨_, rfl, by have := HO1.out; rwa [List.nil_append] at this, HB1.out⟩

end Go.Proofs.YtfhpkcamigkmdaaGreatDoor.W
namespace Go.Proofs.YtfhpkcamigkmdaaGreatDoor.W
open Go.RowKit K

theorem run_app_none (w : World) (T E : TypeId) (sz base : Nat) (v : Value) (n : Nat) (cs : List Value) (z : Value) (by_ : Nat) (hT : Tryz.prog.underlying T = some (.slice E)) (hE : (Tryz.prog.info? E).map (fun i => (i.zero, i.size, i.bytes)) = some (some z, sz, by_)) (hown : Row E sz w base v n cs) (A2 : Option Addr) (c2 : Nat) (ty : TypeId) :
    (Builtin.append_ #[T, T] ty #[v, .slice A2 0 c2]).run Tryz.prog w = .ok v w := by
  obtain ⟨i0, hi, hz0, hz1, hz2⟩ := info_parts hE
  rcases hown.2 with ⟨rfl, _⟩ | ⟨g, cap, cur, rfl, _, _, hnc, _⟩
  · cases A2 <;> simp [Builtin.append_, run_underlying hT, sizeOf, typeInfo, hi, Builtin.lenOf, Builtin.firstCells, loadCells, loadCellsFrom]
  · cases A2 <;> simp [Builtin.append_, run_underlying hT, sizeOf, typeInfo, hi, Builtin.lenOf, Builtin.firstCells, hnc, storeCells, loadCells, loadCellsFrom]

/-- append of elements that can be read -/
theorem app_row {ops : Array Oper} {rest : List Oper} {o : Oper} {a : Act} {Q : Exit → Act → World → Prop} (hgd : o.guard = none) (s x : Operand) (T E : TypeId) (sz : Nat) (z : Value) (by_ : Nat)
    (ho : o.op = .call { callee := .builtin .append, args := #[s, x], argTypes := #[T, T] }) (hT : Tryz.prog.underlying T = some (.slice E)) (hE : (Tryz.prog.info? E).map (fun i => (i.zero, i.size, i.bytes)) = some (some z, sz, by_)) (hz : z.cells.size = sz) (hsz : 0 < sz)
    (w : World) (base : Nat) (v : Value) (n : Nat) (cs : List Value) (hs : a.eval s = v) (hown : Row E sz w base v n cs) (m cc : Nat) (A2 : Option Addr) (news : List Value)
    (hx : a.eval x = .slice A2 m cc) (hlen : news.length = m * sz) (hr : ∀ j u, news[j]? = some u → ∃ b off, A2 = some ⟨b, off, none⟩ ∧ w.cell? ⟨b, off + j, none⟩ = some u) (h1 : ∀ u ∈ news, u.oneCell' = true) (hl : n + m ≤ 1000000) (hby : by_ ≤ 100) (hbase : base ≤ w.heap.size)
    (h : ∀ v' w', Row E sz w' base v' (n + m) (cs ++ news) → Grew w w' v v' → wpList Tryz.prog ops Q rest (a.put o.dst v') w') : wpList Tryz.prog ops Q (o :: rest) a w := by
  refine wpList_step fun K hK => ?_
  rw [if_pos (by simp [Region.wanted, hgd])]
  by_cases hm : m = 0
  · subst hm
    have : news = [] := List.eq_nil_of_length_eq_zero (by omega)
    subst this
    have hrun := run_app_none w T E sz base v n cs z by_ hT hE hown A2 cc o.type
    unfold Oper.wp execOp
    simp only [ho, resolve, invoke, builtin, Sem.run_bind, Sem.run_pure, Result.andThen_ok, List.map_toArray, List.map_cons, List.map_nil, hs, hx, hrun]
    exact hK _ _ (h v w (by rw [List.append_nil]; exact hown) (Grew.refl w _))
  · have hpos : 0 < m * sz := Nat.mul_pos (by omega) hsz
    obtain ⟨b, off, hA, _⟩ := hr 0 news[0] (List.getElem?_eq_getElem (by omega))
    subst hA
    obtain ⟨i0, hi, hz0, hz1, hz2⟩ := info_parts hE
    refine wp_append_lies w s x _ ho base _ i0 z sz by_ hT hi hz0 hz1 hz2 hz hsz v n cs hs hown ⟨b, off, none⟩ m cc news hx hlen ?_ h1 (by omega) ?_ ?_ hbase _ rfl ?_
    · intro j u hj
      obtain ⟨b', off', hA', hc⟩ := hr j u hj
      simp only [Option.some.injEq, Addr.mk.injEq, and_true] at hA'
      obtain ⟨rfl, rfl⟩ := hA'
      rw [add_at]; exact hc
    · unfold maxLen; omega
    · have : (n + m) * by_ ≤ (n + m) * 100 := Nat.mul_le_mul_left _ hby
      omega
    · intro g cap w' h2 h3 h4 _
      refine hK _ _ (h _ w' h2 ⟨h3, fun j hj => ?_⟩)
      have hjg : j = g := by simpa [Value.ownBlock] using hj.symm
      subst hjg
      rcases h4 with h4 | h4
      · exact .inr h4
      · exact .inl (by omega)

theorem i64_fit (a : Nat) (h : a ≤ 9223372036854775806) : IntKind.i64.wrap ((a : Int) + 1) = (a : Int) + 1 := by
  unfold IntKind.wrap; simp [IntKind.signed, IntKind.bits]; omega
/-- what a type switch finds -/
theorem as_on (v : Value) (W : World) : (Instr.typeAssert (.iface 169 v) 165 169 true).run Tryz.prog W = .ok (.tuple #[v, .bool true]) W := by kernel_rfl
theorem as_en (v : Value) (W : World) : (Instr.typeAssert (.iface 171 v) 165 171 true).run Tryz.prog W = .ok (.tuple #[v, .bool true]) W := by kernel_rfl
theorem as_no (v : Value) (W : World) : (Instr.typeAssert (.iface 171 v) 165 169 true).run Tryz.prog W = .ok (.tuple #[.agg #[.int .u8 0, .int .i64 0], .bool false]) W := by kernel_rfl
theorem as_nil_on (W : World) : (Instr.typeAssert .nilIface 165 169 true).run Tryz.prog W = .ok (.tuple #[.agg #[.int .u8 0, .int .i64 0], .bool false]) W := by kernel_rfl
theorem as_nil_en (W : World) : (Instr.typeAssert .nilIface 165 171 true).run Tryz.prog W = .ok (.tuple #[.agg #[.int .u8 0, .string ⟨#[]⟩, .bool false], .bool false]) W := by kernel_rfl

/-- heads as the program holds them -/
def cellsH (l : List (T.Str × Bool)) : List Value := l.flatMap fun h => [.string (ba h.1), .bool h.2]
theorem cellsH_len (l : List (T.Str × Bool)) : (cellsH l).length = l.length * 2 := by
  induction l with
  | nil => rfl
  | cons e t ih => unfold cellsH at *; rw [List.flatMap_cons, List.length_append, ih]; simp; omega
theorem cellsH_append (a b : List (T.Str × Bool)) : cellsH (a ++ b) = cellsH a ++ cellsH b := by unfold cellsH; rw [List.flatMap_append]
theorem cellsH_get : ∀ (l : List (T.Str × Bool)) (i : Nat) (h : i < l.length), (cellsH l)[2 * i]? = some (.string (ba l[i].1)) ∧ (cellsH l)[2 * i + 1]? = some (.bool l[i].2)
  | e :: t, 0, _ => ⟨rfl, rfl⟩
  | e :: t, i + 1, h => by
    have := cellsH_get t i (by simpa using h)
    have e1 : cellsH (e :: t) = .string (ba e.1) :: .bool e.2 :: cellsH t := rfl
    rw [e1, show 2 * (i + 1) = 2 * i + 1 + 1 by omega]
    simpa using this
theorem cellsH_one (l : List (T.Str × Bool)) : ∀ u ∈ cellsH l, u.oneCell' = true := by
  intro u hu
  obtain ⟨e, _, hu⟩ := List.mem_flatMap.mp hu
  rcases List.mem_cons.mp hu with rfl | hu
  · rfl
  · rcases List.mem_cons.mp hu with rfl | hu
    · rfl
    · cases hu
/-- a slice of heads of the call's own -/
def OwnH (w : World) (base : Nat) (v : Value) (l : List (T.Str × Bool)) : Prop := Row 177 2 w base v l.length (cellsH l)
theorem head_info : (Tryz.prog.info? 177).map (fun i => (i.zero, i.size, i.bytes)) = some (some (.agg #[.string ⟨#[]⟩, .bool false]), 2, 24) := by kernel_rfl
theorem ba_app (a b : T.Str) : ba a ++ ba b = ba (a ++ b) := by
  apply ba_ext
  rw [ByteArray.toList_eq, ba_l, ByteArray.data_append]
  simp [ba]
theorem ba_len (a : T.Str) : (ba a).size = a.length := by unfold ba; rfl

/-- what heads answers -/
def HeadsR (w : World) (l : List (T.Str × Bool)) (e : Ending) (w' : World) : Prop := ∃ v, e = .returned v ∧ OwnH w' w.heap.size v l ∧ Below w.heap.size w w'
/-- below one branch -/
def hdB (t : T.Tr) (n : Nat) (way : T.Str) (b : T.TB) : List (T.Str × Bool) := match b with
  | .on c m => T.hdT t n m (way ++ T.wayL c)
  | .en c r w => [(way ++ T.wayL c ++ r, w)]
theorem hdT_succ (t : T.Tr) (n j : Nat) (way : T.Str) (hj : j < t.length) : T.hdT t (n + 1) j way = t[j].flatMap (hdB t n way) := by
  have : t.getD j [] = t[j] := by rw [List.getD_eq_getElem?_getD, List.getElem?_eq_getElem hj]; rfl
  show (t.getD j []).flatMap _ = _
  rw [this]
  rfl
theorem heap_new2 (w : World) (o o2 : Obj) : ((w.alloc o).alloc o2).heap[w.heap.size + 1]? = some o2 := by
  have h := heap_alloc_new (w.alloc o) o2
  rw [World.size_alloc] at h
  exact h
theorem cell_new2 (w : World) (o : Obj) (v : Value) (t : TypeId) : ((w.alloc o).alloc (.cells #[v] t)).cell? ⟨w.heap.size + 1, 0, none⟩ = some v := by
  rw [cell_of_row _ _ _ _ _ _ (heap_new2 w o _)]; rfl
/-- a row of two cells that was just laid -/
theorem news_two {w : World} {b : Nat} {x y : Value} {t : TypeId} (h : w.heap[b]? = some (.cells #[x, y] t (0, 0))) : ∀ (j : Nat) (u : Value), [x, y][j]? = some u → ∃ b' off, some (⟨b, 0, none⟩ : Addr) = some ⟨b', off, none⟩ ∧ w.cell? ⟨b', off + j, none⟩ = some u := by
  intro j u hj
  refine ⟨b, 0, rfl, ?_⟩
  rw [Nat.zero_add, cell_of_row _ _ _ _ _ _ h]
  match j, hj with
  | 0, hj => simpa using hj
  | 1, hj => simpa using hj
theorem OwnH.news {w : World} {base : Nat} {A : Option Addr} {n c : Nat} {l : List (T.Str × Bool)} (h : OwnH w base (.slice A n c) l) : n = l.length ∧ ∀ (j : Nat) (u : Value), (cellsH l)[j]? = some u → ∃ b off, A = some ⟨b, off, none⟩ ∧ w.cell? ⟨b, off + j, none⟩ = some u := by
  obtain ⟨A', c', hv, -, -⟩ := Row.parts_ h
  injection hv with h1 h2 h3
  refine ⟨h2, fun j u hj => ?_⟩
  obtain ⟨g, c2, hv2, _, _, hcell⟩ := Row.cell_ h hj (by rw [cellsH_len]; exact Nat.le_refl _)
  injection hv2 with h4 _ _
  exact ⟨g, 0, h4, by rw [Nat.zero_add]; exact hcell⟩
theorem Below.row {E : TypeId} {sz B : Nat} {a w w' : World} {v v' : Value} {n : Nat} {cs : List Value} {base : Nat} (h : Below B a w) (ho : Row E sz w base v n cs) (hB : B ≤ base) (hg : Grew w w' v v') (hs : B ≤ w.heap.size) : Below B a w' :=
  h.grown hg.grown hs fun k hk => by
    have := (Row.lt_ ho hk).1
    omega
theorem wayL_len (c : UInt8) : (T.wayL c).length ≤ 1 := by unfold T.wayL; split <;> simp
theorem flat_take {α β : Type} (l : List α) (f : α → List β) (k : Nat) (hk : k < l.length) : (l.take (k + 1)).flatMap f = (l.take k).flatMap f ++ f l[k] := by
  rw [List.take_add_one, List.getElem?_eq_getElem hk, List.flatMap_append]; simp
theorem flat_le {α β : Type} (l : List α) (f : α → List β) (k : Nat) (hk : k < l.length) : ((l.take k).flatMap f).length + (f l[k]).length ≤ (l.flatMap f).length := by
  rw [← List.length_append, ← flat_take l f k hk]
  conv => rhs; rw [← List.take_append_drop (k + 1) l]
  rw [List.flatMap_append, List.length_append]
  omega

set_option maxHeartbeats 4000000 in
set_option maxRecDepth 8000 in
theorem headsI (t : T.Tr) (ha : T.Ahead t) (hrest : ∀ l ∈ t, l.length ≤ 1000 ∧ ∀ c r b, T.TB.en c r b ∈ l → r.length ≤ 1000000000000) (A : Option Addr) (N c : Nat) (hN : N ≤ 1000) : ∀ (n j : Nat) (way : T.Str) (w : World) (B : Nat), t.length - j ≤ n → j < t.length → Trs w (fun k => B ≤ k) A N t → B ≤ w.heap.size →
    (T.hdT t n j way).length ≤ 1000 → way.length + n ≤ 2000 → Calls Tryz.prog 155 #[.slice A N c, .int .i64 j, .string (ba way)] w (HeadsR w (T.hdT t n j way)) := by
  intro n
  induction n with
  | zero => intro j way w B h1 h2; omega
  | succ n ih =>
    intro j way w B hjn hj hr hB hlen hway
    have hNt := hr.len
    subst hNt
    obtain ⟨b, off, hA, hb, hbX, Ai, ci, hcell, hci, hcm, hbr⟩ := hr.cell j hj
    subst hA
    have HR := Lib.hid hr
    have HBR := Lib.hid hbr
    have HMEM := Lib.hid (show t[j] ∈ t from List.getElem_mem hj)
    have HAH := Lib.hid (show ∀ c m, T.TB.on c m ∈ t[j] → j < m ∧ m < t.length from fun c m h => ha j c m (by rw [List.getD_eq_getElem?_getD, List.getElem?_eq_getElem hj]; exact h))
    have HRS := Lib.hid (hrest t[j] HMEM.out)
    rw [hdT_succ t n j way hj] at hlen ⊢
    obtain ⟨l, hl2⟩ : ∃ l, l = t[j] := ⟨_, rfl⟩
    rw [← hl2] at hcell hci HBR HAH HRS hlen ⊢
    clear hl2 hbr hr
    have hll := HRS.out.1
    have HLEN := Lib.hid hlen
    clear hlen
    have hx0 : (0 : Int) ≤ (j : Int) := by omega
    have hx1 : (j : Int) < (t.length : Int) := by omega
    have hwl := ba_len way
    have as1 := as_on
    have as2 := as_en
    have as3 := as_no
    go_enter Tryz.func155, Tryz.ntmps155
    go_wp2
    go_loopw [7, 18] (fun hv i wr => ∃ k : Nat, k ≤ l.length ∧ i = .int .i64 k ∧ OwnH wr w.heap.size hv ((l.take k).flatMap (hdB t n way)) ∧ Below w.heap.size w wr) (fun _ i _ => l.length - (intOf i).toNat)
    case atStart => exact ⟨0, Nat.zero_le _, rfl, World.ownsRow_nil w _ _ _, Below.refl _ _⟩
    case round =>
      obtain ⟨k, hk, rfl, hown, hbl⟩ := hrel
      have HB := Lib.hid hbl
      have HO := Lib.hid hown
      have hsz := hbl.size
      clear hbl hown
      by_cases hlt : k < l.length
      · obtain ⟨b2, off2, hA2, hb2, -, hc2⟩ := HBR.out.cell k hlt
        subst hA2
        have hc3 : wr.cell? ⟨b2, off2 + k, none⟩ = some (brV l[k]) := by rw [HB.out.cell (p := ⟨b2, off2 + k, none⟩) hb2]; exact hc2
        have hy0 : (0 : Int) ≤ (k : Int) := by omega
        have hy1 : (k : Int) < (l.length : Int) := by omega
        have HFL := Lib.hid (flat_le l (hdB t n way) k hlt)
        have HFT := Lib.hid (flat_take l (hdB t n way) k hlt)
        have hmem : l[k] ∈ l := List.getElem_mem hlt
        cases hbk : l[k] with
        | on cc m =>
          rw [hbk] at hc3 HFL HFT hmem
          have hc4 : wr.cell? ⟨b2, off2 + k, none⟩ = some (.iface 169 (.agg #[.int .u8 cc.toNat, .int .i64 m])) := hc3
          obtain ⟨hjm, hmt⟩ := HAH.out cc m hmem
          have hwc := wayL_len cc
          have HW := Lib.hid (fun W => wayI cc W)
          clear hc3 hc2 hbk hmem
          have HIH := Lib.hid (show ∀ W, Below w.heap.size w W → Calls Tryz.prog 155 #[.slice (some ⟨b, off, none⟩) t.length c, .int .i64 m, .string (ba way ++ ba (T.wayL cc))] W (HeadsR W (T.hdT t n m (way ++ T.wayL cc))) from fun W hW => by
            rw [ba_app]
            refine ih m (way ++ T.wayL cc) W B (by omega) hmt (HR.out.below (hW.mono hB)) (Nat.le_trans hB hW.size) ?_ (by rw [List.length_append]; omega)
            have h1 := HFL.out
            have h2 := HLEN.out
            have h3 : hdB t n way (.on cc m) = T.hdT t n m (way ++ T.wayL cc) := rfl
            rw [h3] at h1
            omega)
          have hcat : (ba way).size + (ba (T.wayL cc)).size ≤ 4000 := by rw [ba_len, ba_len]; omega
          go_wp2_with (first
            | (go_at_call 187; refine (HW.out _).mono ?_; rintro e w1 ⟨rfl, hb1⟩; have HB1 := Lib.hid (((Below.refl wr.heap.size wr).alloc (Nat.le_refl _) _).trans (hb1.mono (by simp))); have hsz1 := HB1.out.size; clear hb1)
            | (go_at_call 155; refine (HIH.out _ (by exact (HB.out.trans (HB1.out.mono hsz)).alloc (by omega) _)).mono ?_; rintro e w2 ⟨v2, rfl, ho2, hb2⟩; have HB2 := Lib.hid ((HB1.out.alloc hsz1 _).trans (hb2.mono (by simp; omega))); have HO2 := Lib.hid ho2; have hsz2 := HB2.out.size; clear ho2 hb2; obtain ⟨A2, c2, hv2, -, -⟩ := Row.parts_ HO2.out; subst hv2; have HN2 := Lib.hid (OwnH.news HO2.out); have HOr := Lib.hid (Row.agree HO.out (Agree.of_below HB2.out (fun _ => False)) (fun _ _ h => h)))
            | (at_builtin; refine app_row rfl (.tmp 31) (.tmp 36) 162 177 2 _ _ rfl Tryz.underlying162 head_info rfl (by decide) _ w.heap.size _ _ _ rfl HOr.out _ _ _ (cellsH (T.hdT t n m (way ++ T.wayL cc))) rfl (by rw [cellsH_len]) HN2.out.2 (cellsH_one _) (by have h1 := HFL.out; have h2 := HLEN.out; have h3 : hdB t n way (.on cc m) = T.hdT t n m (way ++ T.wayL cc) := rfl; rw [h3] at h1; omega) (by decide) (by omega) ?_; intro v' w3 hrow hg; have HO3 := Lib.hid hrow; have HB3 := Lib.hid (Below.row (HB.out.trans (HB2.out.mono hsz)) HOr.out (Nat.le_refl _) hg (by omega)); clear hrow hg)
            | go_in)
          go_wp2
          go_roundw
          case rel =>
            refine ⟨k + 1, by omega, by go_num, ?_, HB3.out⟩
            have h := HO3.out
            unfold OwnH
            rw [HFT.out, List.length_append, cellsH_append]
            exact h
          case measure => simp [intOf]; omega
        | en cc r ww =>
          rw [hbk] at hc3 HFL HFT hmem
          have hc4 : wr.cell? ⟨b2, off2 + k, none⟩ = some (.iface 171 (.agg #[.int .u8 cc.toNat, .string (ba r), .bool ww])) := hc3
          have hrl := HRS.out.2 cc r ww hmem
          have hwc := wayL_len cc
          have HW := Lib.hid (fun W => wayI cc W)
          clear hc3 hc2 hbk hmem
          have hcat : (ba way).size + (ba (T.wayL cc)).size ≤ 4000 := by rw [ba_len, ba_len]; omega
          have hcat2 : (ba way).size + (ba (T.wayL cc)).size + (ba r).size ≤ 2000000000000 := by rw [ba_len, ba_len, ba_len]; omega
          go_wp2_with (first
            | (go_at_call 187; refine (HW.out _).mono ?_; rintro e w1 ⟨rfl, hb1⟩; have HB1 := Lib.hid (((Below.refl wr.heap.size wr).alloc (Nat.le_refl _) _).trans (hb1.mono (by simp))); have hsz1 := HB1.out.size; clear hb1; have HOr := Lib.hid (Row.agree HO.out (Agree.of_below HB1.out (fun _ => False)) (fun _ _ h => h)))
            | (at_builtin; refine app_row rfl (.tmp 41) (.tmp 49) 162 177 2 _ _ rfl Tryz.underlying162 head_info rfl (by decide) _ w.heap.size _ _ _ rfl (Row.agree HOr.out (((Agree.refl _ (fun _ => False)).alloc _).alloc _) (fun _ _ h => h)) _ _ _ [.string (ba way ++ ba (T.wayL cc) ++ ba r), .bool ww] rfl rfl (news_two (heap_new2 _ _ _)) (fun u hu => by simp at hu; rcases hu with rfl | rfl <;> rfl) (by have h1 := HFL.out; have h2 := HLEN.out; have h3 : (hdB t n way (.en cc r ww)).length = 1 := rfl; omega) (by decide) (by simp; omega) ?_; intro v' w3 hrow hg; have HO3 := Lib.hid hrow; have HB3 := Lib.hid (Below.row (((HB.out.trans (HB1.out.mono hsz)).alloc (by omega) _).alloc (by simp; omega) _) (Row.agree HOr.out (((Agree.refl _ (fun _ => False)).alloc _).alloc _) (fun _ _ h => h)) (Nat.le_refl _) hg (by simp; omega)); clear hrow hg)
            | go_in)
          go_wp2
          go_roundw
          case rel =>
            refine ⟨k + 1, by omega, by go_num, ?_, HB3.out⟩
            have h := HO3.out
            unfold OwnH
            rw [HFT.out, List.length_append, cellsH_append]
            rw [ba_app, ba_app] at h
            exact h
          case measure => simp [intOf]; omega
      · have hke : k = l.length := by omega
        subst hke
        go_wp2
        go_ret
        exact ⟨_, rfl, by have h := HO.out; rw [List.take_length] at h; exact h, HB.out⟩

/-- a slice of heads can be read -/
structure Hds (w : World) (B : Nat) (A : Option Addr) (n : Nat) (l : List (T.Str × Bool)) : Prop where
  len : l.length = n
  cell : ∀ i (h : i < l.length), ∃ b off : Nat, A = some ⟨b, off, none⟩ ∧ b < B ∧ w.cell? ⟨b, off + 2 * i, none⟩ = some (.string (ba l[i].1)) ∧ w.cell? ⟨b, off + 2 * i + 1, none⟩ = some (.bool l[i].2)
theorem Hds.below {w w' : World} {B B' : Nat} {A : Option Addr} {n : Nat} {l : List (T.Str × Bool)} (h : Hds w B A n l) (hb : Below B' w w') (hB : B ≤ B') : Hds w' B A n l :=
  ⟨h.len, fun i hi => by
    obtain ⟨b, off, hA, hbB, h1, h2⟩ := h.cell i hi
    refine ⟨b, off, hA, hbB, ?_, ?_⟩
    · rw [hb.cell (p := ⟨b, off + 2 * i, none⟩) (Nat.lt_of_lt_of_le hbB hB)]; exact h1
    · rw [hb.cell (p := ⟨b, off + 2 * i + 1, none⟩) (Nat.lt_of_lt_of_le hbB hB)]; exact h2⟩
theorem OwnH.hds {w : World} {base : Nat} {A : Option Addr} {n c : Nat} {l : List (T.Str × Bool)} (h : OwnH w base (.slice A n c) l) : Hds w w.heap.size A n l := by
  obtain ⟨h1, h2⟩ := OwnH.news h
  refine ⟨h1.symm, fun i hi => ?_⟩
  obtain ⟨g1, g2⟩ := cellsH_get l i hi
  obtain ⟨b, off, hA, hc⟩ := h2 _ _ g1
  obtain ⟨b', off', hA', hc'⟩ := h2 _ _ g2
  rw [hA] at hA'
  injection hA' with e
  injection e with e1 e2 _
  subst e1 e2
  refine ⟨b, off, hA, block_lt_of_cell hc, hc, ?_⟩
  rw [Nat.add_assoc]; exact hc'

set_option maxHeartbeats 1000000 in
theorem textsI (w : World) (B n c : Nat) (A : Option Addr) (l : List (T.Str × Bool)) (hr : Hds w B A n l) (hB : B ≤ w.heap.size) (hn : n ≤ 1000) :
    Calls Tryz.prog 154 #[.slice A n c] w (New w (l.map fun h => ba h.1)) := by
  have hlen := hr.len
  subst hlen
  have HR := Lib.hid hr
  clear hr
  go_enter Tryz.func154, Tryz.ntmps154
  go_wp2
  go_loopw [3, 8] (fun tv i wr => ∃ k : Nat, k ≤ l.length ∧ i = .int .i64 k ∧ Own wr w.heap.size tv ((l.take k).map fun h => ba h.1) ∧ Below w.heap.size w wr) (fun _ i _ => l.length - (intOf i).toNat)
  case atStart => exact ⟨0, Nat.zero_le _, rfl, Own.none_ _ _, Below.refl _ _⟩
  case round =>
    obtain ⟨k, hk, rfl, hown, hbl⟩ := hrel
    have HB := Lib.hid hbl
    have HO := Lib.hid hown
    have hsz := hbl.size
    clear hbl hown
    by_cases hlt : k < l.length
    · obtain ⟨b, off, hA, hbB, hc1, hc2⟩ := (HR.out.below HB.out hB).cell k hlt
      subst hA
      rw [Nat.mul_comm 2 k] at hc1 hc2
      have hx0 : (0 : Int) ≤ (k : Int) := by omega
      have hx1 : (k : Int) < (l.length : Int) := by omega
      have HTL := Lib.hid (show ((l.take k).map fun h => ba h.1).length = k by rw [List.length_map, List.length_take]; omega)
      go_wp2_with (at_builtin; refine app_str rfl (.tmp 12) (.tmp 15) rfl _ w.heap.size _ _ rfl ((HO.out.alloc _).alloc _) _ _ (ba l[k].1) rfl (cell_new2 _ _ _ _) (by rw [HTL.out]; omega) (by simp; omega) ?_; intro g cap w1 ho1 hg1; have HO1 := Lib.hid ho1; have HB1 := Lib.hid (Below.app ((HB.out.alloc hsz _).alloc (by simp; omega) _) ((HO.out.alloc _).alloc _) (Nat.le_refl _) hg1 (by simp; omega)); clear ho1 hg1)
      go_wp2
      go_roundw
      case rel =>
        refine ⟨k + 1, by omega, by go_num, ?_, HB1.out⟩
        have h := HO1.out
        rw [HTL.out] at h
        rw [List.take_add_one, List.getElem?_eq_getElem hlt, List.map_append]
        exact h
      case measure => simp [intOf]; omega
    · have hke : k = l.length := by omega
      subst hke
      go_wp2
      go_ret
      exact ⟨_, rfl, by have h := HO.out; rw [List.take_length] at h; exact h, HB.out⟩

end Go.Proofs.YtfhpkcamigkmdaaGreatDoor.W

namespace Go.Proofs.YtfhpkcamigkmdaaGreatDoor.W
open Go.RowKit K

theorem hasT_step (t : T.Tr) (k : T.Str) (n d j : Nat) (hj : j < t.length) : T.hasT t k (n + 1) d j = match t[j].find? fun b => b.lab == T.letter k d with
    | none => false
    | some (.on _ m) => T.hasT t k n (d + 1) m
    | some (.en _ r w) => T.takesB w r (k.drop (d + 1)) := by
  have : t.getD j [] = t[j] := by rw [List.getD_eq_getElem?_getD, List.getElem?_eq_getElem hj]; rfl
  rw [← this]
  rfl

set_option maxHeartbeats 1000000 in
set_option maxRecDepth 8000 in
theorem hasI (t : T.Tr) (ha : T.Ahead t) (hrest : ∀ l ∈ t, l.length ≤ 1000) (h0 : 0 < t.length) (A : Option Addr) (N c : Nat) (hN : N ≤ 1000) (k : ByteArray) (hk : k.size ≤ 1000) (w : World) (B : Nat) (hr : Trs w (fun k => B ≤ k) A N t) (hB : B ≤ w.heap.size) :
    Calls Tryz.prog 118 #[.slice A N c, .string k] w fun e w' => e = .returned (.bool (T.hasT t k.toList (k.size + 1) 0 0)) ∧ Below w.heap.size w w' := by
  have hNt := hr.len
  subst hNt
  have HR := Lib.hid hr
  clear hr
  obtain ⟨R, hR⟩ : ∃ R, R = T.hasT t k.toList (k.size + 1) 0 0 := ⟨_, rfl⟩
  rw [← hR]
  have as1 := as_on
  have as2 := as_en
  have as3 := as_no
  have as4 := as_nil_on
  have as5 := as_nil_en
  have HR0 := Lib.hid hR
  clear hR
  go_enter Tryz.func118, Tryz.ntmps118
  go_wp2
  go_loopw [5, 13] (fun nv i wr => ∃ (m d : Nat), d ≤ k.size + 1 ∧ nv = .int .i64 m ∧ i = .int .i64 d ∧ m < t.length ∧ Hid (R = T.hasT t k.toList (k.size + 1 - d) d m) ∧ Below w.heap.size w wr) (fun _ i _ => k.size + 1 - (intOf i).toNat)
  case atStart => exact ⟨0, 0, Nat.zero_le _, rfl, rfl, h0, HR0, Below.refl _ _⟩
  case round =>
    obtain ⟨m, d, hd, rfl, rfl, hm, hRm, hbl⟩ := hrel
    have HB := Lib.hid hbl
    have hsz := hbl.size
    clear hbl
    by_cases hlt : d < k.size + 1
    · obtain ⟨n, hn⟩ : ∃ n, k.size + 1 - d = n + 1 := ⟨k.size - d, by omega⟩
      have HST := Lib.hid (show R = _ from by rw [hRm.out, hn, hasT_step t k.toList n d m hm])
      have HL := Lib.hid (labelI k d)
      have HFI := Lib.hid (show ∀ W, Below w.heap.size w W → Calls Tryz.prog 156 #[.slice A t.length c, .int .i64 m, .int .u8 (T.letter k.toList d).toNat] W fun e w' => e = .returned (optV (t[m].find? fun b => b.lab == T.letter k.toList d)) ∧ Below W.heap.size W w' from fun W hW =>
        findI W B t.length c m A t (T.letter k.toList d) (HR.out.below (hW.mono hB)) (by omega) hm (hrest _ (List.getElem_mem hm)))
      have hmem : ∀ b, (t[m].find? fun b => b.lab == T.letter k.toList d) = some b → b ∈ t[m] := fun b hb => List.mem_of_find?_eq_some hb
      generalize (t[m].find? fun b => b.lab == T.letter k.toList d) = o at HST HFI hmem
      have hdi : (d : Int) < (k.size : Int) + 1 := by omega
      go_wp2_with fail
      go_at_call 157
      refine (HL.out _).mono ?_
      rintro e w1 ⟨rfl, hw1⟩
      subst hw1
      go_wp2_with fail
      go_at_call 156
      refine (HFI.out _ HB.out).mono ?_
      rintro e w2 ⟨rfl, hb2⟩
      have HB2 := Lib.hid (HB.out.trans (hb2.mono hsz))
      have hsz2 := HB2.out.size
      clear hb2 HFI HL
      match o, HST, hmem with
      | none, HST, _ =>
        have hR2 := Lib.hid (show R = false from HST.out)
        simp only [optV]
        go_wp2
        go_ret
        exact ⟨ret_bool hR2.out.symm, HB2.out⟩
      | some (.on cc m2), HST, hmem =>
        have hR2 := Lib.hid (show R = T.hasT t k.toList n (d + 1) m2 from HST.out)
        have hm2 := ha m cc m2 (by rw [List.getD_eq_getElem?_getD, List.getElem?_eq_getElem hm]; exact hmem _ rfl)
        simp only [optV, brV]
        go_wp2
        go_roundw
        case rel => exact ⟨m2, d + 1, by omega, rfl, by go_num, hm2.2, Lib.hid (by rw [hR2.out, show k.size + 1 - (d + 1) = n by omega]), HB2.out.alloc hsz2 _⟩
        case measure => simp [intOf]; omega
      | some (.en cc r ww), HST, hmem =>
        have hR2 := Lib.hid (show R = T.takesB ww r (k.toList.drop (d + 1)) from HST.out)
        have HFR := Lib.hid (show ∀ W, Calls Tryz.prog 159 #[.string k, .int .i64 ((d : Int) + 1)] W fun e w' => e = .returned (.string (ba (k.toList.drop (d + 1)))) ∧ W = w' from fun W => by
          have h := fromI k (d + 1) W (by omega)
          rw [show ((d + 1 : Nat) : Int) = (d : Int) + 1 by omega] at h
          exact h)
        have HTK := Lib.hid (show ∀ W, Below w.heap.size w W → Calls Tryz.prog 158 #[.agg #[.int .u8 cc.toNat, .string (ba r), .bool ww], .string (ba (k.toList.drop (d + 1)))] W fun e w' => e = .returned (.bool R) ∧ Below w.heap.size w w' from fun W hW => by
          have h := takesI cc.toNat (ba r) (ba (k.toList.drop (d + 1))) ww W
          rw [ba_l, ba_l, ← hR2.out] at h
          exact h.mono fun e w' he => ⟨he.1, hW.trans (he.2.mono hW.size)⟩)
        have HBA := Lib.hid (fun o => HB2.out.alloc hsz2 o)
        have hwr := i64_fit d (by omega)
        simp only [optV, brV]
        go_wp2_with fail
        go_region_with (first | (go_at_call 159; refine (HFR.out _).mono ?_; rintro e w3 ⟨rfl, rfl⟩) | (go_at_call 158; refine (HTK.out _ (by with_reducible first | exact HBA.out _ | exact (HBA.out _).drew | exact below_drewN (HBA.out _) _)).mono ?_; rintro e w4 ⟨rfl, hb4⟩; have HB4 := Lib.hid hb4; clear hb4))
        all_goals
          go_wp2
          go_ret
          exact ⟨rfl, HB4.out⟩
    · have hke : d = k.size + 1 := by omega
      subst hke
      have hR2 := Lib.hid (show R = false by rw [hRm.out, Nat.sub_self]; rfl)
      go_wp2
      go_ret
      exact ⟨ret_bool hR2.out.symm, HB.out⟩

end Go.Proofs.YtfhpkcamigkmdaaGreatDoor.W
