/-
  Appending a slice of forks; the steps of the model's SieveOf: fork by fork.
  Contracts of the program's KeyOk, KeyBegins and KeysOk, at every string and every slice of strings that can be read.
  Memory of the program's tries: rows of any type that a call makes itself, appending one element, branches and nodes.
  Contracts of the program's small functions of filters: labels, letters, ends, bits, and the methods of branches and heads.
  Contracts of the program's newEnding, the methods of branches and heads, slices.Equal at strings, strings.Count at one byte.
  Contracts of slices.Equal at strings, and of the trie's find.
  Contracts of the library's searches as the program calls them (slices.BinarySearch, slices.BinarySearchFunc with strings.Compare, at strings), and of the program's KeyFirst.
-/
import Derived.Test.YtfhpkcamigkmdaaGreatDoorJ5
import Derived.Test.YtfhpkcamigkmdaaGreatDoorZAA
import Derived.Test.YtfhpkcamigkmdaaGreatDoorJ1
import Derived.Test.YtfhpkcamigkmdaaGreatDoorJ4
import Derived.Lib.Bytealg
import Derived.Laws.Externs
import Derived.Laws.Rows
namespace Go.Proofs.YtfhpkcamigkmdaaGreatDoor.W
open Go.RowKit K

theorem run_appF_none (w : World) (base : Nat) (v : Value) (es : List (Value × Nat)) (hown : OwnF w base v es) (A2 : Option Addr) (c2 : Nat) (ty : TypeId) :
    (Builtin.append_ #[156, 156] ty #[v, .slice A2 0 c2]).run Tryz.prog w = .ok v w := by
  obtain ⟨i0, hi, hz0, hz1, hz2⟩ := info_parts fork_info
  rcases hown.2 with ⟨rfl, _⟩ | ⟨g, cap, cur, rfl, _, _, hnc, _⟩
  · cases A2 <;> simp [Builtin.append_, run_underlying Tryz.underlying156, sizeOf, typeInfo, hi, Builtin.lenOf, Builtin.firstCells, loadCells, loadCellsFrom]
  · cases A2 <;> simp [Builtin.append_, run_underlying Tryz.underlying156, sizeOf, typeInfo, hi, Builtin.lenOf, Builtin.firstCells, hnc, storeCells, loadCells, loadCellsFrom]

/-- append of forks that can be read -/
theorem app_forks {ops : Array Oper} {rest : List Oper} {o : Oper} {a : Act} {Q : Exit → Act → World → Prop} (hgd : o.guard = none) (s x : Operand)
    (ho : o.op = .call { callee := .builtin .append, args := #[s, x], argTypes := #[156, 156] })
    (w : World) (base : Nat) (v : Value) (es : List (Value × Nat)) (hs : a.eval s = v) (hown : OwnF w base v es) (X : Nat → Prop) (m cc : Nat) (A2 : Option Addr) (es2 : List (Value × Nat))
    (hx : a.eval x = .slice A2 m cc) (hr : FS w X A2 m es2) (h1 : ∀ e ∈ es2, e.1.oneCell' = true) (hl : es.length + m ≤ 1000000) (hbase : base ≤ w.heap.size)
    (h : ∀ v' w', OwnF w' base v' (es ++ es2) → Grew w w' v v' → wpList Tryz.prog ops Q rest (a.put o.dst v') w') : wpList Tryz.prog ops Q (o :: rest) a w := by
  have hlen := hr.len
  refine wpList_step fun K hK => ?_
  rw [if_pos (by simp [Region.wanted, hgd])]
  by_cases hm : m = 0
  · subst hm
    have : es2 = [] := List.eq_nil_of_length_eq_zero hlen
    subst this
    have hrun := run_appF_none w base v es hown A2 cc o.type
    unfold Oper.wp execOp
    simp only [ho, resolve, invoke, builtin, Sem.run_bind, Sem.run_pure, Result.andThen_ok, List.map_toArray, List.map_cons, List.map_nil, hs, hx, hrun]
    exact hK _ _ (h v w (by rw [List.append_nil]; exact hown) (Grew.refl w _))
  · obtain ⟨b, off, hA, _⟩ := hr.cell 0 (by omega)
    subst hA
    obtain ⟨i0, hi, hz0, hz1, hz2⟩ := info_parts fork_info
    refine wp_append_lies w s x _ ho base _ i0 (.agg #[.slice none 0 0, .int .i64 0]) 2 32 Tryz.underlying156 hi hz0 hz1 hz2 rfl (by decide) v es.length (cellsF es) hs hown ⟨b, off, none⟩ m cc (cellsF es2) hx (by rw [cellsF_len, hlen]) ?_ ?_ (by omega) ?_ ?_ hbase _ rfl ?_
    · intro j u hj
      have hjl : j < es2.length * 2 := by
        rw [← cellsF_len]
        exact (List.getElem?_eq_some_iff.mp hj).1
      obtain ⟨i, hi2⟩ : ∃ i, j = 2 * i ∨ j = 2 * i + 1 := ⟨j / 2, by omega⟩
      have hil : i < es2.length := by omega
      obtain ⟨b', off', hA', _, _, hc1, hc2⟩ := hr.cell i hil
      simp only [Option.some.injEq, Addr.mk.injEq, and_true] at hA'
      obtain ⟨rfl, rfl⟩ := hA'
      have hadd : (⟨b, off, none⟩ : Addr).add j = ⟨b, off + j, none⟩ := by unfold Addr.add; split <;> simp_all
      rw [hadd]
      have hg := cellsF_get es2 i hil
      rcases hi2 with e | e
      · subst e
        rw [← Option.some.inj (hg.1.symm.trans hj)]; exact hc1
      · subst e
        rw [← Option.some.inj (hg.2.symm.trans hj), ← Nat.add_assoc]; exact hc2
    · intro u hu
      unfold cellsF at hu
      obtain ⟨e, he, hu⟩ := List.mem_flatMap.mp hu
      rcases List.mem_cons.mp hu with rfl | hu
      · exact h1 e he
      · rcases List.mem_cons.mp hu with rfl | hu
        · rfl
        · cases hu
    · unfold maxLen; omega
    · omega
    · intro g cap w' h2 h3 h4 _
      refine hK _ _ (h _ w' ?_ ⟨h3, fun j hj => ?_⟩)
      · unfold OwnF
        rw [List.length_append, cellsF_append, hlen]
        exact h2
      · have e : g = j := by simpa [Value.ownBlock] using hj
        subst e
        rcases h4 with h4 | h4
        · exact .inr h4
        · exact .inl (by omega)
theorem FS.drop1 {w : World} {X : Nat → Prop} {b off n : Nat} {e : Value × Nat} {es : List (Value × Nat)} (h : FS w X (some ⟨b, off, none⟩) (n + 1) (e :: es)) : FS w X (some ⟨b, off + 2, none⟩) n es :=
  ⟨by have := h.len; simpa using this, fun i hi => by
    obtain ⟨b', off', hA, hb, hx, h1, h2⟩ := h.cell (i + 1) (by simpa using hi)
    simp only [Option.some.injEq, Addr.mk.injEq, and_true] at hA
    obtain ⟨rfl, rfl⟩ := hA
    refine ⟨b, off + 2, rfl, hb, hx, ?_, ?_⟩
    · rw [show off + 2 + 2 * i = off + 2 * (i + 1) by omega]; exact h1
    · rw [show off + 2 + 2 * i + 1 = off + 2 * (i + 1) + 1 by omega]; exact h2⟩
theorem FS.nil (w : World) (X : Nat → Prop) (A : Option Addr) : FS w X A 0 [] := ⟨rfl, fun i h => absurd h (by simp)⟩
theorem Held.one {w : World} {X : Nat → Prop} {es : List (Value × Nat)} {q : List (List ByteArray × Nat)} (h : Held w X es q) : ∀ e ∈ es, e.1.oneCell' = true := by
  intro e he
  obtain ⟨i, hi, rfl⟩ := List.mem_iff_getElem.mp he
  obtain ⟨_, A, n, c, hv, _⟩ := h.2 i hi (by have := h.1; omega)
  rw [hv]; rfl

/-- strings are keys, as lists of letters -/
theorem keyL_of {l : List ByteArray} (h : keysB l = true) : T.KeyL (ls l) := by
  rw [keys_iff] at h
  refine T.keyL_mk (fun k hk => ?_) ?_
  · obtain ⟨s, hs, rfl⟩ := List.mem_map.mp hk
    have hkb := h.2.1 s hs
    unfold keyB at hkb
    simp only [Bool.and_eq_true, decide_eq_true_eq, List.all_eq_true] at hkb
    refine ⟨by rw [len_L]; exact hkb.1, fun c hc => ?_⟩
    rw [ByteArray.toList_eq] at hc
    have := hkb.2 c hc
    unfold letterB at this
    simp only [Bool.and_eq_true, decide_eq_true_eq] at this
    exact this
  · unfold T.ascS ls
    rw [List.pairwise_map]
    exact h.2.2.imp fun {a b} hab => lt_iff.mp hab

/-- what SieveOf answers of a key list -/
def OfR (w : World) (keys : List T.Str) (keep : Nat) (e : Ending) (w' : World) : Prop :=
  ∃ v, e = .returned (.tuple #[.agg #[.string (ba (T.sieve keep keys).letters), .string (ba (T.sieve keep keys).more), .string (ba (T.sieve keep keys).first), v, .int .i64 keep], .bool true]) ∧
    Own w' w.heap.size v ((T.sieve keep keys).rests.map ba) ∧ Below w.heap.size w w'
/-- blocks in which no slice lies that is read -/
def XO (w : World) (v : Value) : Nat → Prop := fun k => v.ownBlock = some k ∨ k = w.heap.size ∨ k = w.heap.size + 2
/-- at the loop's head: these forks are done, and these wait -/
structure OfP (w : World) (keys : List T.Str) (keep : Nat) (forks : Value) (wr : World) (N : List T.Fork) (q : List (List ByteArray × Nat)) (es : List (Value × Nat)) (L M F : ByteArray) (v : Value) (R : List ByteArray) (A : Option Addr) (c : Nat) : Prop where
  going : T.Going keys N (fk q)
  sv : svOf L M F R keep = T.enc keep N
  boxR : wr.heap[w.heap.size]? = some (.cells #[.string ⟨#[]⟩, .string ⟨#[]⟩, .string ⟨#[]⟩, .slice none 0 0, .int .i64 0] 92 (0, 0))
  boxS : wr.heap[w.heap.size + 2]? = some (.cells #[.string L, .string M, .string F, v, .int .i64 keep] 92 (0, 0))
  own : Own wr (w.heap.size + 1) v R
  fs : FS wr (XO w v) A es.length es
  val : forks = .slice A es.length c
  cap : es.length ≤ c ∧ c ≤ maxLen
  held : Held wr (XO w v) es q
  row : ∀ j, v.ownBlock = some j → j ≠ w.heap.size ∧ j ≠ w.heap.size + 2
  below : Below w.heap.size w wr

theorem ba_nil : (⟨#[]⟩ : ByteArray).toList = [] := by rw [ByteArray.toList_eq]
/-- ahead of the loop -/
theorem of_start {w W : World} {l : List ByteArray} {keep n c : Nat} {A : Option Addr} (hK : T.KeyL (ls l)) (hr : Strs w w.heap.size A n l) (hnc : n ≤ c) (hc : c ≤ maxLen) (m g : Nat) (hg : g = w.heap.size + 3)
    (hW : W = ((((w.alloc (.cells #[.string ⟨#[]⟩, .string ⟨#[]⟩, .string ⟨#[]⟩, .slice none 0 0, .int .i64 0] 92)).drewN m).alloc (.cells #[] 9)).alloc (.cells #[.string ⟨#[]⟩, .string ⟨#[]⟩, .string ⟨#[]⟩, .slice (some ⟨w.heap.size + 1, 0, none⟩) 0 0, .int .i64 keep] 92)).alloc (.cells #[.slice A n c, .int .i64 0] 155)) :
    OfP w (ls l) keep (.slice (some ⟨g, 0, none⟩) 1 1) W [] [(l, 0)] [(.slice A n c, 0)] ⟨#[]⟩ ⟨#[]⟩ ⟨#[]⟩ (.slice (some ⟨w.heap.size + 1, 0, none⟩) 0 0) [] (some ⟨g, 0, none⟩) 1 := by
  subst hg
  obtain ⟨W1, hW1⟩ : ∃ W1, W1 = (w.alloc (.cells #[.string ⟨#[]⟩, .string ⟨#[]⟩, .string ⟨#[]⟩, .slice none 0 0, .int .i64 0] 92)).drewN m := ⟨_, rfl⟩
  have hs1 : W1.heap.size = w.heap.size + 1 := by rw [hW1]; show (w.alloc _).heap.size = _; simp
  have hb1 : W1.heap[w.heap.size]? = some (.cells #[.string ⟨#[]⟩, .string ⟨#[]⟩, .string ⟨#[]⟩, .slice none 0 0, .int .i64 0] 92 (0, 0)) := by rw [hW1]; exact heap_alloc_new w _
  have hbel1 : Below w.heap.size w W1 := by rw [hW1]; exact below_drewN ((Below.refl _ _).alloc (Nat.le_refl _) _) m
  rw [← hW1] at hW
  obtain ⟨W2, hW2⟩ : ∃ W2, W2 = W1.alloc (.cells #[] 9) := ⟨_, rfl⟩
  have hs2 : W2.heap.size = w.heap.size + 2 := by rw [hW2]; simp [hs1]
  have ho2 : Own W2 (w.heap.size + 1) (.slice (some ⟨w.heap.size + 1, 0, none⟩) 0 0) [] := by rw [hW2]; exact Own.emptyAt W1 _ _ hs1.symm (Nat.le_refl _)
  rw [← hW2] at hW
  obtain ⟨W3, hW3⟩ : ∃ W3, W3 = W2.alloc (.cells #[.string ⟨#[]⟩, .string ⟨#[]⟩, .string ⟨#[]⟩, .slice (some ⟨w.heap.size + 1, 0, none⟩) 0 0, .int .i64 keep] 92) := ⟨_, rfl⟩
  have hs3 : W3.heap.size = w.heap.size + 3 := by rw [hW3]; simp [hs2]
  rw [← hW3] at hW
  have hA : Agree w W (fun _ => False) := by
    rw [hW, hW3, hW2]
    exact (((Agree.of_below hbel1 _).alloc _).alloc _).alloc _
  have hbel : Below w.heap.size w W := by
    rw [hW, hW3, hW2]
    exact ((hbel1.alloc (by omega) _).alloc (by simp; omega) _).alloc (by simp; omega) _
  have hblk : W.heap[w.heap.size + 3]? = some (.cells #[.slice A n c, .int .i64 0] 155 (0, 0)) := by rw [hW, ← hs3]; exact heap_alloc_new _ _
  have hsW : W.heap.size = w.heap.size + 4 := by rw [hW]; simp [hs3]
  have hXO : ∀ k, k < w.heap.size → ¬ XO w (.slice (some ⟨w.heap.size + 1, 0, none⟩) 0 0) k := fun k hk h => by
    rcases h with h | h | h
    · have : w.heap.size + 1 = k := by simpa [Value.ownBlock] using h
      omega
    · omega
    · omega
  refine ⟨T.going_zero hK, by unfold svOf; simp only [ba_nil]; rfl, ?_, ?_, ?_, ?_, rfl, ⟨Nat.le_refl _, by unfold maxLen; omega⟩, ?_, ?_, hbel⟩
  · rw [hW, Below.heap_alloc _ _ _ (by omega), hW3, Below.heap_alloc _ _ _ (by omega), hW2, Below.heap_alloc _ _ _ (by omega)]; exact hb1
  · rw [hW, Below.heap_alloc _ _ _ (by omega), hW3, ← hs2]; exact heap_alloc_new _ _
  · rw [hW, hW3]
    exact (ho2.alloc _).alloc _
  · refine ⟨rfl, fun i hi => ?_⟩
    have hi0 : i = 0 := by simpa using hi
    subst hi0
    refine ⟨w.heap.size + 3, 0, rfl, by omega, fun h => ?_, ?_, ?_⟩
    · rcases h with h | h | h
      · simp [Value.ownBlock] at h
      · omega
      · omega
    · rw [cell_of_row _ _ _ _ _ _ hblk]; rfl
    · rw [cell_of_row _ _ _ _ _ _ hblk]; rfl
  · refine ⟨rfl, fun i h1 h2 => ?_⟩
    have hi0 : i = 0 := by simpa using h1
    subst hi0
    refine ⟨rfl, A, n, c, rfl, ?_, hnc, hc⟩
    exact (Far.of_strs (X := XO w (.slice (some ⟨w.heap.size + 1, 0, none⟩) 0 0)) hr (Nat.le_refl _) hXO).step hA (fun _ _ h => h.elim) (fun k hk h => h)
  · intro j hj
    have : w.heap.size + 1 = j := by simpa [Value.ownBlock] using hj
    omega

/-- a fork is done -/
theorem of_step {w : World} {keys : List T.Str} {keep : Nat} {forks : Value} {wr : World} {N : List T.Fork} {x : List ByteArray × Nat} {q : List (List ByteArray × Nat)} {e : Value × Nat} {es : List (Value × Nat)} {L M F : ByteArray} {v : Value} {R : List ByteArray} {A : Option Addr} {c : Nat}
    (P : OfP w keys keep forks wr N (x :: q) (e :: es) L M F v R A c) {W7 : World} (h7 : Agree wr W7 (fun _ => False)) (o7 : W7.os = wr.os) (t7 : W7.tape = wr.tape) (p7 : W7.output = wr.output)
    {L' M' F' : ByteArray} {v' vn : Value} {R' : List ByteArray} {esn : List (Value × Nat)} {qn : List (List ByteArray × Nat)} {w8 : World} (hsv : svOf L' M' F' R' keep = (svOf L M F R keep).lay x.2 (T.brs x.2 (ls x.1))) (hown : Own w8 (w.heap.size + 1) v' R')
    (hheld : Held w8 (fun k => v'.ownBlock = some k ∨ vn.ownBlock = some k ∨ k < W7.heap.size) esn qn) (hfk : fk qn = T.leads x.2 (T.brs x.2 (ls x.1))) (hg8 : Grew W7 w8 v v')
    {w9 : World} (hw9 : w9 = ((((w8.setCell ⟨w.heap.size + 2, 0, none⟩ (.string L')).setCell ⟨w.heap.size + 2, 1, none⟩ (.string M')).setCell ⟨w.heap.size + 2, 2, none⟩ (.string F')).setCell ⟨w.heap.size + 2, 3, none⟩ v').setCell ⟨w.heap.size + 2, 4, none⟩ (.int .i64 keep))
    {o : Obj} {v0 v1 v2 : Value} {w11 w12 : World} (hv0 : ∀ k, v0.ownBlock = some k → w9.heap.size ≤ k) (hg11 : Grew (w9.alloc o) w11 v0 v1) (hof : OwnF w12 w9.heap.size v2 (es ++ esn)) (hg12 : Grew w11 w12 v1 v2) :
    ∃ A2 c2, v2 = .slice A2 (es ++ esn).length c2 ∧ OfP w keys keep v2 w12 (N ++ [⟨ls x.1, x.2⟩]) (q ++ qn) (es ++ esn) L' M' F' v' R' A2 c2 ∧ T.loads (fk (q ++ qn)) < T.loads (fk (x :: q)) := by
  have hszR := (Array.getElem?_eq_some_iff.1 P.boxR).1
  have hszS := (Array.getElem?_eq_some_iff.1 P.boxS).1
  have hsz7 := h7.size
  have hsz8 := hg8.grown.size
  have hsz9 : w9.heap.size = w8.heap.size := by rw [hw9]; simp
  have hA89 : Agree w8 w9 (fun k => k = w.heap.size + 2) := by
    rw [hw9]
    have a0 : Agree w8 w8 (fun k => k = w.heap.size + 2) := Agree.refl _ _
    have a1 := Agree.setCell a0 (p := ⟨w.heap.size + 2, 0, none⟩) (show w.heap.size + 2 = w.heap.size + 2 from rfl) (.string L')
    have a2 := Agree.setCell a1 (p := ⟨w.heap.size + 2, 1, none⟩) (show w.heap.size + 2 = w.heap.size + 2 from rfl) (.string M')
    have a3 := Agree.setCell a2 (p := ⟨w.heap.size + 2, 2, none⟩) (show w.heap.size + 2 = w.heap.size + 2 from rfl) (.string F')
    have a4 := Agree.setCell a3 (p := ⟨w.heap.size + 2, 3, none⟩) (show w.heap.size + 2 = w.heap.size + 2 from rfl) v'
    exact Agree.setCell a4 (p := ⟨w.heap.size + 2, 4, none⟩) (show w.heap.size + 2 = w.heap.size + 2 from rfl) (.int .i64 keep)
  -- what is appended to lies in new blocks
  have hA9 : Agree w9 w12 (fun _ => False) := by
    have hsa : (w9.alloc o).heap.size = w9.heap.size + 1 := by simp
    have hs11 := hg11.grown.size
    refine ⟨by have := hg12.grown.size; omega, fun k hk _ => ?_⟩
    have hn1 : ¬ v1.ownBlock = some k := fun e => by
      rcases hg11.row k e with h | h
      · omega
      · have := hv0 k h; omega
    rw [hg12.agree.block k (by omega) hn1, hg11.agree.block k (by omega) (fun e => by have := hv0 k e; omega), Below.heap_alloc _ _ _ hk]
  have hA812 : Agree w8 w12 (fun k => k = w.heap.size + 2) := hA89.trans (hA9.more fun _ _ h => h.elim)
  have hA : Agree wr w12 (fun k => v.ownBlock = some k ∨ k = w.heap.size + 2) :=
    ((h7.more fun _ _ h => h.elim).trans (hg8.agree.more fun _ _ h => .inl h)).trans (hA812.more fun _ _ h => .inr h)
  have hrow : ∀ j, v'.ownBlock = some j → j ≠ w.heap.size ∧ j ≠ w.heap.size + 2 := fun j hj => by
    rcases hg8.row j hj with h | h
    · omega
    · exact P.row j h
  have hv8 : ∀ k, v'.ownBlock = some k → k < w8.heap.size := fun k hk => (hown.lt hk).2
  have hXX : ∀ k, k < wr.heap.size → XO w v' k → XO w v k := fun k hk h => by
    rcases h with h | h | h
    · rcases hg8.row k h with h1 | h1
      · omega
      · exact Or.inl h1
    · exact Or.inr (Or.inl h)
    · exact Or.inr (Or.inr h)
  have hYX : ∀ k, (v.ownBlock = some k ∨ k = w.heap.size + 2) → XO w v k := fun k h => by
    rcases h with h | h
    · exact Or.inl h
    · exact Or.inr (Or.inr h)
  obtain ⟨A2, c2, hv2, hc2, hm2⟩ := hof.parts
  have hgo := T.going_next P.going
  have hkids : T.kids ⟨ls x.1, x.2⟩ = fk qn := hfk.symm
  have hq : fk (q ++ qn) = fk q ++ T.kids ⟨ls x.1, x.2⟩ := by rw [hkids]; unfold fk; rw [List.map_append]
  refine ⟨A2, c2, hv2, ⟨?_, ?_, ?_, ?_, ?_, ?_, hv2, ⟨hc2, hm2⟩, ?_, hrow, ?_⟩, ?_⟩
  · rw [hq]; exact hgo.1
  · rw [T.enc_snoc, ← P.sv]; exact hsv
  · rw [hA.block _ hszR (fun h => by
      rcases h with h | h
      · exact (P.row _ h).1 rfl
      · omega)]
    exact P.boxR
  · rw [hA9.block _ (by omega) (fun h => h), hw9]
    have h8 : w8.heap[w.heap.size + 2]? = some (.cells #[.string L, .string M, .string F, v, .int .i64 keep] 92 (0, 0)) := by
      rw [hg8.agree.block _ (by omega) (fun h => (P.row _ h).2 rfl), h7.block _ hszS (fun h => h)]; exact P.boxS
    exact box_five h8 _ _ _ _ _
  · exact hown.agree hA812 (fun k hk h => (hrow k hk).2 h)
  · refine FS.of_own hof hv2 (fun k hk h => ?_)
    have hk1 := (hof.lt hk).1
    rcases h with h | h | h
    · have := hv8 k h; omega
    · omega
    · omega
  · refine Held.append (P.held.tail.step fun A n l h => h.step hA (fun k _ h => hYX k h) hXX) (hheld.step fun A n l h => h.step hA812 (fun k _ hk => ?_) (fun k hk8 hk => ?_))
    · have hk' : k = w.heap.size + 2 := hk
      exact Or.inr (Or.inr (by omega))
    · rcases hk with h | h | h
      · exact Or.inl h
      · exact Or.inr (Or.inr (by omega))
      · exact Or.inr (Or.inr (by omega))
  · have hs11 := hg11.grown
    have hs12 := hg12.grown
    refine ⟨?_, ?_, ?_, Nat.le_trans P.below.size hA.size, fun k hk => ?_⟩
    · rw [hs12.os, hs11.os]; show w9.os = _; rw [hw9, os_set, os_set, os_set, os_set, os_set, hg8.grown.os, o7, P.below.os]
    · rw [hs12.tape, hs11.tape]; show w9.tape = _; rw [hw9, tape_set, tape_set, tape_set, tape_set, tape_set, hg8.grown.tape, t7, P.below.tape]
    · rw [hs12.output, hs11.output]; show w9.output = _; rw [hw9, out_set, out_set, out_set, out_set, out_set, hg8.grown.output, p7, P.below.output]
    · rw [hA.block k (by omega) (fun h => by
        rcases h with h | h
        · have := (P.own.lt h).1; omega
        · omega)]
      exact P.below.block k hk
  · rw [hq]; exact hgo.2

/-- the call of l3Put in SieveOf -/
theorem of_put {w : World} {l : List ByteArray} {kp : Nat} {forks : Value} {wr : World} {N : List T.Fork} {x : List ByteArray × Nat} {q : List (List ByteArray × Nat)} {e : Value × Nat} {es : List (Value × Nat)} {L M F : ByteArray} {v : Value} {R : List ByteArray} {A : Option Addr} {c : Nat}
    (P : OfP w (ls l) kp forks wr N (x :: q) (e :: es) L M F v R A c) (hK : T.KeyL (ls l)) (h24 : l.length ≤ 24) :
    x.2 ≤ 5 ∧ e.2 = x.2 ∧ x.1.length ≤ 24 ∧ L.size ≤ 144 ∧ M.size ≤ 144 ∧ F.size ≤ 144 ∧ R.length ≤ 144 ∧ es.length ≤ 1000 ∧ ∃ Ax nx cx, e.1 = .slice Ax nx cx ∧ nx ≤ cx ∧ cx ≤ maxLen ∧ nx ≤ 24 ∧
      ∀ W : World, Agree wr W (fun _ => False) → Far W (fun k => v.ownBlock = some k) Ax nx x.1 ∧ Own W (w.heap.size + 1) v R := by
  have h24' : (ls l).length ≤ 24 := by unfold ls; rw [List.length_map]; exact h24
  obtain ⟨h1, h2, h3, h4⟩ := T.going_len hK h24' kp P.going
  rw [← P.sv] at h1 h2 h3 h4
  have e1 : (svOf L M F R kp).letters.length = L.size := len_L L
  have e2 : (svOf L M F R kp).more.length = M.size := len_L M
  have e3 : (svOf L M F R kp).first.length = F.size := len_L F
  have e4 : (svOf L M F R kp).rests.length = R.length := by show (R.map _).length = _; rw [List.length_map]
  rw [e1] at h1; rw [e2] at h2; rw [e3] at h3; rw [e4] at h4
  have hok := P.going.ok ⟨ls x.1, x.2⟩ (by unfold fk; simp)
  have hsub := P.going.sub ⟨ls x.1, x.2⟩ (by unfold fk; simp)
  have hxl : x.1.length ≤ 24 := by
    have : (ls x.1).length ≤ (ls l).length := hsub
    unfold ls at this
    rw [List.length_map, List.length_map] at this
    omega
  obtain ⟨he2, Ax, nx, cx, he1, hfar, hc1, hc2⟩ := P.held.head
  have hnx := hfar.len
  have hlen : es.length ≤ 1000 := by
    have hh := P.held.1
    simp only [List.length_cons] at hh
    have hall := P.going.all
    -- each fork that waits has a place among all
    have hq : (fk (x :: q)).length ≤ (T.forks (ls l)).length := by
      rw [hall, List.length_append]
      have hne := T.nodes_eq (T.loads (fk (x :: q))) (fk (x :: q)) (Nat.le_refl _) P.going.ok
      have := congrArg List.length hne.1
      rw [List.length_append] at this
      omega
    have hf : (T.forks (ls l)).length ≤ 145 := by
      by_cases hnil : ls l = []
      · rw [hnil]
        have hl : T.loads [T.rootF []] = 1 := by simp [T.loads, T.rootF, T.load]
        have : T.forks [] = [T.rootF []] := by unfold T.forks; rw [hl]; rfl
        rw [this]; simp
      · obtain ⟨Tr, _⟩ := T.tree_of hK hnil
        have hz := T.going_len hK h24' kp (T.Going.mk (keys := ls l) (N := T.forks (ls l)) (q := []) (by rw [show T.nodes (T.loads []) [] = [] from rfl, List.append_nil]) (fun f hf => by cases hf) (fun f hf => by cases hf))
        have h3' : (T.firsts (T.forks (ls l))).length ≤ 144 := hz.2.2.1
        have ho := T.ones_firsts (T.forks (ls l)) Tr.some_
        have hle := Go.Proofs.YtfhpkcamigkmdaaGreatDoor.M.ones_le (T.firsts (T.forks (ls l)))
        omega
    unfold fk at hq
    rw [List.length_map, List.length_cons] at hq
    omega
  refine ⟨hok.2, he2, hxl, h1, h2, h3, h4, hlen, Ax, nx, cx, he1, hc1, hc2, by omega, fun W hW => ⟨hfar.step hW (fun _ _ h => h.elim) (fun k _ h => Or.inl h), P.own.agree hW (fun _ _ h => h)⟩⟩

/-- the two rows that are appended, where they are -/
theorem of_rows {w : World} {keys : List T.Str} {kp : Nat} {forks : Value} {wr : World} {N : List T.Fork} {x : List ByteArray × Nat} {q : List (List ByteArray × Nat)} {e : Value × Nat} {es : List (Value × Nat)} {L M F : ByteArray} {v : Value} {R : List ByteArray} {b off c : Nat}
    (P : OfP w keys kp forks wr N (x :: q) (e :: es) L M F v R (some ⟨b, off, none⟩) c) {W7 w8 w9 : World} (h7 : Agree wr W7 (fun _ => False)) {v' vn : Value} {esn : List (Value × Nat)} (hofn : OwnF w8 W7.heap.size vn esn) (hg8 : Grew W7 w8 v v')
    (hA89 : Agree w8 w9 (fun k => k = w.heap.size + 2)) (hsz9 : w9.heap.size = w8.heap.size) :
    OwnF (w9.alloc (.cells #[] 155)) w9.heap.size (.slice (some ⟨w8.heap.size, 0, none⟩) 0 0) [] ∧ FS (w9.alloc (.cells #[] 155)) (fun _ => False) (some ⟨b, off + 2, none⟩) es.length es ∧
    (∀ w11 v1, Grew (w9.alloc (.cells #[] 155)) w11 (.slice (some ⟨w8.heap.size, 0, none⟩) 0 0) v1 → ∀ An cn, vn = .slice An esn.length cn → FS w11 (fun _ => False) An esn.length esn) := by
  have hszS := (Array.getElem?_eq_some_iff.1 P.boxS).1
  have hsz7 := h7.size
  have hsz8 := hg8.grown.size
  refine ⟨OwnF.emptyAt _ _ _ hsz9.symm (by omega), ?_, ?_⟩
  · have hfs : FS wr (XO w v) (some ⟨b, off, none⟩) (es.length + 1) (e :: es) := P.fs
    have hA : Agree wr (w9.alloc (.cells #[] 155)) (fun k => v.ownBlock = some k ∨ k = w.heap.size + 2) :=
      (((h7.more fun _ _ h => h.elim).trans (hg8.agree.more fun _ _ h => .inl h)).trans (hA89.more fun _ _ h => .inr h)).alloc _
    refine hfs.drop1.step hA (fun k _ h => ?_) (fun k _ h => h.elim)
    rcases h with h | h
    · exact Or.inl h
    · exact Or.inr (Or.inr h)
  · intro w11 v1 hg11 An cn hvn
    have h8 : FS w8 (fun k => k < W7.heap.size) An esn.length esn := FS.of_own hofn hvn (fun k hk h => by have := (hofn.lt hk).1; omega)
    have h9 : FS (w9.alloc (.cells #[] 155)) (fun k => w9.heap.size ≤ k) An esn.length esn := by
      refine h8.step (hA89.alloc _) (fun k _ h => ?_) (fun k hk h => ?_)
      · have h' : k = w.heap.size + 2 := h
        show k < W7.heap.size
        omega
      · have h' : w9.heap.size ≤ k := h
        omega
    refine h9.step hg11.agree (fun k _ h => ?_) (fun k _ h => h.elim)
    have h' : w8.heap.size = k := by simpa [Value.ownBlock] using h
    show w9.heap.size ≤ k
    omega

/-- all forks are done -/
theorem of_end {w : World} {keys : List T.Str} {kp : Nat} {forks : Value} {wr : World} {N : List T.Fork} {L M F : ByteArray} {v : Value} {R : List ByteArray} {A : Option Addr} {c : Nat} (P : OfP w keys kp forks wr N [] [] L M F v R A c) (w5 : World) (x0 x1 x2 x3 x4 : Value)
    (h5 : w5 = ((((wr.setCell ⟨w.heap.size, 0, none⟩ x0).setCell ⟨w.heap.size, 1, none⟩ x1).setCell ⟨w.heap.size, 2, none⟩ x2).setCell ⟨w.heap.size, 3, none⟩ x3).setCell ⟨w.heap.size, 4, none⟩ x4) :
    OfR w keys kp (.returned (.tuple #[.agg #[.string L, .string M, .string F, v, .int .i64 kp], .bool true])) w5 := by
  have hA : Agree wr w5 (fun k => k = w.heap.size) := by
    rw [h5]
    have a0 : Agree wr wr (fun k => k = w.heap.size) := Agree.refl _ _
    have a1 := Agree.setCell a0 (p := ⟨w.heap.size, 0, none⟩) (show w.heap.size = w.heap.size from rfl) x0
    have a2 := Agree.setCell a1 (p := ⟨w.heap.size, 1, none⟩) (show w.heap.size = w.heap.size from rfl) x1
    have a3 := Agree.setCell a2 (p := ⟨w.heap.size, 2, none⟩) (show w.heap.size = w.heap.size from rfl) x2
    have a4 := Agree.setCell a3 (p := ⟨w.heap.size, 3, none⟩) (show w.heap.size = w.heap.size from rfl) x3
    exact Agree.setCell a4 (p := ⟨w.heap.size, 4, none⟩) (show w.heap.size = w.heap.size from rfl) x4
  have hN : T.forks keys = N := T.going_end P.going
  have hsv : svOf L M F R kp = T.sieve kp keys := by rw [P.sv, ← hN]; rfl
  have hl : ba (T.sieve kp keys).letters = L := by rw [← hsv]; exact ba_of L
  have hm : ba (T.sieve kp keys).more = M := by rw [← hsv]; exact ba_of M
  have hf : ba (T.sieve kp keys).first = F := by rw [← hsv]; exact ba_of F
  have hrr : (T.sieve kp keys).rests.map ba = R := by
    rw [← hsv]
    show (R.map (·.toList)).map ba = R
    rw [List.map_map]
    have : ∀ y ∈ R, (ba ∘ fun z : ByteArray => z.toList) y = id y := fun y _ => ba_of y
    rw [List.map_congr_left this, List.map_id]
  refine ⟨v, by rw [hl, hm, hf], ?_, ?_⟩
  · rw [hrr]
    exact (P.own.agree hA (fun k hk h => (P.row k hk).1 h)).base (by omega)
  · refine ⟨?_, ?_, ?_, Nat.le_trans P.below.size hA.size, fun k hk => ?_⟩
    · rw [h5, os_set, os_set, os_set, os_set, os_set]; exact P.below.os
    · rw [h5, tape_set, tape_set, tape_set, tape_set, tape_set]; exact P.below.tape
    · rw [h5, out_set, out_set, out_set, out_set, out_set]; exact P.below.output
    · have hszR := (Array.getElem?_eq_some_iff.1 P.boxR).1
      rw [hA.block k (by omega) (by omega)]
      exact P.below.block k hk

/-- behind the call of l3Put, and its result laid into the box -/
def OfC (w W7 : World) (v : Value) (L M F : ByteArray) (R : List ByteArray) (x : List ByteArray × Nat) (kp : Nat) (s8 : Value) (wx : World) : Prop :=
  ∃ L' M' F' v' R' esn qn w8, svOf L' M' F' R' kp = (svOf L M F R kp).lay x.2 (T.brs x.2 (ls x.1)) ∧ Own w8 (w.heap.size + 1) v' R' ∧ OwnF w8 W7.heap.size s8 esn ∧
    Held w8 (fun k => v'.ownBlock = some k ∨ s8.ownBlock = some k ∨ k < W7.heap.size) esn qn ∧ fk qn = T.leads x.2 (T.brs x.2 (ls x.1)) ∧ Grew W7 w8 v v' ∧
    wx = ((((w8.setCell ⟨w.heap.size + 2, 0, none⟩ (.string L')).setCell ⟨w.heap.size + 2, 1, none⟩ (.string M')).setCell ⟨w.heap.size + 2, 2, none⟩ (.string F')).setCell ⟨w.heap.size + 2, 3, none⟩ v').setCell ⟨w.heap.size + 2, 4, none⟩ (.int .i64 kp)
/-- the box behind the call -/
theorem of_box8 {w : World} {keys : List T.Str} {kp : Nat} {forks : Value} {wr : World} {N : List T.Fork} {q : List (List ByteArray × Nat)} {es : List (Value × Nat)} {L M F : ByteArray} {v : Value} {R : List ByteArray} {A : Option Addr} {c : Nat} (P : OfP w keys kp forks wr N q es L M F v R A c) {W7 w8 : World} {v' : Value} (h7 : Agree wr W7 (fun _ => False)) (hg8 : Grew W7 w8 v v') :
    w8.heap[w.heap.size + 2]? = some (.cells #[.string L, .string M, .string F, v, .int .i64 kp] 92 (0, 0)) := by
  have hszS := (Array.getElem?_eq_some_iff.1 P.boxS).1
  have hsz7 := h7.size
  rw [hg8.agree.block _ (by omega) (fun h => (P.row _ h).2 rfl), h7.block _ hszS (fun h => h)]; exact P.boxS
theorem agree7 (wr : World) (o : Obj) : Agree wr (wr.alloc o).drew (fun _ => False) := ⟨by show wr.heap.size ≤ (wr.alloc o).heap.size; simp, fun k hk _ => Below.heap_alloc _ _ _ hk⟩
/-- stores into the box -/
theorem agree89 (w8 : World) (g : Nat) (x0 x1 x2 x3 x4 : Value) : Agree w8 (((((w8.setCell ⟨g, 0, none⟩ x0).setCell ⟨g, 1, none⟩ x1).setCell ⟨g, 2, none⟩ x2).setCell ⟨g, 3, none⟩ x3).setCell ⟨g, 4, none⟩ x4) (fun k => k = g) := by
  have a0 : Agree w8 w8 (fun k => k = g) := Agree.refl _ _
  have a1 := Agree.setCell a0 (p := ⟨g, 0, none⟩) (show g = g from rfl) x0
  have a2 := Agree.setCell a1 (p := ⟨g, 1, none⟩) (show g = g from rfl) x1
  have a3 := Agree.setCell a2 (p := ⟨g, 2, none⟩) (show g = g from rfl) x2
  have a4 := Agree.setCell a3 (p := ⟨g, 3, none⟩) (show g = g from rfl) x3
  exact Agree.setCell a4 (p := ⟨g, 4, none⟩) (show g = g from rfl) x4

end Go.Proofs.YtfhpkcamigkmdaaGreatDoor.W
namespace Go.Proofs.YtfhpkcamigkmdaaGreatDoor.W
open Go.RowKit K

theorem letter_iff (c : UInt8) : letterB c = true ↔ 97 ≤ c.toNat ∧ c.toNat ≤ 100 := by
  unfold letterB; simp
theorem letter_not {c : UInt8} (h : letterB c = false) : c.toNat < 97 ∨ (97 ≤ c.toNat ∧ 100 < c.toNat) := by
  have : ¬ (97 ≤ c.toNat ∧ c.toNat ≤ 100) := by rw [← letter_iff, h]; simp
  omega
theorem long_key {s : ByteArray} (h : ¬ s.size ≤ 5) : keyB s = false := by
  unfold keyB; simp [h]

set_option maxHeartbeats 400000 in
theorem keyI (s : ByteArray) (w : World) (hs : s.size ≤ maxLen) :
    Calls Tryz.prog 70 #[.string s] w fun e w' => e = .returned (.bool (keyB s)) ∧ w = w' := by
  unfold maxLen at hs
  by_cases h5 : s.size ≤ 5
  · have h5i : ¬ ((s.size : Int) > 5) := by omega
    go_enter Tryz.func70, Tryz.ntmps70
    go_wp2
    go_loop [9] (fun i => ∃ k : Nat, k ≤ s.size ∧ i = .int .i64 k ∧ allLet (s.data.toList.take k)) (fun i => s.size - (intOf i).toNat)
    case atStart => exact ⟨0, Nat.zero_le _, rfl, by simp [allLet]⟩
    case round =>
      obtain ⟨k, hk, rfl, ha⟩ := hrel
      by_cases hlt : k < s.size
      · have hb8 := (s[k]).toNat_lt
        rcases Bool.eq_false_or_eq_true (letterB s[k]) with hl | hl
        · have HL := Lib.hid hl
          obtain ⟨h1, h2⟩ := (letter_iff _).mp hl
          clear hl
          go_wp2
          go_round
          case rel => exact ⟨k + 1, by omega, by go_num, allLet_snoc s k hlt ha HL.out⟩
          case measure => simp [intOf]; omega
        · have HL := Lib.hid hl
          rcases letter_not hl with h1 | ⟨h1, h2⟩
          · clear hl
            go_wp2
            go_ret
            exact ⟨ret_bool (not_key s k hlt HL.out).symm, rfl⟩
          · clear hl
            go_wp2
            go_ret
            exact ⟨ret_bool (not_key s k hlt HL.out).symm, rfl⟩
      · go_wp2
        go_ret
        exact ⟨ret_bool (by rw [key_end s k hlt ha]; simp [h5]), rfl⟩
  · have h5i : (s.size : Int) > 5 := by omega
    go_enter Tryz.func70, Tryz.ntmps70
    go_wp2
    go_ret
    exact ⟨ret_bool (long_key h5).symm, rfl⟩

set_option maxHeartbeats 400000 in
theorem begI (k h : ByteArray) (w : World) :
    Calls Tryz.prog 188 #[.string k, .string h] w fun e w' => e = .returned (.bool (begB k h)) ∧ w = w' := by
  by_cases hle : h.size ≤ k.size
  · have hle2 : (h.size : Int) ≤ (k.size : Int) := by omega
    go_enter Tryz.func188, Tryz.ntmps188
    go_wp2
    go_ret
    exact ⟨ret_bool (by simp [begB, hle]), rfl⟩
  · have hle2 : ¬ (h.size : Int) ≤ (k.size : Int) := by omega
    go_enter Tryz.func188, Tryz.ntmps188
    go_wp2
    go_ret
    exact ⟨ret_bool (by simp [begB, hle]), rfl⟩

set_option maxHeartbeats 1000000 in
theorem keysI (w : World) (B n c : Nat) (A : Option Addr) (l : List ByteArray) (hr : Strs w B A n l) (hn : n ≤ maxLen) (hf : Fit l) :
    Calls Tryz.prog 177 #[.slice A n c] w fun e w' => e = .returned (.bool (keysB l)) ∧ w = w' := by
  have hlen := hr.len
  subst hlen
  unfold maxLen at hn
  have HF := Lib.hid hf
  have HR := Lib.hid hr
  clear hf hr
  by_cases h24 : l.length ≤ 24
  · have h24i : ¬ ((l.length : Int) > 24) := by omega
    go_enter Tryz.func177, Tryz.ntmps177
    go_wp2
    go_loop [10] (fun i => ∃ k : Nat, k ≤ l.length ∧ i = .int .i64 k ∧ good l k) (fun i => l.length - (intOf i).toNat)
    case atStart => exact ⟨0, Nat.zero_le _, rfl, good_zero l⟩
    case round =>
      obtain ⟨k, hk, rfl, hg⟩ := hrel
      have HG := Lib.hid hg
      clear hg
      by_cases hlt : k < l.length
      · obtain ⟨b, off, hA, hb, hc⟩ := HR.out.cell k hlt
        subst hA
        have hsz := HF.out.get hlt
        rcases Bool.eq_false_or_eq_true (keyB l[k]) with hkb | hkb
        · have HK := Lib.hid hkb
          by_cases h0 : k = 0
          · subst h0
            rw [Nat.add_zero] at hc
            go_wp2_with (go_at_call 70; refine (keyI _ _ hsz).mono ?_; rintro e w' ⟨rfl, rfl⟩)
            go_round
            case rel => exact ⟨1, by omega, by go_num, good_one hlt HK.out⟩
            case measure => simp [intOf]; omega
          · obtain ⟨j, hj⟩ : ∃ j, k = j + 1 := ⟨k - 1, by omega⟩
            subst hj
            have hjl : j < l.length := by omega
            obtain ⟨b', off', hA', _, hcj⟩ := HR.out.cell j hjl
            simp only [Option.some.injEq, Addr.mk.injEq, and_true] at hA'
            obtain ⟨rfl, rfl⟩ := hA'
            rcases Bool.eq_false_or_eq_true (Op.bytesLess l[j].toList l[j + 1].toList) with he | he
            · have HE := Lib.hid he
              go_wp2_with (go_at_call 70; refine (keyI _ _ hsz).mono ?_; rintro e w' ⟨rfl, rfl⟩)
              go_round
              case rel => exact ⟨j + 2, by omega, by go_num, good_succ HG.out hlt HK.out HE.out⟩
              case measure => simp [intOf]; omega
            · have HE := Lib.hid he
              go_wp2_with (go_at_call 70; refine (keyI _ _ hsz).mono ?_; rintro e w' ⟨rfl, rfl⟩)
              go_ret
              exact ⟨ret_bool (bad_order hlt HE.out).symm, rfl⟩
        · have HK := Lib.hid hkb
          go_wp2_with (go_at_call 70; refine (keyI _ _ hsz).mono ?_; rintro e w' ⟨rfl, rfl⟩)
          go_ret
          exact ⟨ret_bool (bad_key hlt HK.out).symm, rfl⟩
      · have hke : k = l.length := by omega
        subst hke
        go_wp2
        go_ret
        exact ⟨ret_bool (by rw [good_end HG.out]; simp [h24]), rfl⟩
  · have h24i : (l.length : Int) > 24 := by omega
    go_enter Tryz.func177, Tryz.ntmps177
    go_wp2
    go_ret
    exact ⟨ret_bool (by unfold keysB; simp [h24]), rfl⟩

end Go.Proofs.YtfhpkcamigkmdaaGreatDoor.W

namespace Go.Proofs.YtfhpkcamigkmdaaGreatDoor.W
open Go.RowKit K

/-- the slice v holds n elements of so many cells, in a row of the call's own, from block 'base' on -/
abbrev Row (E : TypeId) (sz : Nat) (w : World) (base : Nat) (v : Value) (n : Nat) (cs : List Value) : Prop := w.ownsRow base E sz v n cs
theorem Row.agree {E : TypeId} {sz : Nat} {w w' : World} {base : Nat} {v : Value} {n : Nat} {cs : List Value} {X : Nat → Prop} (h : Row E sz w base v n cs) (ha : Agree w w' X) (hx : ∀ k, v.ownBlock = some k → ¬ X k) : Row E sz w' base v n cs := by
  refine ⟨h.1, ?_⟩
  rcases h.2 with hn | ⟨g, cap, cur, hv, hbg, hg, rest⟩
  · exact .inl hn
  · refine .inr ⟨g, cap, cur, hv, hbg, ?_, rest⟩
    rw [ha.block g (Array.getElem?_eq_some_iff.1 hg).1 (hx g (by rw [hv]; rfl))]
    exact hg
theorem Row.lt_ {E : TypeId} {sz : Nat} {w : World} {base : Nat} {v : Value} {n : Nat} {cs : List Value} (h : Row E sz w base v n cs) {k : Nat} (hk : v.ownBlock = some k) : base ≤ k ∧ k < w.heap.size := World.ownsRow.lt h k hk
theorem Row.base_ {E : TypeId} {sz : Nat} {w : World} {base base' : Nat} {v : Value} {n : Nat} {cs : List Value} (h : Row E sz w base v n cs) (hb : base' ≤ base) : Row E sz w base' v n cs := by
  refine ⟨h.1, ?_⟩
  rcases h.2 with hn | ⟨g, cap, cur, hv, hbg, rest⟩
  · exact .inl hn
  · exact .inr ⟨g, cap, cur, hv, by omega, rest⟩
theorem Row.parts_ {E : TypeId} {sz : Nat} {w : World} {base : Nat} {v : Value} {n : Nat} {cs : List Value} (h : Row E sz w base v n cs) : ∃ (A : Option Addr) (c : Nat), v = .slice A n c ∧ n ≤ c ∧ c ≤ maxLen := by
  rcases h.2 with ⟨rfl, h0⟩ | ⟨g, cap, cur, rfl, hb, hg, hc, hm, hs, ht⟩
  · rw [h0]; exact ⟨none, 0, rfl, Nat.le_refl _, by unfold maxLen; omega⟩
  · exact ⟨_, cap, rfl, hc, hm⟩
theorem Row.cell_ {E : TypeId} {sz : Nat} {w : World} {base : Nat} {v : Value} {n : Nat} {cs : List Value} (h : Row E sz w base v n cs) {i : Nat} {u : Value} (hi : cs[i]? = some u) (h0 : cs.length ≤ n * sz) :
    ∃ g c, v = .slice (some ⟨g, 0, none⟩) n c ∧ base ≤ g ∧ g < w.heap.size ∧ w.cell? ⟨g, i, none⟩ = some u := by
  have hil := (List.getElem?_eq_some_iff.mp hi).1
  rcases h.2 with ⟨hv, hn⟩ | ⟨g, cap, cur, rfl, hb, hg, hc, hm, hs, ht⟩
  · subst hn; omega
  · refine ⟨g, cap, rfl, hb, (Array.getElem?_eq_some_iff.1 hg).1, ?_⟩
    have := h.cells (g := g) rfl i u hi
    have hadd : (⟨g, 0, none⟩ : Addr).add i = ⟨g, 0 + i, none⟩ := by unfold Addr.add; split <;> simp_all
    rw [hadd, Nat.zero_add] at this
    exact this
theorem add_at (b off i : Nat) : (⟨b, off, none⟩ : Addr).add i = ⟨b, off + i, none⟩ := by unfold Addr.add; split <;> simp_all

/-- append of one element of one cell -/
theorem app_one {ops : Array Oper} {rest : List Oper} {o : Oper} {a : Act} {Q : Exit → Act → World → Prop} (hgd : o.guard = none) (s x : Operand) (T E : TypeId) (z : Value) (by_ : Nat)
    (ho : o.op = .call { callee := .builtin .append, args := #[s, x], argTypes := #[T, T] }) (hT : Tryz.prog.underlying T = some (.slice E)) (hE : (Tryz.prog.info? E).map (fun i => (i.zero, i.size, i.bytes)) = some (some z, 1, by_)) (hz : z.cells.size = 1)
    (w : World) (base : Nat) (v : Value) (n : Nat) (cs : List Value) (hs : a.eval s = v) (hown : Row E 1 w base v n cs) (b cc : Nat) (k : Value)
    (hx : a.eval x = .slice (some ⟨b, 0, none⟩) 1 cc) (hcell : w.cell? ⟨b, 0, none⟩ = some k) (hk : k.oneCell' = true) (hl : n ≤ 1000000) (hby : by_ ≤ 100) (hbase : base ≤ w.heap.size)
    (h : ∀ v' w', Row E 1 w' base v' (n + 1) (cs ++ [k]) → Grew w w' v v' →
      wpList Tryz.prog ops Q rest (a.put o.dst v') w') : wpList Tryz.prog ops Q (o :: rest) a w := by
  obtain ⟨i0, hi, hz0, hz1, hz2⟩ := info_parts hE
  refine wpList_append_lies w hgd s x _ ho base _ i0 z 1 by_ hT hi hz0 hz1 hz2 hz (by decide) v n cs hs hown ⟨b, 0, none⟩ 1 cc [k] hx rfl ?_ ?_ (by decide) ?_ ?_ hbase _ rfl ?_
  · intro j u hj
    match j, hj with
    | 0, hj => simp at hj; subst hj; simpa [Addr.add] using hcell
  · intro u hu; simp at hu; subst hu; exact hk
  · unfold maxLen; omega
  · have : (n + 1) * by_ ≤ (n + 1) * 100 := Nat.mul_le_mul_left _ hby
    omega
  · intro g cap w' h2 h3 h4 _
    refine h _ w' h2 ⟨h3, fun j hj => ?_⟩
    have hjg : j = g := by simpa [Value.ownBlock] using hj.symm
    subst hjg
    rcases h4 with h4 | h4
    · exact .inr h4
    · exact .inl (by omega)

/-- a branch as the program holds it -/
def brV : T.TB → Value
  | .on c n => .iface 169 (.agg #[.int .u8 c.toNat, .int .i64 n])
  | .en c r w => .iface 171 (.agg #[.int .u8 c.toNat, .string (ba r), .bool w])
/-- a slice of branches reads as l, in a block that is none of some -/
structure Brs (w : World) (X : Nat → Prop) (A : Option Addr) (n : Nat) (l : List T.TB) : Prop where
  len : l.length = n
  cell : ∀ i (h : i < l.length), ∃ b off : Nat, A = some ⟨b, off, none⟩ ∧ b < w.heap.size ∧ ¬ X b ∧ w.cell? ⟨b, off + i, none⟩ = some (brV l[i])
theorem Brs.step {w w' : World} {X X' Y : Nat → Prop} {A : Option Addr} {n : Nat} {l : List T.TB} (h : Brs w X A n l) (ha : Agree w w' Y) (hY : ∀ k, k < w.heap.size → Y k → X k) (hX : ∀ k, k < w.heap.size → X' k → X k) : Brs w' X' A n l :=
  ⟨h.len, fun i hi => by
    obtain ⟨b, off, hA, hb, hne, hc⟩ := h.cell i hi
    refine ⟨b, off, hA, Nat.lt_of_lt_of_le hb ha.size, fun e => hne (hX b hb e), ?_⟩
    rw [ha.cell (p := ⟨b, off + i, none⟩) hb (fun e => hne (hY b hb e))]; exact hc⟩
theorem Brs.of_row {w : World} {base : Nat} {X : Nat → Prop} {v : Value} {A : Option Addr} {n c : Nat} {l : List T.TB} (h : Row 165 1 w base v l.length (l.map brV)) (hv : v = .slice A n c) (hX : ∀ k, v.ownBlock = some k → ¬ X k) : Brs w X A n l := by
  obtain ⟨A', c', hv', -, -⟩ := h.parts_
  have hn : l.length = n := by rw [hv] at hv'; injection hv' with _ h2 _; exact h2.symm
  refine ⟨hn, fun i hi => ?_⟩
  obtain ⟨g, c2, hv2, _, hg2, hcell⟩ := h.cell_ (i := i) (u := brV l[i]) (by rw [List.getElem?_map, List.getElem?_eq_getElem hi]; rfl) (by simp)
  rw [hv] at hv2
  injection hv2 with h1 h2 h3
  refine ⟨g, 0, h1, hg2, hX g (by rw [hv, h1]; rfl), by rw [Nat.zero_add]; exact hcell⟩
/-- a trie reads as t: a slice of slices of branches, in blocks that are none of some -/
structure Trs (w : World) (X : Nat → Prop) (A : Option Addr) (n : Nat) (t : T.Tr) : Prop where
  len : t.length = n
  cell : ∀ i (h : i < t.length), ∃ b off : Nat, A = some ⟨b, off, none⟩ ∧ b < w.heap.size ∧ ¬ X b ∧ ∃ Ai ci, w.cell? ⟨b, off + i, none⟩ = some (.slice Ai t[i].length ci) ∧ t[i].length ≤ ci ∧ ci ≤ maxLen ∧ Brs w X Ai t[i].length t[i]
theorem Trs.step {w w' : World} {X X' Y : Nat → Prop} {A : Option Addr} {n : Nat} {t : T.Tr} (h : Trs w X A n t) (ha : Agree w w' Y) (hY : ∀ k, k < w.heap.size → Y k → X k) (hX : ∀ k, k < w.heap.size → X' k → X k) : Trs w' X' A n t :=
  ⟨h.len, fun i hi => by
    obtain ⟨b, off, hA, hb, hne, Ai, ci, hc, h1, h2, hbr⟩ := h.cell i hi
    refine ⟨b, off, hA, Nat.lt_of_lt_of_le hb ha.size, fun e => hne (hX b hb e), Ai, ci, ?_, h1, h2, hbr.step ha hY hX⟩
    rw [ha.cell (p := ⟨b, off + i, none⟩) hb (fun e => hne (hY b hb e))]; exact hc⟩
theorem Trs.below {w w' : World} {A : Option Addr} {n : Nat} {t : T.Tr} {B : Nat} (h : Trs w (fun k => B ≤ k) A n t) (hb : Below B w w') : Trs w' (fun k => B ≤ k) A n t :=
  h.step (Y := fun k => B ≤ k) ⟨hb.size, fun k _ hk => hb.block k (by omega)⟩ (fun _ _ h => h) (fun _ _ h => h)

end Go.Proofs.YtfhpkcamigkmdaaGreatDoor.W

namespace Go.Proofs.YtfhpkcamigkmdaaGreatDoor.W
open Go.RowKit K

theorem ret_str {a b : ByteArray} (h : a = b) : Ending.returned (.string a) = .returned (.string b) := by rw [h]

theorem keepI (n : Int) (w : World) : Calls Tryz.prog 178 #[.int .i64 n] w fun e w' => e = .returned (.bool (inB n 0 5)) ∧ w = w' := by
  go_enter Tryz.func178, Tryz.ntmps178
  go_wp2
  · go_ret
    exact ⟨ret_bool (by simp [inB, *]), rfl⟩
  · go_ret
    exact ⟨ret_bool (by simp [inB, *]; omega), rfl⟩

theorem letI_in (k : ByteArray) (d : Nat) (h : d < k.size) : T.letter k.toList d = k[d] := by
  unfold T.letter
  rw [ByteArray.toList_eq, at_k k d h]; rfl
theorem letI_out (k : ByteArray) (d : Nat) (h : k.size ≤ d) : T.letter k.toList d = 45 := by
  unfold T.letter
  rw [List.getElem?_eq_none (by rw [ByteArray.toList_eq]; simpa using h)]; rfl

theorem labelI (k : ByteArray) (d : Nat) (w : World) :
    Calls Tryz.prog 157 #[.string k, .int .i64 d] w fun e w' => e = .returned (.int .u8 (T.letter k.toList d).toNat) ∧ w = w' := by
  by_cases hle : k.size ≤ d
  · have hle2 : (d : Int) ≥ (k.size : Int) := by omega
    go_enter Tryz.func157, Tryz.ntmps157
    go_wp2
    go_ret
    exact ⟨by rw [letI_out k d hle]; rfl, rfl⟩
  · have hle2 : ¬ (d : Int) ≥ (k.size : Int) := by omega
    go_enter Tryz.func157, Tryz.ntmps157
    go_wp2
    go_ret
    exact ⟨by rw [letI_in k d (by omega)]; simp, rfl⟩

theorem fromI (k : ByteArray) (d : Nat) (w : World) (hd : d ≤ 1000000) :
    Calls Tryz.prog 159 #[.string k, .int .i64 d] w fun e w' => e = .returned (.string (ba (k.toList.drop d))) ∧ w = w' := by
  have hs : k.toList.length = k.size := by rw [ByteArray.toList_eq]; rfl
  have key : ∀ m : Nat, m = min d k.size → k.extract m k.size = ba (k.toList.drop d) := by
    intro m hm
    have e : (k.extract m k.size).toList = k.toList.drop d := by
      rw [ext_l, hm]
      rcases Nat.le_total d k.size with h | h
      · rw [Nat.min_eq_left h, List.take_of_length_le (by rw [List.length_drop]; omega)]
      · rw [Nat.min_eq_right h, Nat.sub_self, List.take_zero, List.drop_eq_nil_of_le (by omega)]
    rw [← e, ba_of]
  go_enter Tryz.func159, Tryz.ntmps159
  go_wp2
  all_goals
    go_ret
    first
      | (refine ⟨ret_str (key _ ?_), rfl⟩; omega)
      | (have h1 := key k.size (by omega)
         refine ⟨ret_str ?_, rfl⟩
         rw [← h1]; simp)

theorem bitI (b : Bool) (w : World) : Calls Tryz.prog 199 #[.bool b] w fun e w' => e = .returned (.int .u8 (T.bit b).toNat) ∧ w = w' := by
  cases b with
  | true =>
    go_enter Tryz.func199, Tryz.ntmps199
    go_wp2
    go_ret
    exact ⟨rfl, rfl⟩
  | false =>
    go_enter Tryz.func199, Tryz.ntmps199
    go_wp2
    go_ret
    exact ⟨rfl, rfl⟩

theorem c45 (c : UInt8) : ((c.toNat : Int) = 45) ↔ c = 45 := by
  constructor
  · intro h; exact UInt8.toNat_inj.mp (by have : (45 : UInt8).toNat = 45 := rfl; omega)
  · rintro rfl; rfl
theorem convC (W : World) (c : UInt8) : (convert 145 9 (.slice (some ⟨W.heap.size, 0, none⟩) 1 1)).run Tryz.prog (W.alloc (.cells #[.int .u8 (c.toNat : Int)] 5)) =
    .ok (.string (ba [c])) (W.alloc (.cells #[.int .u8 (c.toNat : Int)] 5)) := by
  rw [run_convert_bytes_string _ _ _ _ _ _ _ Tryz.underlying145 Tryz.underlying5 Tryz.underlying9]
  rw [run_bytesToString (P := Tryz.prog) _ ⟨W.heap.size, 0, none⟩ 1 1 [(c.toNat : Int)] ?_]
  · simp [ba]; rfl
  · have hc := cell_new W (.int .u8 (c.toNat : Int)) 5
    simp [loadCells, loadCellsFrom, Addr.add, hc]
set_option maxRecDepth 8000 in
theorem wayI (c : UInt8) (w : World) : Calls Tryz.prog 187 #[.int .u8 c.toNat] w fun e w' => e = .returned (.string (ba (T.wayL c))) ∧ Below w.heap.size w w' := by
  by_cases h : c = 45
  · subst h
    go_enter Tryz.func187, Tryz.ntmps187
    go_wp2
    go_ret
    exact ⟨rfl, Below.refl _ _⟩
  · have h2 : ¬ ((c.toNat : Int) = 45) := fun e => h ((c45 c).mp e)
    have hcv := convC w c
    obtain ⟨n, hn⟩ : ∃ n, n = c.toNat := ⟨_, rfl⟩
    rw [← hn] at hcv h2 ⊢
    clear hn
    go_enter Tryz.func187, Tryz.ntmps187
    go_wp2
    go_ret
    refine ⟨ret_str ?_, (Below.refl _ _).alloc (Nat.le_refl _) _⟩
    unfold T.wayL
    rw [if_neg h]

end Go.Proofs.YtfhpkcamigkmdaaGreatDoor.W

namespace Go.Proofs.YtfhpkcamigkmdaaGreatDoor.W
open Go.RowKit K

set_option maxRecDepth 8000 in
theorem countI (s : ByteArray) (c : UInt8) (w : World) : Calls Tryz.prog 185 #[.string s, .string ⟨#[c]⟩] w fun e w' => e = .returned (.int .i64 ((s.toList.count c : Nat) : Int)) ∧ w = w' := by
  have hx : (callFunc 204 #[.string s, .int .u8 (c.toNat : Int)]).run Tryz.prog w = .ok (.value (.int .i64 ((s.toList.count c : Nat) : Int))) w := by
    rw [run_callFunc_extern Tryz.func204 (by kernel_rfl) (by kernel_rfl) (by kernel_rfl) (e := Extern.BytealgCount.count) (by kernel_rfl), Lib.run_countString]
    unfold Lib.countByte
    rw [ByteArray.toList_eq]
    simp [Result.andThen]
  go_enter Tryz.func185, Tryz.ntmps185
  have hx2 : (callFunc 204 #[.string s, .int .u8 (((⟨#[c]⟩ : ByteArray)[0]'(by show 0 < 1; omega)).toNat : Int)]).run Tryz.prog w = .ok (.value (.int .i64 ((s.toList.count c : Nat) : Int))) w := hx
  go_wp2
  go_ret
  exact ⟨rfl, rfl⟩

/-- which end a branch has -/
def endW (c : UInt8) (r : ByteArray) (kp : Nat) : Bool := decide (c = 45 ∨ r.toList.length < kp)
theorem ending_info : (Tryz.prog.info? 171).map (·.size) = some 3 := by kernel_rfl
set_option maxHeartbeats 1000000 in
theorem newE (c : UInt8) (r : ByteArray) (kp : Nat) (w : World) :
    Calls Tryz.prog 186 #[.int .u8 c.toNat, .string r, .int .i64 kp] w fun e w' => e = .returned (.agg #[.int .u8 c.toNat, .string r, .bool (endW c r kp)]) ∧ Below w.heap.size w w' := by
  have hs : r.toList.length = r.size := by rw [ByteArray.toList_eq]; rfl
  have hres : ∀ (tm : Array Value) (x0 x1 x2 : Value), tm.getD 6 undef = .pointer (some ⟨w.heap.size, 0, none⟩) → (results Tryz.f186 tm).run Tryz.prog (w.alloc (.cells #[x0, x1, x2] 171)) = .ok (.agg #[x0, x1, x2]) (w.alloc (.cells #[x0, x1, x2] 171)) := fun tm x0 x1 x2 ht =>
    results_cell_row rfl tm _ w.heap.size 171 _ (0, 0) _ ht (heap_alloc_new w _) Tryz.underlying171 rfl ending_info
  have HR := Lib.hid hres
  clear hres
  by_cases h : c = 45
  · subst h
    have HE := Lib.hid (show endW 45 r kp = true by unfold endW; exact decide_eq_true (.inl rfl))
    rw [HE.out, show ((UInt8.toNat 45 : Nat) : Int) = 45 from rfl]
    go_enter Tryz.func186, Tryz.ntmps186
    go_wp2
    exact bodyPost_ret (HR.out _ _ _ _ rfl) rfl ⟨rfl, (Below.refl _ _).alloc (Nat.le_refl _) _⟩
  · obtain ⟨n, hn⟩ : ∃ n, n = c.toNat := ⟨_, rfl⟩
    have h1 : ¬ (n : Int) = 45 := by rw [hn]; exact fun e => h ((c45 c).mp e)
    by_cases h2 : r.size < kp
    · have HE := Lib.hid (show endW c r kp = true by unfold endW; exact decide_eq_true (.inr (by omega)))
      rw [HE.out, ← hn]
      clear hn h
      have h3 : (r.size : Int) < (kp : Int) := by omega
      go_enter Tryz.func186, Tryz.ntmps186
      go_wp2
      exact bodyPost_ret (HR.out _ _ _ _ rfl) rfl ⟨rfl, (Below.refl _ _).alloc (Nat.le_refl _) _⟩
    · have HE := Lib.hid (show endW c r kp = false by unfold endW; exact decide_eq_false (by rintro (e | e); exact h e; omega))
      rw [HE.out, ← hn]
      clear hn h
      have h3 : ¬ (r.size : Int) < (kp : Int) := by omega
      go_enter Tryz.func186, Tryz.ntmps186
      go_wp2
      exact bodyPost_ret (HR.out _ _ _ _ rfl) rfl ⟨by rw [show ((n : Int) == 45) = false by simpa using h1], (Below.refl _ _).alloc (Nat.le_refl _) _⟩

theorem labOn (c : Int) (m : Int) (w : World) : Calls Tryz.prog 242 #[.agg #[.int .u8 c, .int .i64 m]] w fun e w' => e = .returned (.int .u8 c) ∧ Below w.heap.size w w' := by
  go_enter Tryz.func242, Tryz.ntmps242
  go_wp2
  go_ret
  exact ⟨rfl, (Below.refl _ _).alloc (Nat.le_refl _) _⟩
theorem labEn (c : Int) (r : ByteArray) (b : Bool) (w : World) : Calls Tryz.prog 243 #[.agg #[.int .u8 c, .string r, .bool b]] w fun e w' => e = .returned (.int .u8 c) ∧ Below w.heap.size w w' := by
  go_enter Tryz.func243, Tryz.ntmps243
  go_wp2
  go_ret
  exact ⟨rfl, (Below.refl _ _).alloc (Nat.le_refl _) _⟩

end Go.Proofs.YtfhpkcamigkmdaaGreatDoor.W

namespace Go.Proofs.YtfhpkcamigkmdaaGreatDoor.W
open Go.RowKit K

set_option maxHeartbeats 1000000 in
theorem equalI (w : World) (B n c n2 c2 : Nat) (A A2 : Option Addr) (l l2 : List ByteArray) (hr : Strs w B A n l) (hr2 : Strs w B A2 n2 l2) (hn : n ≤ maxLen) (hn2 : n2 ≤ maxLen) :
    Calls Tryz.prog 152 #[.slice A n c, .slice A2 n2 c2] w fun e w' => e = .returned (.bool (sameL l l2)) ∧ Same w w' := by
  have hlen := hr.len
  subst hlen
  have hlen2 := hr2.len
  subst hlen2
  unfold maxLen at hn hn2
  have HR := Lib.hid hr
  have HR2 := Lib.hid hr2
  clear hr hr2
  by_cases hll : l.length = l2.length
  · have HLL := Lib.hid hll
    have hne : ((l.length : Int) != (l2.length : Int)) = false := by simp [hll]
    clear hll
    go_enter Tryz.func152, Tryz.ntmps152
    go_wp2
    go_loopw [13] (fun i wr => ∃ k : Nat, k ≤ l.length ∧ i = .int .i64 k ∧ Hid (l.take k = l2.take k) ∧ Same w wr) (fun i _ => l.length - (intOf i).toNat)
    case atStart => exact ⟨0, Nat.zero_le _, rfl, Lib.hid rfl, Same.refl w⟩
    case round =>
      obtain ⟨k, hk, rfl, hg, hsm⟩ := hrel
      have HS := Lib.hid hsm
      clear hsm
      by_cases hlt : k < l.length
      · have hlt2 : k < l2.length := by have := HLL.out; omega
        obtain ⟨b, off, hA, hb, hc⟩ := (HS.out.strs HR.out).cell k hlt
        subst hA
        obtain ⟨b2, off2, hA2, hb2, hc2⟩ := (HS.out.strs HR2.out).cell k hlt2
        subst hA2
        have hx0 : (0 : Int) ≤ (k : Int) := by omega
        have hx1 : (k : Int) < (l.length : Int) := by omega
        have hx2 : (k : Int) < (l2.length : Int) := by omega
        rcases Bool.eq_false_or_eq_true (l[k].toList == l2[k].toList) with he | he
        · have HE := Lib.hid he
          go_wp2
          go_quiet (fail)
          go_wp2
          go_roundw
          case rel => exact ⟨k + 1, by omega, by go_num, Lib.hid (same_step hlt hlt2 HE.out hg.out), HS.out.drewN _⟩
          case measure => simp [intOf]; omega
        · have HE := Lib.hid he
          go_wp2
          go_quiet (fail)
          go_wp2
          go_ret
          exact ⟨ret_bool (same_at hlt hlt2 HE.out).symm, HS.out.drewN _⟩
      · have hke : k = l.length := by omega
        subst hke
        go_wp2
        go_ret
        exact ⟨ret_bool (same_end HLL.out hg.out).symm, HS.out⟩
  · have hne : ((l.length : Int) != (l2.length : Int)) = true := by simp; omega
    have HLL := Lib.hid hll
    clear hll
    go_enter Tryz.func152, Tryz.ntmps152
    go_wp2
    go_ret
    exact ⟨ret_bool (same_len HLL.out).symm, Same.refl w⟩

end Go.Proofs.YtfhpkcamigkmdaaGreatDoor.W
namespace Go.Proofs.YtfhpkcamigkmdaaGreatDoor.K

/-- how two strings compare -/
def cmpS (a b : ByteArray) : Int := Lib.compareBytes a.data.toList b.data.toList
theorem cmp_less : ∀ (a b : List UInt8), (Lib.compareBytes a b < 0) ↔ Op.bytesLess a b = true
  | [], [] => by simp [Lib.compareBytes, Op.bytesLess]
  | _ :: _, [] => by simp [Lib.compareBytes, Op.bytesLess]
  | [], _ :: _ => by simp [Lib.compareBytes, Op.bytesLess]
  | a :: x, b :: y => by
    unfold Lib.compareBytes
    rw [Op.bytesLess]
    by_cases h1 : a < b
    · simp [h1]
    · by_cases h2 : b < a
      · have : a ≠ b := by rintro rfl; exact absurd h2 (by simp)
        simp [h1, h2, this]
      · have e : a = b := UInt8.le_antisymm (UInt8.not_lt.mp h2) (UInt8.not_lt.mp h1)
        subst e
        simp [cmp_less x y]
theorem cmp_zero : ∀ (a b : List UInt8), Lib.compareBytes a b = 0 ↔ a = b
  | [], [] => by simp [Lib.compareBytes]
  | _ :: _, [] => by simp [Lib.compareBytes]
  | [], _ :: _ => by simp [Lib.compareBytes]
  | a :: x, b :: y => by
    unfold Lib.compareBytes
    by_cases h1 : a < b
    · have : a ≠ b := by rintro rfl; exact absurd h1 (by simp)
      simp [h1, this]
    · by_cases h2 : b < a
      · have : a ≠ b := by rintro rfl; exact absurd h2 (by simp)
        simp [h1, h2, this]
      · have e : a = b := UInt8.le_antisymm (UInt8.not_lt.mp h2) (UInt8.not_lt.mp h1)
        subst e
        simp [cmp_zero x y]
theorem cmpS_less {a b : ByteArray} : cmpS a b < 0 ↔ lt a b = true := by
  unfold cmpS lt; rw [cmp_less, ByteArray.toList_eq, ByteArray.toList_eq]
theorem cmpS_zero {a b : ByteArray} : cmpS a b = 0 ↔ eqs a b = true := by
  unfold cmpS; rw [cmp_zero, eqs_iff]
  constructor
  · intro h; exact ba_ext (by rw [ByteArray.toList_eq, ByteArray.toList_eq]; exact h)
  · rintro rfl; rfl

end Go.Proofs.YtfhpkcamigkmdaaGreatDoor.K
namespace Go.Proofs.YtfhpkcamigkmdaaGreatDoor.W
open Go.RowKit K

theorem cmpI (a b : ByteArray) (w : World) : Calls Tryz.prog 165 #[.string a, .string b] w fun e w' => e = .returned (.int .i64 (cmpS a b)) ∧ w = w' := by
  have hx : (callFunc 208 #[.string a, .string b]).run Tryz.prog w = .ok (.value (.int .i64 (cmpS a b))) w := by
    rw [run_callFunc_extern Tryz.func208 (by kernel_rfl) (by kernel_rfl) (by kernel_rfl) (e := Extern.BytealgCompare.compare) (by kernel_rfl), Lib.run_compareString]
    rfl
  go_enter Tryz.func165, Tryz.ntmps165
  go_wp2_with (first | simp only [hx] | go_in)
  go_ret
  exact ⟨rfl, rfl⟩

end Go.Proofs.YtfhpkcamigkmdaaGreatDoor.W
