/-
  Appending a slice of forks; the steps of the model's SieveOf: fork by fork.
-/
import Derived.Test.YtfhpkcamigkmdaaGreatDoorJ5
namespace Go.Proofs.YtfhpkcamigkmdaaGreatDoor.W
open Go.RowKit K

theorem run_appF_none (w : World) (base : Nat) (v : Value) (es : List (Value × Nat)) (hown : OwnF w base v es) (A2 : Option Addr) (c2 : Nat) (ty : TypeId) :
    (Builtin.append_ #[156, 156] ty #[v, .slice A2 0 c2]).run Tryz.prog w = .ok v w := by
  obtain ⟨i0, hi, hz0, hz1, hz2⟩ := info_parts fork_info
  rcases hown.2 with ⟨rfl, _⟩ | ⟨g, cap, cur, rfl, _, _, hnc, _⟩
  · cases A2 <;> simp [Builtin.append_, run_underlying Tryz.underlying156, sizeOf, typeInfo, hi, Builtin.lenOf, Builtin.firstCells, loadCells, loadCellsFrom]
  · cases A2 <;> simp [Builtin.append_, run_underlying Tryz.underlying156, sizeOf, typeInfo, hi, Builtin.lenOf, Builtin.firstCells, hnc, storeCells, loadCells, loadCellsFrom]

/-- append of forks that can be read -/
theorem app_forks {ops : Array Oper} {rest : List Oper} {o : Oper} {a : Act} {Q : Exit → Act → World → Prop} (hgd : o.guard = none) (s x : Operand)
    (ho : o.op = .call { callee := .builtin .append, args := #[s, x], argTypes := #[156, 156] })
    (w : World) (base : Nat) (v : Value) (es : List (Value × Nat)) (hs : a.eval s = v) (hown : OwnF w base v es) (X : Nat → Prop) (m cc : Nat) (A2 : Option Addr) (es2 : List (Value × Nat))
    (hx : a.eval x = .slice A2 m cc) (hr : FS w X A2 m es2) (h1 : ∀ e ∈ es2, e.1.oneCell' = true) (hl : es.length + m ≤ 1000000) (hbase : base ≤ w.heap.size)
    (h : ∀ v' w', OwnF w' base v' (es ++ es2) → Grew w w' v v' → wpList Tryz.prog ops Q rest (a.put o.dst v') w') : wpList Tryz.prog ops Q (o :: rest) a w := by
  have hlen := hr.len
  refine wpList_step fun K hK => ?_
  rw [if_pos (by simp [Region.wanted, hgd])]
  by_cases hm : m = 0
  · subst hm
    have : es2 = [] := List.eq_nil_of_length_eq_zero hlen
    subst this
    have hrun := run_appF_none w base v es hown A2 cc o.type
    unfold Oper.wp execOp
    simp only [ho, resolve, invoke, builtin, Sem.run_bind, Sem.run_pure, Result.andThen_ok, List.map_toArray, List.map_cons, List.map_nil, hs, hx, hrun]
    exact hK _ _ (h v w (by rw [List.append_nil]; exact hown) (Grew.refl w _))
  · obtain ⟨b, off, hA, _⟩ := hr.cell 0 (by omega)
    subst hA
    obtain ⟨i0, hi, hz0, hz1, hz2⟩ := info_parts fork_info
    refine wp_append_lies w s x _ ho base _ i0 (.agg #[.slice none 0 0, .int .i64 0]) 2 32 Tryz.underlying156 hi hz0 hz1 hz2 rfl (by decide) v es.length (cellsF es) hs hown ⟨b, off, none⟩ m cc (cellsF es2) hx (by rw [cellsF_len, hlen]) ?_ ?_ (by omega) ?_ ?_ hbase _ rfl ?_
    · intro j u hj
      have hjl : j < es2.length * 2 := by
        rw [← cellsF_len]
        exact (List.getElem?_eq_some_iff.mp hj).1
      obtain ⟨i, hi2⟩ : ∃ i, j = 2 * i ∨ j = 2 * i + 1 := ⟨j / 2, by omega⟩
      have hil : i < es2.length := by omega
      obtain ⟨b', off', hA', _, _, hc1, hc2⟩ := hr.cell i hil
      simp only [Option.some.injEq, Addr.mk.injEq, and_true] at hA'
      obtain ⟨rfl, rfl⟩ := hA'
      have hadd : (⟨b, off, none⟩ : Addr).add j = ⟨b, off + j, none⟩ := by unfold Addr.add; split <;> simp_all
      rw [hadd]
      have hg := cellsF_get es2 i hil
      rcases hi2 with e | e
      · subst e
        rw [← Option.some.inj (hg.1.symm.trans hj)]; exact hc1
      · subst e
        rw [← Option.some.inj (hg.2.symm.trans hj), ← Nat.add_assoc]; exact hc2
    · intro u hu
      unfold cellsF at hu
      obtain ⟨e, he, hu⟩ := List.mem_flatMap.mp hu
      rcases List.mem_cons.mp hu with rfl | hu
      · exact h1 e he
      · rcases List.mem_cons.mp hu with rfl | hu
        · rfl
        · cases hu
    · unfold maxLen; omega
    · omega
    · intro g cap w' h2 h3 h4 _
      refine hK _ _ (h _ w' ?_ ⟨h3, fun j hj => ?_⟩)
      · unfold OwnF
        rw [List.length_append, cellsF_append, hlen]
        exact h2
      · have e : g = j := by simpa [Value.ownBlock] using hj
        subst e
        rcases h4 with h4 | h4
        · exact .inr h4
        · exact .inl (by omega)
theorem FS.drop1 {w : World} {X : Nat → Prop} {b off n : Nat} {e : Value × Nat} {es : List (Value × Nat)} (h : FS w X (some ⟨b, off, none⟩) (n + 1) (e :: es)) : FS w X (some ⟨b, off + 2, none⟩) n es :=
  ⟨by have := h.len; simpa using this, fun i hi => by
    obtain ⟨b', off', hA, hb, hx, h1, h2⟩ := h.cell (i + 1) (by simpa using hi)
    simp only [Option.some.injEq, Addr.mk.injEq, and_true] at hA
    obtain ⟨rfl, rfl⟩ := hA
    refine ⟨b, off + 2, rfl, hb, hx, ?_, ?_⟩
    · rw [show off + 2 + 2 * i = off + 2 * (i + 1) by omega]; exact h1
    · rw [show off + 2 + 2 * i + 1 = off + 2 * (i + 1) + 1 by omega]; exact h2⟩
theorem FS.nil (w : World) (X : Nat → Prop) (A : Option Addr) : FS w X A 0 [] := ⟨rfl, fun i h => absurd h (by simp)⟩
theorem Held.one {w : World} {X : Nat → Prop} {es : List (Value × Nat)} {q : List (List ByteArray × Nat)} (h : Held w X es q) : ∀ e ∈ es, e.1.oneCell' = true := by
  intro e he
  obtain ⟨i, hi, rfl⟩ := List.mem_iff_getElem.mp he
  obtain ⟨_, A, n, c, hv, _⟩ := h.2 i hi (by have := h.1; omega)
  rw [hv]; rfl

/-- strings are keys, as lists of letters -/
theorem keyL_of {l : List ByteArray} (h : keysB l = true) : T.KeyL (ls l) := by
  rw [keys_iff] at h
  refine T.keyL_mk (fun k hk => ?_) ?_
  · obtain ⟨s, hs, rfl⟩ := List.mem_map.mp hk
    have hkb := h.2.1 s hs
    unfold keyB at hkb
    simp only [Bool.and_eq_true, decide_eq_true_eq, List.all_eq_true] at hkb
    refine ⟨by rw [len_L]; exact hkb.1, fun c hc => ?_⟩
    rw [ByteArray.toList_eq] at hc
    have := hkb.2 c hc
    unfold letterB at this
    simp only [Bool.and_eq_true, decide_eq_true_eq] at this
    exact this
  · unfold T.ascS ls
    rw [List.pairwise_map]
    exact h.2.2.imp fun {a b} hab => lt_iff.mp hab

/-- what SieveOf answers of a key list -/
def OfR (w : World) (keys : List T.Str) (keep : Nat) (e : Ending) (w' : World) : Prop :=
  ∃ v, e = .returned (.tuple #[.agg #[.string (ba (T.sieve keep keys).letters), .string (ba (T.sieve keep keys).more), .string (ba (T.sieve keep keys).first), v, .int .i64 keep], .bool true]) ∧
    Own w' w.heap.size v ((T.sieve keep keys).rests.map ba) ∧ Below w.heap.size w w'
/-- blocks in which no slice lies that is read -/
def XO (w : World) (v : Value) : Nat → Prop := fun k => v.ownBlock = some k ∨ k = w.heap.size ∨ k = w.heap.size + 2
/-- at the loop's head: these forks are done, and these wait -/
structure OfP (w : World) (keys : List T.Str) (keep : Nat) (forks : Value) (wr : World) (N : List T.Fork) (q : List (List ByteArray × Nat)) (es : List (Value × Nat)) (L M F : ByteArray) (v : Value) (R : List ByteArray) (A : Option Addr) (c : Nat) : Prop where
  going : T.Going keys N (fk q)
  sv : svOf L M F R keep = T.enc keep N
  boxR : wr.heap[w.heap.size]? = some (.cells #[.string ⟨#[]⟩, .string ⟨#[]⟩, .string ⟨#[]⟩, .slice none 0 0, .int .i64 0] 92 (0, 0))
  boxS : wr.heap[w.heap.size + 2]? = some (.cells #[.string L, .string M, .string F, v, .int .i64 keep] 92 (0, 0))
  own : Own wr (w.heap.size + 1) v R
  fs : FS wr (XO w v) A es.length es
  val : forks = .slice A es.length c
  cap : es.length ≤ c ∧ c ≤ maxLen
  held : Held wr (XO w v) es q
  row : ∀ j, v.ownBlock = some j → j ≠ w.heap.size ∧ j ≠ w.heap.size + 2
  below : Below w.heap.size w wr

theorem ba_nil : (⟨#[]⟩ : ByteArray).toList = [] := by rw [ByteArray.toList_eq]
/-- ahead of the loop -/
theorem of_start {w W : World} {l : List ByteArray} {keep n c : Nat} {A : Option Addr} (hK : T.KeyL (ls l)) (hr : Strs w w.heap.size A n l) (hnc : n ≤ c) (hc : c ≤ maxLen) (m g : Nat) (hg : g = w.heap.size + 3)
    (hW : W = ((((w.alloc (.cells #[.string ⟨#[]⟩, .string ⟨#[]⟩, .string ⟨#[]⟩, .slice none 0 0, .int .i64 0] 92)).drewN m).alloc (.cells #[] 9)).alloc (.cells #[.string ⟨#[]⟩, .string ⟨#[]⟩, .string ⟨#[]⟩, .slice (some ⟨w.heap.size + 1, 0, none⟩) 0 0, .int .i64 keep] 92)).alloc (.cells #[.slice A n c, .int .i64 0] 155)) :
    OfP w (ls l) keep (.slice (some ⟨g, 0, none⟩) 1 1) W [] [(l, 0)] [(.slice A n c, 0)] ⟨#[]⟩ ⟨#[]⟩ ⟨#[]⟩ (.slice (some ⟨w.heap.size + 1, 0, none⟩) 0 0) [] (some ⟨g, 0, none⟩) 1 := by
  subst hg
  obtain ⟨W1, hW1⟩ : ∃ W1, W1 = (w.alloc (.cells #[.string ⟨#[]⟩, .string ⟨#[]⟩, .string ⟨#[]⟩, .slice none 0 0, .int .i64 0] 92)).drewN m := ⟨_, rfl⟩
  have hs1 : W1.heap.size = w.heap.size + 1 := by rw [hW1]; show (w.alloc _).heap.size = _; simp
  have hb1 : W1.heap[w.heap.size]? = some (.cells #[.string ⟨#[]⟩, .string ⟨#[]⟩, .string ⟨#[]⟩, .slice none 0 0, .int .i64 0] 92 (0, 0)) := by rw [hW1]; exact heap_alloc_new w _
  have hbel1 : Below w.heap.size w W1 := by rw [hW1]; exact below_drewN ((Below.refl _ _).alloc (Nat.le_refl _) _) m
  rw [← hW1] at hW
  obtain ⟨W2, hW2⟩ : ∃ W2, W2 = W1.alloc (.cells #[] 9) := ⟨_, rfl⟩
  have hs2 : W2.heap.size = w.heap.size + 2 := by rw [hW2]; simp [hs1]
  have ho2 : Own W2 (w.heap.size + 1) (.slice (some ⟨w.heap.size + 1, 0, none⟩) 0 0) [] := by rw [hW2]; exact Own.emptyAt W1 _ _ hs1.symm (Nat.le_refl _)
  rw [← hW2] at hW
  obtain ⟨W3, hW3⟩ : ∃ W3, W3 = W2.alloc (.cells #[.string ⟨#[]⟩, .string ⟨#[]⟩, .string ⟨#[]⟩, .slice (some ⟨w.heap.size + 1, 0, none⟩) 0 0, .int .i64 keep] 92) := ⟨_, rfl⟩
  have hs3 : W3.heap.size = w.heap.size + 3 := by rw [hW3]; simp [hs2]
  rw [← hW3] at hW
  have hA : Agree w W (fun _ => False) := by
    rw [hW, hW3, hW2]
    exact (((Agree.of_below hbel1 _).alloc _).alloc _).alloc _
  have hbel : Below w.heap.size w W := by
    rw [hW, hW3, hW2]
    exact ((hbel1.alloc (by omega) _).alloc (by simp; omega) _).alloc (by simp; omega) _
  have hblk : W.heap[w.heap.size + 3]? = some (.cells #[.slice A n c, .int .i64 0] 155 (0, 0)) := by rw [hW, ← hs3]; exact heap_alloc_new _ _
  have hsW : W.heap.size = w.heap.size + 4 := by rw [hW]; simp [hs3]
  have hXO : ∀ k, k < w.heap.size → ¬ XO w (.slice (some ⟨w.heap.size + 1, 0, none⟩) 0 0) k := fun k hk h => by
    rcases h with h | h | h
    · have : w.heap.size + 1 = k := by simpa [Value.ownBlock] using h
      omega
    · omega
    · omega
  refine ⟨T.going_zero hK, by unfold svOf; simp only [ba_nil]; rfl, ?_, ?_, ?_, ?_, rfl, ⟨Nat.le_refl _, by unfold maxLen; omega⟩, ?_, ?_, hbel⟩
  · rw [hW, Below.heap_alloc _ _ _ (by omega), hW3, Below.heap_alloc _ _ _ (by omega), hW2, Below.heap_alloc _ _ _ (by omega)]; exact hb1
  · rw [hW, Below.heap_alloc _ _ _ (by omega), hW3, ← hs2]; exact heap_alloc_new _ _
  · rw [hW, hW3]
    exact (ho2.alloc _).alloc _
  · refine ⟨rfl, fun i hi => ?_⟩
    have hi0 : i = 0 := by simpa using hi
    subst hi0
    refine ⟨w.heap.size + 3, 0, rfl, by omega, fun h => ?_, ?_, ?_⟩
    · rcases h with h | h | h
      · simp [Value.ownBlock] at h
      · omega
      · omega
    · rw [cell_of_row _ _ _ _ _ _ hblk]; rfl
    · rw [cell_of_row _ _ _ _ _ _ hblk]; rfl
  · refine ⟨rfl, fun i h1 h2 => ?_⟩
    have hi0 : i = 0 := by simpa using h1
    subst hi0
    refine ⟨rfl, A, n, c, rfl, ?_, hnc, hc⟩
    exact (Far.of_strs (X := XO w (.slice (some ⟨w.heap.size + 1, 0, none⟩) 0 0)) hr (Nat.le_refl _) hXO).step hA (fun _ _ h => h.elim) (fun k hk h => h)
  · intro j hj
    have : w.heap.size + 1 = j := by simpa [Value.ownBlock] using hj
    omega

/-- a fork is done -/
theorem of_step {w : World} {keys : List T.Str} {keep : Nat} {forks : Value} {wr : World} {N : List T.Fork} {x : List ByteArray × Nat} {q : List (List ByteArray × Nat)} {e : Value × Nat} {es : List (Value × Nat)} {L M F : ByteArray} {v : Value} {R : List ByteArray} {A : Option Addr} {c : Nat}
    (P : OfP w keys keep forks wr N (x :: q) (e :: es) L M F v R A c) {W7 : World} (h7 : Agree wr W7 (fun _ => False)) (o7 : W7.os = wr.os) (t7 : W7.tape = wr.tape) (p7 : W7.output = wr.output)
    {L' M' F' : ByteArray} {v' vn : Value} {R' : List ByteArray} {esn : List (Value × Nat)} {qn : List (List ByteArray × Nat)} {w8 : World} (hsv : svOf L' M' F' R' keep = (svOf L M F R keep).lay x.2 (T.brs x.2 (ls x.1))) (hown : Own w8 (w.heap.size + 1) v' R')
    (hheld : Held w8 (fun k => v'.ownBlock = some k ∨ vn.ownBlock = some k ∨ k < W7.heap.size) esn qn) (hfk : fk qn = T.leads x.2 (T.brs x.2 (ls x.1))) (hg8 : Grew W7 w8 v v')
    {w9 : World} (hw9 : w9 = ((((w8.setCell ⟨w.heap.size + 2, 0, none⟩ (.string L')).setCell ⟨w.heap.size + 2, 1, none⟩ (.string M')).setCell ⟨w.heap.size + 2, 2, none⟩ (.string F')).setCell ⟨w.heap.size + 2, 3, none⟩ v').setCell ⟨w.heap.size + 2, 4, none⟩ (.int .i64 keep))
    {o : Obj} {v0 v1 v2 : Value} {w11 w12 : World} (hv0 : ∀ k, v0.ownBlock = some k → w9.heap.size ≤ k) (hg11 : Grew (w9.alloc o) w11 v0 v1) (hof : OwnF w12 w9.heap.size v2 (es ++ esn)) (hg12 : Grew w11 w12 v1 v2) :
    ∃ A2 c2, v2 = .slice A2 (es ++ esn).length c2 ∧ OfP w keys keep v2 w12 (N ++ [⟨ls x.1, x.2⟩]) (q ++ qn) (es ++ esn) L' M' F' v' R' A2 c2 ∧ T.loads (fk (q ++ qn)) < T.loads (fk (x :: q)) := by
  have hszR := (Array.getElem?_eq_some_iff.1 P.boxR).1
  have hszS := (Array.getElem?_eq_some_iff.1 P.boxS).1
  have hsz7 := h7.size
  have hsz8 := hg8.grown.size
  have hsz9 : w9.heap.size = w8.heap.size := by rw [hw9]; simp
  have hA89 : Agree w8 w9 (fun k => k = w.heap.size + 2) := by
    rw [hw9]
    have a0 : Agree w8 w8 (fun k => k = w.heap.size + 2) := Agree.refl _ _
    have a1 := Agree.setCell a0 (p := ⟨w.heap.size + 2, 0, none⟩) (show w.heap.size + 2 = w.heap.size + 2 from rfl) (.string L')
    have a2 := Agree.setCell a1 (p := ⟨w.heap.size + 2, 1, none⟩) (show w.heap.size + 2 = w.heap.size + 2 from rfl) (.string M')
    have a3 := Agree.setCell a2 (p := ⟨w.heap.size + 2, 2, none⟩) (show w.heap.size + 2 = w.heap.size + 2 from rfl) (.string F')
    have a4 := Agree.setCell a3 (p := ⟨w.heap.size + 2, 3, none⟩) (show w.heap.size + 2 = w.heap.size + 2 from rfl) v'
    exact Agree.setCell a4 (p := ⟨w.heap.size + 2, 4, none⟩) (show w.heap.size + 2 = w.heap.size + 2 from rfl) (.int .i64 keep)
  -- what is appended to lies in new blocks
  have hA9 : Agree w9 w12 (fun _ => False) := by
    have hsa : (w9.alloc o).heap.size = w9.heap.size + 1 := by simp
    have hs11 := hg11.grown.size
    refine ⟨by have := hg12.grown.size; omega, fun k hk _ => ?_⟩
    have hn1 : ¬ v1.ownBlock = some k := fun e => by
      rcases hg11.row k e with h | h
      · omega
      · have := hv0 k h; omega
    rw [hg12.agree.block k (by omega) hn1, hg11.agree.block k (by omega) (fun e => by have := hv0 k e; omega), Below.heap_alloc _ _ _ hk]
  have hA812 : Agree w8 w12 (fun k => k = w.heap.size + 2) := hA89.trans (hA9.more fun _ _ h => h.elim)
  have hA : Agree wr w12 (fun k => v.ownBlock = some k ∨ k = w.heap.size + 2) :=
    ((h7.more fun _ _ h => h.elim).trans (hg8.agree.more fun _ _ h => .inl h)).trans (hA812.more fun _ _ h => .inr h)
  have hrow : ∀ j, v'.ownBlock = some j → j ≠ w.heap.size ∧ j ≠ w.heap.size + 2 := fun j hj => by
    rcases hg8.row j hj with h | h
    · omega
    · exact P.row j h
  have hv8 : ∀ k, v'.ownBlock = some k → k < w8.heap.size := fun k hk => (hown.lt hk).2
  have hXX : ∀ k, k < wr.heap.size → XO w v' k → XO w v k := fun k hk h => by
    rcases h with h | h | h
    · rcases hg8.row k h with h1 | h1
      · omega
      · exact Or.inl h1
    · exact Or.inr (Or.inl h)
    · exact Or.inr (Or.inr h)
  have hYX : ∀ k, (v.ownBlock = some k ∨ k = w.heap.size + 2) → XO w v k := fun k h => by
    rcases h with h | h
    · exact Or.inl h
    · exact Or.inr (Or.inr h)
  obtain ⟨A2, c2, hv2, hc2, hm2⟩ := hof.parts
  have hgo := T.going_next P.going
  have hkids : T.kids ⟨ls x.1, x.2⟩ = fk qn := hfk.symm
  have hq : fk (q ++ qn) = fk q ++ T.kids ⟨ls x.1, x.2⟩ := by rw [hkids]; unfold fk; rw [List.map_append]
  refine ⟨A2, c2, hv2, ⟨?_, ?_, ?_, ?_, ?_, ?_, hv2, ⟨hc2, hm2⟩, ?_, hrow, ?_⟩, ?_⟩
  · rw [hq]; exact hgo.1
  · rw [T.enc_snoc, ← P.sv]; exact hsv
  · rw [hA.block _ hszR (fun h => by
      rcases h with h | h
      · exact (P.row _ h).1 rfl
      · omega)]
    exact P.boxR
  · rw [hA9.block _ (by omega) (fun h => h), hw9]
    have h8 : w8.heap[w.heap.size + 2]? = some (.cells #[.string L, .string M, .string F, v, .int .i64 keep] 92 (0, 0)) := by
      rw [hg8.agree.block _ (by omega) (fun h => (P.row _ h).2 rfl), h7.block _ hszS (fun h => h)]; exact P.boxS
    exact box_five h8 _ _ _ _ _
  · exact hown.agree hA812 (fun k hk h => (hrow k hk).2 h)
  · refine FS.of_own hof hv2 (fun k hk h => ?_)
    have hk1 := (hof.lt hk).1
    rcases h with h | h | h
    · have := hv8 k h; omega
    · omega
    · omega
  · refine Held.append (P.held.tail.step fun A n l h => h.step hA (fun k _ h => hYX k h) hXX) (hheld.step fun A n l h => h.step hA812 (fun k _ hk => ?_) (fun k hk8 hk => ?_))
    · have hk' : k = w.heap.size + 2 := hk
      exact Or.inr (Or.inr (by omega))
    · rcases hk with h | h | h
      · exact Or.inl h
      · exact Or.inr (Or.inr (by omega))
      · exact Or.inr (Or.inr (by omega))
  · have hs11 := hg11.grown
    have hs12 := hg12.grown
    refine ⟨?_, ?_, ?_, Nat.le_trans P.below.size hA.size, fun k hk => ?_⟩
    · rw [hs12.os, hs11.os]; show w9.os = _; rw [hw9, os_set, os_set, os_set, os_set, os_set, hg8.grown.os, o7, P.below.os]
    · rw [hs12.tape, hs11.tape]; show w9.tape = _; rw [hw9, tape_set, tape_set, tape_set, tape_set, tape_set, hg8.grown.tape, t7, P.below.tape]
    · rw [hs12.output, hs11.output]; show w9.output = _; rw [hw9, out_set, out_set, out_set, out_set, out_set, hg8.grown.output, p7, P.below.output]
    · rw [hA.block k (by omega) (fun h => by
        rcases h with h | h
        · have := (P.own.lt h).1; omega
        · omega)]
      exact P.below.block k hk
  · rw [hq]; exact hgo.2

/-- the call of l3Put in SieveOf -/
theorem of_put {w : World} {l : List ByteArray} {kp : Nat} {forks : Value} {wr : World} {N : List T.Fork} {x : List ByteArray × Nat} {q : List (List ByteArray × Nat)} {e : Value × Nat} {es : List (Value × Nat)} {L M F : ByteArray} {v : Value} {R : List ByteArray} {A : Option Addr} {c : Nat}
    (P : OfP w (ls l) kp forks wr N (x :: q) (e :: es) L M F v R A c) (hK : T.KeyL (ls l)) (h24 : l.length ≤ 24) :
    x.2 ≤ 5 ∧ e.2 = x.2 ∧ x.1.length ≤ 24 ∧ L.size ≤ 144 ∧ M.size ≤ 144 ∧ F.size ≤ 144 ∧ R.length ≤ 144 ∧ es.length ≤ 1000 ∧ ∃ Ax nx cx, e.1 = .slice Ax nx cx ∧ nx ≤ cx ∧ cx ≤ maxLen ∧ nx ≤ 24 ∧
      ∀ W : World, Agree wr W (fun _ => False) → Far W (fun k => v.ownBlock = some k) Ax nx x.1 ∧ Own W (w.heap.size + 1) v R := by
  have h24' : (ls l).length ≤ 24 := by unfold ls; rw [List.length_map]; exact h24
  obtain ⟨h1, h2, h3, h4⟩ := T.going_len hK h24' kp P.going
  rw [← P.sv] at h1 h2 h3 h4
  have e1 : (svOf L M F R kp).letters.length = L.size := len_L L
  have e2 : (svOf L M F R kp).more.length = M.size := len_L M
  have e3 : (svOf L M F R kp).first.length = F.size := len_L F
  have e4 : (svOf L M F R kp).rests.length = R.length := by show (R.map _).length = _; rw [List.length_map]
  rw [e1] at h1; rw [e2] at h2; rw [e3] at h3; rw [e4] at h4
  have hok := P.going.ok ⟨ls x.1, x.2⟩ (by unfold fk; simp)
  have hsub := P.going.sub ⟨ls x.1, x.2⟩ (by unfold fk; simp)
  have hxl : x.1.length ≤ 24 := by
    have : (ls x.1).length ≤ (ls l).length := hsub
    unfold ls at this
    rw [List.length_map, List.length_map] at this
    omega
  obtain ⟨he2, Ax, nx, cx, he1, hfar, hc1, hc2⟩ := P.held.head
  have hnx := hfar.len
  have hlen : es.length ≤ 1000 := by
    have hh := P.held.1
    simp only [List.length_cons] at hh
    have hall := P.going.all
    -- each fork that waits has a place among all
    have hq : (fk (x :: q)).length ≤ (T.forks (ls l)).length := by
      rw [hall, List.length_append]
      have hne := T.nodes_eq (T.loads (fk (x :: q))) (fk (x :: q)) (Nat.le_refl _) P.going.ok
      have := congrArg List.length hne.1
      rw [List.length_append] at this
      omega
    have hf : (T.forks (ls l)).length ≤ 145 := by
      by_cases hnil : ls l = []
      · rw [hnil]
        have hl : T.loads [T.rootF []] = 1 := by simp [T.loads, T.rootF, T.load]
        have : T.forks [] = [T.rootF []] := by unfold T.forks; rw [hl]; rfl
        rw [this]; simp
      · obtain ⟨Tr, _⟩ := T.tree_of hK hnil
        have hz := T.going_len hK h24' kp (T.Going.mk (keys := ls l) (N := T.forks (ls l)) (q := []) (by rw [show T.nodes (T.loads []) [] = [] from rfl, List.append_nil]) (fun f hf => by cases hf) (fun f hf => by cases hf))
        have h3' : (T.firsts (T.forks (ls l))).length ≤ 144 := hz.2.2.1
        have ho := T.ones_firsts (T.forks (ls l)) Tr.some_
        have hle := Go.Proofs.YtfhpkcamigkmdaaGreatDoor.M.ones_le (T.firsts (T.forks (ls l)))
        omega
    unfold fk at hq
    rw [List.length_map, List.length_cons] at hq
    omega
  refine ⟨hok.2, he2, hxl, h1, h2, h3, h4, hlen, Ax, nx, cx, he1, hc1, hc2, by omega, fun W hW => ⟨hfar.step hW (fun _ _ h => h.elim) (fun k _ h => Or.inl h), P.own.agree hW (fun _ _ h => h)⟩⟩

/-- the two rows that are appended, where they are -/
theorem of_rows {w : World} {keys : List T.Str} {kp : Nat} {forks : Value} {wr : World} {N : List T.Fork} {x : List ByteArray × Nat} {q : List (List ByteArray × Nat)} {e : Value × Nat} {es : List (Value × Nat)} {L M F : ByteArray} {v : Value} {R : List ByteArray} {b off c : Nat}
    (P : OfP w keys kp forks wr N (x :: q) (e :: es) L M F v R (some ⟨b, off, none⟩) c) {W7 w8 w9 : World} (h7 : Agree wr W7 (fun _ => False)) {v' vn : Value} {esn : List (Value × Nat)} (hofn : OwnF w8 W7.heap.size vn esn) (hg8 : Grew W7 w8 v v')
    (hA89 : Agree w8 w9 (fun k => k = w.heap.size + 2)) (hsz9 : w9.heap.size = w8.heap.size) :
    OwnF (w9.alloc (.cells #[] 155)) w9.heap.size (.slice (some ⟨w8.heap.size, 0, none⟩) 0 0) [] ∧ FS (w9.alloc (.cells #[] 155)) (fun _ => False) (some ⟨b, off + 2, none⟩) es.length es ∧
    (∀ w11 v1, Grew (w9.alloc (.cells #[] 155)) w11 (.slice (some ⟨w8.heap.size, 0, none⟩) 0 0) v1 → ∀ An cn, vn = .slice An esn.length cn → FS w11 (fun _ => False) An esn.length esn) := by
  have hszS := (Array.getElem?_eq_some_iff.1 P.boxS).1
  have hsz7 := h7.size
  have hsz8 := hg8.grown.size
  refine ⟨OwnF.emptyAt _ _ _ hsz9.symm (by omega), ?_, ?_⟩
  · have hfs : FS wr (XO w v) (some ⟨b, off, none⟩) (es.length + 1) (e :: es) := P.fs
    have hA : Agree wr (w9.alloc (.cells #[] 155)) (fun k => v.ownBlock = some k ∨ k = w.heap.size + 2) :=
      (((h7.more fun _ _ h => h.elim).trans (hg8.agree.more fun _ _ h => .inl h)).trans (hA89.more fun _ _ h => .inr h)).alloc _
    refine hfs.drop1.step hA (fun k _ h => ?_) (fun k _ h => h.elim)
    rcases h with h | h
    · exact Or.inl h
    · exact Or.inr (Or.inr h)
  · intro w11 v1 hg11 An cn hvn
    have h8 : FS w8 (fun k => k < W7.heap.size) An esn.length esn := FS.of_own hofn hvn (fun k hk h => by have := (hofn.lt hk).1; omega)
    have h9 : FS (w9.alloc (.cells #[] 155)) (fun k => w9.heap.size ≤ k) An esn.length esn := by
      refine h8.step (hA89.alloc _) (fun k _ h => ?_) (fun k hk h => ?_)
      · have h' : k = w.heap.size + 2 := h
        show k < W7.heap.size
        omega
      · have h' : w9.heap.size ≤ k := h
        omega
    refine h9.step hg11.agree (fun k _ h => ?_) (fun k _ h => h.elim)
    have h' : w8.heap.size = k := by simpa [Value.ownBlock] using h
    show w9.heap.size ≤ k
    omega

/-- all forks are done -/
theorem of_end {w : World} {keys : List T.Str} {kp : Nat} {forks : Value} {wr : World} {N : List T.Fork} {L M F : ByteArray} {v : Value} {R : List ByteArray} {A : Option Addr} {c : Nat} (P : OfP w keys kp forks wr N [] [] L M F v R A c) (w5 : World) (x0 x1 x2 x3 x4 : Value)
    (h5 : w5 = ((((wr.setCell ⟨w.heap.size, 0, none⟩ x0).setCell ⟨w.heap.size, 1, none⟩ x1).setCell ⟨w.heap.size, 2, none⟩ x2).setCell ⟨w.heap.size, 3, none⟩ x3).setCell ⟨w.heap.size, 4, none⟩ x4) :
    OfR w keys kp (.returned (.tuple #[.agg #[.string L, .string M, .string F, v, .int .i64 kp], .bool true])) w5 := by
  have hA : Agree wr w5 (fun k => k = w.heap.size) := by
    rw [h5]
    have a0 : Agree wr wr (fun k => k = w.heap.size) := Agree.refl _ _
    have a1 := Agree.setCell a0 (p := ⟨w.heap.size, 0, none⟩) (show w.heap.size = w.heap.size from rfl) x0
    have a2 := Agree.setCell a1 (p := ⟨w.heap.size, 1, none⟩) (show w.heap.size = w.heap.size from rfl) x1
    have a3 := Agree.setCell a2 (p := ⟨w.heap.size, 2, none⟩) (show w.heap.size = w.heap.size from rfl) x2
    have a4 := Agree.setCell a3 (p := ⟨w.heap.size, 3, none⟩) (show w.heap.size = w.heap.size from rfl) x3
    exact Agree.setCell a4 (p := ⟨w.heap.size, 4, none⟩) (show w.heap.size = w.heap.size from rfl) x4
  have hN : T.forks keys = N := T.going_end P.going
  have hsv : svOf L M F R kp = T.sieve kp keys := by rw [P.sv, ← hN]; rfl
  have hl : ba (T.sieve kp keys).letters = L := by rw [← hsv]; exact ba_of L
  have hm : ba (T.sieve kp keys).more = M := by rw [← hsv]; exact ba_of M
  have hf : ba (T.sieve kp keys).first = F := by rw [← hsv]; exact ba_of F
  have hrr : (T.sieve kp keys).rests.map ba = R := by
    rw [← hsv]
    show (R.map (·.toList)).map ba = R
    rw [List.map_map]
    have : ∀ y ∈ R, (ba ∘ fun z : ByteArray => z.toList) y = id y := fun y _ => ba_of y
    rw [List.map_congr_left this, List.map_id]
  refine ⟨v, by rw [hl, hm, hf], ?_, ?_⟩
  · rw [hrr]
    exact (P.own.agree hA (fun k hk h => (P.row k hk).1 h)).base (by omega)
  · refine ⟨?_, ?_, ?_, Nat.le_trans P.below.size hA.size, fun k hk => ?_⟩
    · rw [h5, os_set, os_set, os_set, os_set, os_set]; exact P.below.os
    · rw [h5, tape_set, tape_set, tape_set, tape_set, tape_set]; exact P.below.tape
    · rw [h5, out_set, out_set, out_set, out_set, out_set]; exact P.below.output
    · have hszR := (Array.getElem?_eq_some_iff.1 P.boxR).1
      rw [hA.block k (by omega) (by omega)]
      exact P.below.block k hk

/-- behind the call of l3Put, and its result laid into the box -/
def OfC (w W7 : World) (v : Value) (L M F : ByteArray) (R : List ByteArray) (x : List ByteArray × Nat) (kp : Nat) (s8 : Value) (wx : World) : Prop :=
  ∃ L' M' F' v' R' esn qn w8, svOf L' M' F' R' kp = (svOf L M F R kp).lay x.2 (T.brs x.2 (ls x.1)) ∧ Own w8 (w.heap.size + 1) v' R' ∧ OwnF w8 W7.heap.size s8 esn ∧
    Held w8 (fun k => v'.ownBlock = some k ∨ s8.ownBlock = some k ∨ k < W7.heap.size) esn qn ∧ fk qn = T.leads x.2 (T.brs x.2 (ls x.1)) ∧ Grew W7 w8 v v' ∧
    wx = ((((w8.setCell ⟨w.heap.size + 2, 0, none⟩ (.string L')).setCell ⟨w.heap.size + 2, 1, none⟩ (.string M')).setCell ⟨w.heap.size + 2, 2, none⟩ (.string F')).setCell ⟨w.heap.size + 2, 3, none⟩ v').setCell ⟨w.heap.size + 2, 4, none⟩ (.int .i64 kp)
/-- the box behind the call -/
theorem of_box8 {w : World} {keys : List T.Str} {kp : Nat} {forks : Value} {wr : World} {N : List T.Fork} {q : List (List ByteArray × Nat)} {es : List (Value × Nat)} {L M F : ByteArray} {v : Value} {R : List ByteArray} {A : Option Addr} {c : Nat} (P : OfP w keys kp forks wr N q es L M F v R A c) {W7 w8 : World} {v' : Value} (h7 : Agree wr W7 (fun _ => False)) (hg8 : Grew W7 w8 v v') :
    w8.heap[w.heap.size + 2]? = some (.cells #[.string L, .string M, .string F, v, .int .i64 kp] 92 (0, 0)) := by
  have hszS := (Array.getElem?_eq_some_iff.1 P.boxS).1
  have hsz7 := h7.size
  rw [hg8.agree.block _ (by omega) (fun h => (P.row _ h).2 rfl), h7.block _ hszS (fun h => h)]; exact P.boxS
theorem agree7 (wr : World) (o : Obj) : Agree wr (wr.alloc o).drew (fun _ => False) := ⟨by show wr.heap.size ≤ (wr.alloc o).heap.size; simp, fun k hk _ => Below.heap_alloc _ _ _ hk⟩
/-- stores into the box -/
theorem agree89 (w8 : World) (g : Nat) (x0 x1 x2 x3 x4 : Value) : Agree w8 (((((w8.setCell ⟨g, 0, none⟩ x0).setCell ⟨g, 1, none⟩ x1).setCell ⟨g, 2, none⟩ x2).setCell ⟨g, 3, none⟩ x3).setCell ⟨g, 4, none⟩ x4) (fun k => k = g) := by
  have a0 : Agree w8 w8 (fun k => k = g) := Agree.refl _ _
  have a1 := Agree.setCell a0 (p := ⟨g, 0, none⟩) (show g = g from rfl) x0
  have a2 := Agree.setCell a1 (p := ⟨g, 1, none⟩) (show g = g from rfl) x1
  have a3 := Agree.setCell a2 (p := ⟨g, 2, none⟩) (show g = g from rfl) x2
  have a4 := Agree.setCell a3 (p := ⟨g, 3, none⟩) (show g = g from rfl) x3
  exact Agree.setCell a4 (p := ⟨g, 4, none⟩) (show g = g from rfl) x4

end Go.Proofs.YtfhpkcamigkmdaaGreatDoor.W
