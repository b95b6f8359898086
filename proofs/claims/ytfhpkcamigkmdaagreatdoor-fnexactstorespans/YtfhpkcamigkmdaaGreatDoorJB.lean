/-
  Contract of the program's parts: the keys of a node by their next label.
  Memory of the program's trieOf: a node's row, the queue's, the trie's, and what is read beside them; no walk.
  The steps of the program's trieOf: forks wait in a queue, and become nodes; no walk.
  Contract of the program's trieOf: the trie of a key list.
-/
import Derived.Test.YtfhpkcamigkmdaaGreatDoorZAK
import Derived.Deep.RegionLaw
import Derived.Deep.LoopGhost
namespace Go.Proofs.YtfhpkcamigkmdaaGreatDoor.T
open M
/-- the first keys of a fork with one letter, where the next one has another: the first branch -/
theorem group_run {k : Str} {t : List Str} {d : Nat} (h : WF ⟨k :: t, d⟩) {n : Nat} (hn : n ≤ (k :: t).length) (hs : ∀ i (hi : i < (k :: t).length), i < n → letter (k :: t)[i] d = letter k d)
    (hd : ∀ (hi : n < (k :: t).length), letter (k :: t)[n] d ≠ letter k d) : group k t d = (k :: t).take n ∧ (k :: t).drop (group k t d).length = (k :: t).drop n := by
  obtain ⟨r, h1, h2, h3⟩ := group_first h
  have hg : ∀ x ∈ group k t d, letter x d = letter k d := by
    intro x hx
    unfold group at hx
    have := (List.mem_filter.mp hx).2
    simpa using this
  have hlen : (group k t d).length = n := by
    have hle : (group k t d).length ≤ (k :: t).length := by rw [h1, List.length_append]; omega
    rcases Nat.lt_trichotomy (group k t d).length n with hlt | he | hgt
    · exfalso
      have hi : (group k t d).length < (k :: t).length := by omega
      have e1 := hs _ hi hlt
      have hmem : (k :: t)[(group k t d).length] ∈ r := by
        rw [← h3]
        rw [List.drop_eq_getElem_cons hi]; simp
      have := h2 _ hmem
      rw [e1] at this
      omega
    · exact he
    · exfalso
      have hi : n < (k :: t).length := by omega
      have e1 := hd hi
      have e2 : (k :: t)[n]? = (group k t d)[n]? := by rw [h1, List.getElem?_append_left hgt]
      rw [List.getElem?_eq_getElem hi, List.getElem?_eq_getElem hgt] at e2
      have hmem : (group k t d)[n] ∈ group k t d := List.getElem_mem hgt
      exact e1 (by rw [Option.some.inj e2]; exact hg _ hmem)
  refine ⟨?_, by rw [hlen]⟩
  conv => rhs; rw [h1]
  rw [← hlen, List.take_left]
end Go.Proofs.YtfhpkcamigkmdaaGreatDoor.T
namespace Go.Proofs.YtfhpkcamigkmdaaGreatDoor.W
open Go.RowKit K

/-- append of elements that can be read, at a step of a region that draws its order -/
theorem step_row {ops : Array Oper} {o : Oper} {a : Act} {K : Act → World → Prop} {Q : Exit → Act → World → Prop} {Ex : Prop} (hgd : o.guard = none) (s x : Operand) (T E : TypeId) (sz : Nat) (z : Value) (by_ : Nat)
    (ho : o.op = .call { callee := .builtin .append, args := #[s, x], argTypes := #[T, T] }) (hT : Tryz.prog.underlying T = some (.slice E)) (hE : (Tryz.prog.info? E).map (fun i => (i.zero, i.size, i.bytes)) = some (some z, sz, by_)) (hz : z.cells.size = sz) (hsz : 0 < sz)
    (w : World) (base : Nat) (v : Value) (n : Nat) (cs : List Value) (hs : a.eval s = v) (hown : Row E sz w base v n cs) (m cc b : Nat) (news : List Value)
    (hx : a.eval x = .slice (some ⟨b, 0, none⟩) m cc) (hlen : news.length = m * sz) (hr : ∀ j u, news[j]? = some u → w.cell? ⟨b, j, none⟩ = some u) (h1 : ∀ u ∈ news, u.oneCell' = true) (hm : 0 < m) (hl : n + m ≤ 1000000) (hby : by_ ≤ 100) (hbase : base ≤ w.heap.size)
    (h : ∀ v' w', Row E sz w' base v' (n + m) (cs ++ news) → Grew w w' v v' → K (a.put o.dst v') w') : if Region.wanted o (yielded ops a.tmps) = true then Oper.wp Tryz.prog o a w K Q else Ex := by
  rw [if_pos (by simp [Region.wanted, hgd])]
  obtain ⟨i0, hi, hz0, hz1, hz2⟩ := info_parts hE
  refine wp_append_lies w s x _ ho base _ i0 z sz by_ hT hi hz0 hz1 hz2 hz hsz v n cs hs hown ⟨b, 0, none⟩ m cc news hx hlen ?_ h1 (by omega) ?_ ?_ hbase _ rfl ?_
  · intro j u hj
    rw [add_at, Nat.zero_add]; exact hr j u hj
  · unfold maxLen; omega
  · have : (n + m) * by_ ≤ (n + m) * 100 := Nat.mul_le_mul_left _ hby
    omega
  · intro g cap w' h2 h3 h4 _
    refine h _ w' h2 ⟨h3, fun j hj => ?_⟩
    have hjg : j = g := by simpa [Value.ownBlock] using hj.symm
    subst hjg
    rcases h4 with h4 | h4
    · exact .inr h4
    · exact .inl (by omega)
theorem cell_two {w : World} {b : Nat} {x y : Value} {t : TypeId} (h : w.heap[b]? = some (.cells #[x, y] t (0, 0))) : ∀ (j : Nat) (u : Value), [x, y][j]? = some u → w.cell? ⟨b, j, none⟩ = some u := by
  intro j u hj
  rw [cell_of_row _ _ _ _ _ _ h]
  match j, hj with
  | 0, hj => simpa using hj
  | 1, hj => simpa using hj

theorem agree_heap {w w' : World} (X : Nat → Prop) (h : w'.heap = w.heap) : Agree w w' X := ⟨by rw [h]; exact Nat.le_refl _, fun k _ _ => by rw [h]⟩
theorem Far.sub {w : World} {X : Nat → Prop} {A : Option Addr} {n : Nat} {l : List ByteArray} (h : Far w X A n l) {a b : Nat} (hab : a ≤ b) (hb : b ≤ n) :
    Far w X (A.map (·.add a)) (b - a) ((l.drop a).take (b - a)) :=
  ⟨by rw [List.length_take, List.length_drop, h.len]; omega, fun i hi => by
    rw [List.length_take, List.length_drop] at hi
    obtain ⟨bb, off, hA, hbb, hne, hcell⟩ := h.cell (a + i) (by omega)
    rw [hA]
    refine ⟨bb, off + a, ?_, hbb, hne, ?_⟩
    · simp only [Option.map_some]; rw [add_at]
    · rw [List.getElem_take, List.getElem_drop, Nat.add_assoc]; exact hcell⟩
/-- a slice of key sets of the call's own -/
def OwnK (w : World) (base : Nat) (v : Value) (es : List (Value × Nat)) : Prop := Row 219 2 w base v es.length (cellsF es)
theorem keySet_info : (Tryz.prog.info? 219).map (fun i => (i.zero, i.size, i.bytes)) = some (some (.agg #[.slice none 0 0, .int .i64 0]), 2, 32) := by kernel_rfl
/-- the parts of a node -/
def PartsR (w : World) (B : Nat) (l : List ByteArray) (d : Nat) (e : Ending) (w' : World) : Prop :=
  ∃ v es q, e = .returned v ∧ OwnK w' w.heap.size v es ∧ Held w' (fun k => B ≤ k) es q ∧ fk q = (T.brs d (ls l)).map (fun b => ⟨b.2, d + 1⟩) ∧ Below w.heap.size w w'

/-- at the loop's head -/
structure PartP (w : World) (B : Nat) (A : Option Addr) (c : Nat) (l : List ByteArray) (d : Nat) (pv : Value) (f t : Nat) (wr : World) (es : List (Value × Nat)) (q : List (List ByteArray × Nat)) (done : List T.Br) : Prop where
  ft : f < t
  tn : t ≤ l.length + 1
  fn : (f < l.length ∧ t ≤ l.length) ∨ (f = l.length ∧ t = l.length + 1)
  own : OwnK wr (w.heap.size + 1) pv es
  held : Held wr (fun k => B ≤ k) es q
  half : T.Half d (ls l) done ((ls l).drop f)
  fkq : fk q = done.map (fun b => ⟨b.2, d + 1⟩)
  same : ∀ i (h : i < l.length) (h2 : f < l.length), f ≤ i → i < t → T.letter l[i].toList d = T.letter l[f].toList d
  below : Below (w.heap.size + 1) (w.alloc (Obj.cells #[.slice A l.length c, .int .i64 d] 219)) wr
  cnt : es.length ≤ f
theorem ls_get {l : List ByteArray} {i : Nat} (h : i < l.length) : (ls l)[i]'(by unfold ls; rw [List.length_map]; exact h) = l[i].toList := by unfold ls; rw [List.getElem_map]
theorem ls_len (l : List ByteArray) : (ls l).length = l.length := by unfold ls; rw [List.length_map]
/-- a part more -/
theorem part_half {l : List ByteArray} {d f t : Nat} {done : List T.Br} (hw : T.WF ⟨ls l, d⟩) (hh : T.Half d (ls l) done ((ls l).drop f)) (hf : f < l.length) (hft : f < t) (ht : t ≤ l.length)
    (hs : ∀ i (h : i < l.length), f ≤ i → i < t → T.letter l[i].toList d = T.letter l[f].toList d) (hd : ∀ h : t < l.length, T.letter l[t].toList d ≠ T.letter l[f].toList d) :
    T.Half d (ls l) (done ++ [(T.letter l[f].toList d, ls ((l.drop f).take (t - f)))]) ((ls l).drop t) := by
  have hlen := ls_len l
  have hdrop : (ls l).drop f = l[f].toList :: (ls l).drop (f + 1) := by rw [List.drop_eq_getElem_cons (by omega), ls_get hf]
  have hget : ∀ i (hi : i < (l[f].toList :: (ls l).drop (f + 1)).length) (h2 : f + i < l.length), (l[f].toList :: (ls l).drop (f + 1))[i] = l[f + i].toList := by
    intro i hi h2
    have e : (l[f].toList :: (ls l).drop (f + 1))[i]? = some l[f + i].toList := by
      rw [← hdrop, List.getElem?_drop, List.getElem?_eq_getElem (by omega), ls_get h2]
    rw [List.getElem?_eq_getElem hi] at e
    exact Option.some.inj e
  have hl2 : (l[f].toList :: (ls l).drop (f + 1)).length = l.length - f := by rw [← hdrop, List.length_drop, hlen]
  have hwf : T.WF ⟨l[f].toList :: (ls l).drop (f + 1), d⟩ := by
    rw [← hdrop]
    exact hw.sub (f := ⟨ls l, d⟩) (List.drop_sublist _ _)
  obtain ⟨g1, g2⟩ := T.group_run hwf (n := t - f) (by omega) (fun i hi hlt => by
    rw [hget i hi (by omega)]
    exact hs (f + i) (by omega) (by omega) (by omega)) (fun hi => by
    rw [hget (t - f) hi (by omega)]
    have e : ∀ (a : Nat) (ha : a < l.length), a = t → T.letter l[a].toList d ≠ T.letter l[f].toList d := by
      rintro a ha rfl
      exact hd ha
    exact e _ _ (by omega))
  rw [hdrop] at hh
  have hn := T.half_next hh
  rw [g2, g1, ← hdrop, List.drop_drop, show f + (t - f) = t by omega] at hn
  have e : ((ls l).drop f).take (t - f) = ls ((l.drop f).take (t - f)) := by unfold ls; rw [List.map_take, List.map_drop]
  rw [e] at hn
  exact hn
theorem part_step {w : World} {B : Nat} {A : Option Addr} {c : Nat} {l : List ByteArray} {d : Nat} {pv : Value} {f t : Nat} {wr : World} {es : List (Value × Nat)} {q : List (List ByteArray × Nat)} {done : List T.Br}
    (P : PartP w B A c l d pv f t wr es q done) (hw : T.WF ⟨ls l, d⟩) (hr : Far w (fun k => B ≤ k) A l.length l) (hB : B ≤ w.heap.size) (hnc : l.length ≤ c) (hcm : c ≤ maxLen) (hf : f < l.length) (ht : t ≤ l.length) (hd : ∀ h : t < l.length, T.letter l[t].toList d ≠ T.letter l[f].toList d)
    {W w1 : World} {pv' : Value} (hA : Agree wr W (fun _ => False)) (hO : W.os = wr.os ∧ W.tape = wr.tape ∧ W.output = wr.output) (ho : OwnK w1 (w.heap.size + 1) pv' (es ++ [(.slice (A.map (·.add f)) (t - f) (c - f), d + 1)])) (hg : Grew W w1 pv pv') :
    PartP w B A c l d pv' t (t + 1) w1 (es ++ [(.slice (A.map (·.add f)) (t - f) (c - f), d + 1)]) (q ++ [((l.drop f).take (t - f), d + 1)]) (done ++ [(T.letter l[f].toList d, ls ((l.drop f).take (t - f)))]) := by
  have hft := P.ft
  have hsz := P.below.size
  simp only [World.size_alloc] at hsz
  have hlt : ∀ k, pv.ownBlock = some k → w.heap.size + 1 ≤ k := fun k hk => (Row.lt_ P.own hk).1
  have hA1 : Agree wr w1 (fun k => pv.ownBlock = some k) := (hA.more fun _ _ h => h.elim).trans hg.agree
  have hbl : Below (w.heap.size + 1) (w.alloc (Obj.cells #[.slice A l.length c, .int .i64 d] 219)) w1 := by
    refine ⟨?_, ?_, ?_, Nat.le_trans P.below.size hA1.size, fun k hk => ?_⟩
    · rw [hg.grown.os, hO.1, P.below.os]
    · rw [hg.grown.tape, hO.2.1, P.below.tape]
    · rw [hg.grown.output, hO.2.2, P.below.output]
    · rw [hA1.block k (by omega) (fun h => by have := hlt k h; omega)]
      exact P.below.block k hk
  have hAw : Agree w w1 (fun k => B ≤ k) := by
    refine ⟨by have := hA1.size; omega, fun k hk hx => ?_⟩
    rw [hbl.block k (by omega), Below.heap_alloc _ _ _ hk]
  have hfar : Far w1 (fun k => B ≤ k) (A.map (·.add f)) (t - f) ((l.drop f).take (t - f)) := (hr.sub (by omega) ht).step hAw (fun _ _ h => h) (fun _ _ h => h)
  refine ⟨by omega, by omega, by omega, ho, ?_, part_half hw P.half hf P.ft ht (fun i h h1 h2 => P.same i h hf h1 h2) hd, ?_, ?_, hbl, ?_⟩
  · refine Held.snoc (P.held.step fun A' n' l' h => h.step hA1 (fun k _ h => ?_) (fun _ _ h => h)) hfar (by omega) (by omega)
    have := hlt k h
    show B ≤ k
    omega
  · unfold fk
    rw [List.map_append, List.map_append]
    have := P.fkq
    unfold fk at this
    rw [this]
    rfl
  · intro i h h2 h3 h4
    have : i = t := by omega
    subst this
    rfl
  · rw [List.length_append]
    have := P.cnt
    simp
    omega

set_option maxHeartbeats 2000000 in
set_option maxRecDepth 8000 in
theorem partsI (w : World) (B n c d : Nat) (A : Option Addr) (l : List ByteArray) (hr : Far w (fun k => B ≤ k) A n l) (hB : B ≤ w.heap.size) (hnc : n ≤ c) (hcm : c ≤ maxLen) (hn : n ≤ 1000) (hd : d < 1000) (hwf : T.WF ⟨ls l, d⟩) :
    Calls Tryz.prog 197 #[.agg #[.slice A n c, .int .i64 d]] w (PartsR w B l d) := by
  have hlen := hr.len
  subst hlen
  have HR := Lib.hid hr
  have HWF := Lib.hid hwf
  have HCM := Lib.hid hcm
  have hcm2 : c ≤ 9223372036854775807 := by unfold maxLen at hcm; omega
  clear hr hwf hcm
  go_enter Tryz.func197, Tryz.ntmps197
  go_wp2
  go_loopw [3, 4, 5] (fun pv fv tv wr => ∃ f t es q done, fv = .int .i64 (f : Nat) ∧ tv = .int .i64 (t : Nat) ∧ PartP w B A c l d pv f t wr es q done) (fun _ _ tv _ => l.length + 1 - (intOf tv).toNat)
  case atStart =>
    refine ⟨0, 1, [], [], [], rfl, rfl, by omega, by omega, by omega, World.ownsRow_nil _ _ _ _, Held.nil _ _, T.half_zero d (ls l), rfl, ?_, Below.refl _ _, Nat.le_refl _⟩
    intro i h h2 h3 h4
    have : i = 0 := by omega
    subst this
    rfl
  case round =>
    obtain ⟨f, t, es, q, done, rfl, rfl, P⟩ := hrel
    have HP := Lib.hid P
    have hb := P.below
    have hsz : w.heap.size + 1 ≤ wr.heap.size := by have := hb.size; simpa using this
    have hbox : wr.heap[w.heap.size]? = some (Obj.cells #[.slice A l.length c, .int .i64 d] 219) := by rw [hb.block _ (by omega)]; exact heap_alloc_new _ _
    have hb0 : wr.cell? ⟨w.heap.size, 0, none⟩ = some (.slice A l.length c) := by rw [cell_of_row _ _ _ _ _ _ hbox]; rfl
    have hb1 : wr.cell? ⟨w.heap.size, 1, none⟩ = some (.int .i64 d) := by rw [cell_of_row _ _ _ _ _ _ hbox]; rfl
    have hft := P.ft
    have htn := P.tn
    have hfn := P.fn
    have hcnt := P.cnt
    have HAw := Lib.hid (show Agree w wr (fun k => B ≤ k) from ⟨by omega, fun k hk _ => by rw [hb.block k (by omega), Below.heap_alloc _ _ _ hk]⟩)
    have HFR := Lib.hid (HR.out.step HAw.out (fun _ _ h => h) (fun (_ : Nat) _ h => h))
    clear hb hbox P
    by_cases htl : t ≤ l.length
    · have hfl : f < l.length := by omega
      obtain ⟨b, off, hA, hbb, hbX, hcf⟩ := HFR.out.cell f hfl
      subst hA
      have hx0 : (0 : Int) ≤ (f : Int) := by omega
      have hx1 : (f : Int) < (l.length : Int) := by omega
      have hx2 : (t : Int) ≤ (l.length : Int) := by omega
      have hx3 : (f : Int) ≤ (t : Int) := by omega
      have hx4 : (0 : Int) ≤ (t : Int) := by omega
      have hx5 := i64_fit d (by omega)
      have hx6 : f ≤ t := by omega
      have hx7 : ¬ c = f := by omega
      have hx8 : t ≤ c := by omega
      have HOD := Lib.hid (show ∀ (W : World) (o : Obj), W.heap = wr.heap → OwnK (W.alloc o) (w.heap.size + 1) u3 es from fun W o hW => Row.agree HP.out.own (Agree.alloc (b := W) ⟨by rw [hW]; exact Nat.le_refl _, fun k _ _ => by rw [hW]⟩ o) (fun _ _ (h : False) => h))
      by_cases hte : t = l.length
      · have he : ((t : Int) == (l.length : Int)) = true := by rw [hte]; simp
        have HDF := Lib.hid (show ∀ h : t < l.length, T.letter l[t].toList d ≠ T.letter l[f].toList d from fun h => by omega)
        clear hte
        go_wp2
        go_quiet (fail)
        go_wp2_with fail
        go_region_law (refine step_row rfl (.tmp 37) (.tmp 47) 220 219 2 _ _ rfl Tryz.underlying220 keySet_info rfl (by decide) _ (w.heap.size + 1) _ _ _ (by simp [Act.eval]) (HOD.out _ _ rfl) 1 1 wr.heap.size [.slice (some ⟨b, off + f, none⟩) (t - f) (c - f), .int .i64 ((d : Int) + 1)] (by simp [Act.eval]) rfl (cell_two (heap_alloc_new _ _)) (fun u hu => by simp at hu; rcases hu with rfl | rfl <;> rfl) (by decide) (by omega) (by decide) (by simp; omega) ?_; intro v' w3 hrow hg; have HROW := Lib.hid hrow; have HG := Lib.hid hg; clear hrow hg)
        all_goals
          go_wp2
          go_roundw
          case rel =>
            have h := HROW.out
            refine ⟨t, t + 1, _, _, _, rfl, by go_num, part_step HP.out HWF.out HR.out hB hnc HCM.out hfl htl HDF.out ((agree_heap (fun _ => False) (show (wr.drewN (nq + 1)).heap = wr.heap from rfl)).alloc _) ⟨rfl, rfl, rfl⟩ ?_ HG.out⟩
            unfold OwnK
            rw [List.length_append, cellsF_append]
            simp only [Option.map_some, add_at]
            exact h
          case measure => simp [intOf]; omega
      · have htl2 : t < l.length := by omega
        have he : ((t : Int) == (l.length : Int)) = false := by simp; omega
        obtain ⟨b', off', hA', _, _, hct⟩ := HFR.out.cell t htl2
        simp only [Option.some.injEq, Addr.mk.injEq, and_true] at hA'
        obtain ⟨rfl, rfl⟩ := hA'
        have hy1 : (t : Int) < (l.length : Int) := by omega
        obtain ⟨xt, hxt⟩ : ∃ x, x = (T.letter l[t].toList d).toNat := ⟨_, rfl⟩
        obtain ⟨xf, hxf⟩ : ∃ x, x = (T.letter l[f].toList d).toNat := ⟨_, rfl⟩
        have HLT := Lib.hid (show ∀ W, Calls Tryz.prog 157 #[.string l[t], .int .i64 d] W fun e w' => e = .returned (.int .u8 xt) ∧ W = w' from fun W => by rw [hxt]; exact labelI l[t] d W)
        have HLF := Lib.hid (show ∀ W, Calls Tryz.prog 157 #[.string l[f], .int .i64 d] W fun e w' => e = .returned (.int .u8 xf) ∧ W = w' from fun W => by rw [hxf]; exact labelI l[f] d W)
        have HXT := Lib.hid hxt
        have HXF := Lib.hid hxf
        clear hte hxt hxf
        by_cases hxx : xt = xf
        · have hne : ((xt : Int) != (xf : Int)) = false := by rw [hxx]; simp
          have HXX := Lib.hid hxx
          clear hxx
          go_wp2
          go_quiet ((go_at_call 157; first | with_reducible exact quiet_mine (HLT.out _) | with_reducible exact quiet_mine (HLF.out _)))
          go_wp2
          go_roundw
          case rel =>
            have P := HP.out
            refine ⟨f, t + 1, es, q, done, rfl, by go_num, by omega, by omega, by omega, Row.agree P.own (agree_heap _ rfl) (fun _ _ h => h), P.held.step (fun A' n' l' h => h.step (agree_heap (fun _ => False) rfl) (fun _ _ h => h.elim) (fun _ _ h => h)), P.half, P.fkq, ?_, below_drewN P.below _, P.cnt⟩
            intro i h h2 h3 h4
            by_cases hit : i < t
            · exact P.same i h h2 h3 hit
            · have : i = t := by omega
              subst this
              exact UInt8.toNat_inj.mp (by rw [← HXT.out, ← HXF.out]; exact HXX.out)
          case measure => simp [intOf]; omega
        · have hne : ((xt : Int) != (xf : Int)) = true := by simp; omega
          have HDF := Lib.hid (show ∀ h : t < l.length, T.letter l[t].toList d ≠ T.letter l[f].toList d from fun h e => hxx (by rw [HXT.out, HXF.out, e]))
          clear hxx
          go_wp2
          go_quiet ((go_at_call 157; first | with_reducible exact quiet_mine (HLT.out _) | with_reducible exact quiet_mine (HLF.out _)))
          go_wp2_with fail
          go_region_law (refine step_row rfl (.tmp 37) (.tmp 47) 220 219 2 _ _ rfl Tryz.underlying220 keySet_info rfl (by decide) _ (w.heap.size + 1) _ _ _ (by simp [Act.eval]) (HOD.out _ _ rfl) 1 1 wr.heap.size [.slice (some ⟨b, off + f, none⟩) (t - f) (c - f), .int .i64 ((d : Int) + 1)] (by simp [Act.eval]) rfl (cell_two (heap_alloc_new _ _)) (fun u hu => by simp at hu; rcases hu with rfl | rfl <;> rfl) (by decide) (by omega) (by decide) (by simp; omega) ?_; intro v' w3 hrow hg; have HROW := Lib.hid hrow; have HG := Lib.hid hg; clear hrow hg)
          all_goals
            go_wp2
            go_roundw
            case rel =>
              have h := HROW.out
              refine ⟨t, t + 1, _, _, _, rfl, by go_num, part_step HP.out HWF.out HR.out hB hnc HCM.out hfl htl HDF.out ((agree_heap (fun _ => False) (show (wr.drewN (nq + 1)).heap = wr.heap from rfl)).alloc _) ⟨rfl, rfl, rfl⟩ ?_ HG.out⟩
              unfold OwnK
              rw [List.length_append, cellsF_append]
              simp only [Option.map_some, add_at]
              exact h
            case measure => simp [intOf]; omega
    · have hfe : f = l.length := by omega
      have hte : t = l.length + 1 := by omega
      subst hfe hte
      go_wp2
      go_ret
      refine ⟨_, es, q, rfl, Row.base_ HP.out.own (by omega), HP.out.held, ?_, ((Below.refl _ _).alloc (Nat.le_refl _) _).trans (HP.out.below.mono (by omega))⟩
      have h1 := HP.out.half
      rw [List.drop_of_length_le (by rw [ls_len]; exact Nat.le_refl _)] at h1
      rw [HP.out.fkq, T.half_end h1]

end Go.Proofs.YtfhpkcamigkmdaaGreatDoor.W

namespace Go.Proofs.YtfhpkcamigkmdaaGreatDoor.W
open Go.RowKit K

/-- the branches of each of some nodes -/
def HeldT (w : World) (X : Nat → Prop) (ts : List Value) (t : T.Tr) : Prop :=
  ts.length = t.length ∧ ∀ i (h1 : i < ts.length) (h2 : i < t.length), ∃ A c, ts[i] = .slice A t[i].length c ∧ t[i].length ≤ c ∧ c ≤ maxLen ∧ Brs w X A t[i].length t[i]
theorem HeldT.nil (w : World) (X : Nat → Prop) : HeldT w X [] [] := ⟨rfl, fun i h => absurd h (by simp)⟩
theorem HeldT.step {w w' : World} {X X' : Nat → Prop} {ts : List Value} {t : T.Tr} (h : HeldT w X ts t) (hf : ∀ A n l, Brs w X A n l → Brs w' X' A n l) : HeldT w' X' ts t :=
  ⟨h.1, fun i h1 h2 => by
    obtain ⟨A, c, hv, hc1, hc2, hb⟩ := h.2 i h1 h2
    exact ⟨A, c, hv, hc1, hc2, hf _ _ _ hb⟩⟩
theorem HeldT.snoc {w : World} {X : Nat → Prop} {ts : List Value} {t : T.Tr} (h : HeldT w X ts t) {A : Option Addr} {c : Nat} {l : List T.TB} (hb : Brs w X A l.length l) (h1 : l.length ≤ c) (h2 : c ≤ maxLen) : HeldT w X (ts ++ [.slice A l.length c]) (t ++ [l]) := by
  refine ⟨by rw [List.length_append, List.length_append, h.1]; rfl, fun i hi1 hi2 => ?_⟩
  have hl := h.1
  by_cases hlt : i < ts.length
  · rw [List.getElem_append_left hlt, List.getElem_append_left (by omega)]
    exact h.2 i hlt (by omega)
  · rw [List.length_append, List.length_singleton] at hi1
    have hie : i = ts.length := by omega
    subst hie
    rw [List.getElem_append_right (Nat.le_refl _), List.getElem_append_right (by omega)]
    simp only [Nat.sub_self, hl, List.getElem_cons_zero]
    exact ⟨A, c, rfl, h1, h2, hb⟩
/-- from a row of nodes to a trie that can be read -/
theorem HeldT.trs {w : World} {base : Nat} {X : Nat → Prop} {A : Option Addr} {n c : Nat} {ts : List Value} {t : T.Tr} (h : HeldT w X ts t) (ho : Row 197 1 w base (.slice A n c) ts.length ts) (hX : ∀ k, (Value.slice A n c).ownBlock = some k → ¬ X k) : Trs w X A n t := by
  obtain ⟨A', c', hv, -, -⟩ := ho.parts_
  injection hv with e1 e2 e3
  refine ⟨by rw [e2, h.1], fun i hi => ?_⟩
  have hi2 : i < ts.length := by rw [h.1]; exact hi
  obtain ⟨g, c2, hv2, hb, hg, hcell⟩ := ho.cell_ (i := i) (u := ts[i]) (List.getElem?_eq_getElem hi2) (by omega)
  injection hv2 with e4 e5 e6
  obtain ⟨Ai, ci, hti, h1, h2, hbr⟩ := h.2 i hi2 hi
  rw [hti] at hcell
  exact ⟨g, 0, e4, hg, hX g (by rw [e4]; rfl), Ai, ci, by rw [Nat.zero_add]; exact hcell, h1, h2, hbr⟩

theorem FS.of_row {w : World} {base : Nat} {X : Nat → Prop} {A : Option Addr} {n c : Nat} {es : List (Value × Nat)} (h : OwnK w base (.slice A n c) es) (hv : ∀ k, (Value.slice A n c).ownBlock = some k → ¬ X k) : FS w X A n es := by
  obtain ⟨A', c', hv', -, -⟩ := Row.parts_ h
  injection hv' with e1 e2 e3
  refine ⟨e2.symm, fun i hi => ?_⟩
  obtain ⟨g1, g2⟩ := cellsF_get es i hi
  obtain ⟨g, c2, hv2, hb, hg, hc1⟩ := Row.cell_ h g1 (by rw [cellsF_len]; exact Nat.le_refl _)
  obtain ⟨g', c2', hv2', hb', hg', hc2⟩ := Row.cell_ h g2 (by rw [cellsF_len]; exact Nat.le_refl _)
  rw [hv2] at hv2'
  injection hv2' with e4 e5 e6
  injection e4 with e7
  injection e7 with e8
  subst e8
  injection hv2 with f1 f2 f3
  refine ⟨g, 0, f1, hg, hv g (by rw [f1]; rfl), ?_, ?_⟩
  · rw [Nat.zero_add]; exact hc1
  · rw [Nat.zero_add]; exact hc2
theorem FS.none_ (w : World) (X : Nat → Prop) (A : Option Addr) : FS w X A 0 [] := ⟨rfl, fun i h => absurd h (by simp)⟩

/-- behind an append other rows are apart still -/
theorem Grew.apart {W w1 : World} {v v' u : Value} (hg : Grew W w1 v v') (hu : ∀ k, u.ownBlock = some k → k < W.heap.size) (ha : ∀ k, v.ownBlock = some k → u.ownBlock ≠ some k) : ∀ k, v'.ownBlock = some k → u.ownBlock ≠ some k := by
  intro k hk hu2
  rcases hg.row k hk with h | h
  · have := hu k hu2; omega
  · exact ha k h hu2

/-- the rows that grow -/
def XT (nv qv tv : Value) : Nat → Prop := fun k => nv.ownBlock = some k ∨ qv.ownBlock = some k ∨ tv.ownBlock = some k
/-- what trieOf has made, at any time -/
structure St (w wr : World) (nv qv tv : Value) (ns : List Value) (es : List (Value × Nat)) (Qs : List (List ByteArray × Nat)) (ts : List Value) (tr : T.Tr) (Ap : Option Addr) (np : Nat) (esP : List (Value × Nat)) (qP : List (List ByteArray × Nat)) : Prop where
  ownN : Row 165 1 wr w.heap.size nv ns.length ns
  ownQ : OwnK wr w.heap.size qv es
  ownT : Row 197 1 wr w.heap.size tv ts.length ts
  nq : ∀ k, nv.ownBlock = some k → qv.ownBlock ≠ some k
  nt : ∀ k, nv.ownBlock = some k → tv.ownBlock ≠ some k
  qt : ∀ k, qv.ownBlock = some k → tv.ownBlock ≠ some k
  held : Held wr (fun k => w.heap.size ≤ k) es Qs
  heldT : HeldT wr (XT nv qv tv) ts tr
  fsP : FS wr (XT nv qv tv) Ap np esP
  heldP : Held wr (fun k => w.heap.size ≤ k) esP qP
  below : Below w.heap.size w wr

section
variable {w wr : World} {nv qv tv : Value} {ns : List Value} {es : List (Value × Nat)} {Qs : List (List ByteArray × Nat)} {ts : List Value} {tr : T.Tr} {Ap : Option Addr} {np : Nat} {esP : List (Value × Nat)} {qP : List (List ByteArray × Nat)}
/-- new memory, and nothing else -/
theorem St.quiet (S : St w wr nv qv tv ns es Qs ts tr Ap np esP qP) {W : World} (hA : Agree wr W (fun _ => False)) (hO : W.os = wr.os ∧ W.tape = wr.tape ∧ W.output = wr.output) : St w W nv qv tv ns es Qs ts tr Ap np esP qP where
  ownN := Row.agree S.ownN hA (fun _ _ h => h)
  ownQ := Row.agree S.ownQ hA (fun _ _ h => h)
  ownT := Row.agree S.ownT hA (fun _ _ h => h)
  nq := S.nq
  nt := S.nt
  qt := S.qt
  held := S.held.step fun _ _ _ h => h.step hA (fun _ _ h => h.elim) (fun _ _ h => h)
  heldT := S.heldT.step fun _ _ _ h => h.step hA (fun _ _ h => h.elim) (fun _ _ h => h)
  fsP := S.fsP.step hA (fun _ _ h => h.elim) (fun _ _ h => h)
  heldP := S.heldP.step fun _ _ _ h => h.step hA (fun _ _ h => h.elim) (fun _ _ h => h)
  below := ⟨by rw [hO.1]; exact S.below.os, by rw [hO.2.1]; exact S.below.tape, by rw [hO.2.2]; exact S.below.output, Nat.le_trans S.below.size hA.size, fun k hk => by rw [hA.block k (by have := S.below.size; omega) (fun h => h)]; exact S.below.block k hk⟩
theorem below_grew {B : Nat} {w wr w1 : World} {v v' : Value} (h : Below B w wr) (hg : Grew wr w1 v v') (hv : ∀ k, v.ownBlock = some k → B ≤ k) (hB : B ≤ wr.heap.size) : Below B w w1 := h.grown hg.grown hB hv
/-- a branch more -/
theorem St.node (S : St w wr nv qv tv ns es Qs ts tr Ap np esP qP) {w1 : World} {nv' x : Value} (ho : Row 165 1 w1 w.heap.size nv' (ns.length + 1) (ns ++ [x])) (hg : Grew wr w1 nv nv') : St w w1 nv' qv tv (ns ++ [x]) es Qs ts tr Ap np esP qP := by
  have hlq : ∀ k, qv.ownBlock = some k → k < wr.heap.size := fun k hk => (Row.lt_ S.ownQ hk).2
  have hlt : ∀ k, tv.ownBlock = some k → k < wr.heap.size := fun k hk => (Row.lt_ S.ownT hk).2
  have hln : ∀ k, nv.ownBlock = some k → w.heap.size ≤ k := fun k hk => (Row.lt_ S.ownN hk).1
  have hXX : ∀ k, k < wr.heap.size → XT nv' qv tv k → XT nv qv tv k := fun k hk h => by
    rcases h with h | h | h
    · rcases hg.row k h with h1 | h1
      · omega
      · exact Or.inl h1
    · exact Or.inr (Or.inl h)
    · exact Or.inr (Or.inr h)
  exact {
    ownN := by rw [List.length_append]; exact ho
    ownQ := Row.agree S.ownQ hg.agree (fun k h1 h2 => S.nq k h2 h1)
    ownT := Row.agree S.ownT hg.agree (fun k h1 h2 => S.nt k h2 h1)
    nq := hg.apart hlq S.nq
    nt := hg.apart hlt S.nt
    qt := S.qt
    held := S.held.step fun _ _ _ h => h.step hg.agree (fun k _ h => hln k h) (fun _ _ h => h)
    heldT := S.heldT.step fun _ _ _ h => h.step hg.agree (fun k _ h => Or.inl h) hXX
    fsP := S.fsP.step hg.agree (fun k _ h => Or.inl h) hXX
    heldP := S.heldP.step fun _ _ _ h => h.step hg.agree (fun k _ h => hln k h) (fun _ _ h => h)
    below := below_grew S.below hg hln S.below.size }
/-- a key set more -/
theorem St.queue (S : St w wr nv qv tv ns es Qs ts tr Ap np esP qP) {w1 : World} {qv' : Value} {A : Option Addr} {n c d : Nat} {l : List ByteArray} (hf : Far wr (fun k => w.heap.size ≤ k) A n l) (h1 : n ≤ c) (h2 : c ≤ maxLen)
    (ho : OwnK w1 w.heap.size qv' (es ++ [(.slice A n c, d)])) (hg : Grew wr w1 qv qv') : St w w1 nv qv' tv ns (es ++ [(.slice A n c, d)]) (Qs ++ [(l, d)]) ts tr Ap np esP qP := by
  have hln : ∀ k, nv.ownBlock = some k → k < wr.heap.size := fun k hk => (Row.lt_ S.ownN hk).2
  have hlt : ∀ k, tv.ownBlock = some k → k < wr.heap.size := fun k hk => (Row.lt_ S.ownT hk).2
  have hlq : ∀ k, qv.ownBlock = some k → w.heap.size ≤ k := fun k hk => (Row.lt_ S.ownQ hk).1
  have hqn : ∀ k, qv'.ownBlock = some k → nv.ownBlock ≠ some k := hg.apart hln (fun k h1 h2 => S.nq k h2 h1)
  have hXX : ∀ k, k < wr.heap.size → XT nv qv' tv k → XT nv qv tv k := fun k hk h => by
    rcases h with h | h | h
    · exact Or.inl h
    · rcases hg.row k h with h1 | h1
      · omega
      · exact Or.inr (Or.inl h1)
    · exact Or.inr (Or.inr h)
  exact {
    ownN := Row.agree S.ownN hg.agree (fun k h1 h2 => S.nq k h1 h2)
    ownQ := ho
    ownT := Row.agree S.ownT hg.agree (fun k h1 h2 => S.qt k h2 h1)
    nq := fun k h1 h2 => hqn k h2 h1
    nt := S.nt
    qt := hg.apart hlt S.qt
    held := Held.snoc (S.held.step fun _ _ _ h => h.step hg.agree (fun k _ h => hlq k h) (fun _ _ h => h)) (hf.step hg.agree (fun k _ h => hlq k h) (fun _ _ h => h)) h1 h2
    heldT := S.heldT.step fun _ _ _ h => h.step hg.agree (fun k _ h => Or.inr (Or.inl h)) hXX
    fsP := S.fsP.step hg.agree (fun k _ h => Or.inr (Or.inl h)) hXX
    heldP := S.heldP.step fun _ _ _ h => h.step hg.agree (fun k _ h => hlq k h) (fun _ _ h => h)
    below := below_grew S.below hg hlq S.below.size }
/-- a node more, and none begun -/
theorem St.tee {l : List T.TB} {A : Option Addr} {n c : Nat} (S : St w wr (.slice A n c) qv tv (l.map brV) es Qs ts tr Ap np esP qP) {w1 : World} {tv' : Value}
    (ho : Row 197 1 w1 w.heap.size tv' (ts.length + 1) (ts ++ [.slice A n c])) (hg : Grew wr w1 tv tv') : St w w1 (.slice none 0 0) qv tv' [] es Qs (ts ++ [.slice A n c]) (tr ++ [l]) none 0 [] [] := by
  have hlq : ∀ k, qv.ownBlock = some k → k < wr.heap.size := fun k hk => (Row.lt_ S.ownQ hk).2
  have hln : ∀ k, (Value.slice A n c).ownBlock = some k → k < wr.heap.size := fun k hk => (Row.lt_ S.ownN hk).2
  have hlt : ∀ k, tv.ownBlock = some k → w.heap.size ≤ k := fun k hk => (Row.lt_ S.ownT hk).1
  obtain ⟨A', c', hv', hc1, hc2⟩ := S.ownN.parts_
  injection hv' with e1 e2 e3
  rw [List.length_map] at e2 hc1
  subst e1 e2 e3
  have hXX : ∀ k, k < wr.heap.size → XT (.slice none 0 0) qv tv' k → XT (.slice A l.length c) qv tv k := fun k hk h => by
    rcases h with h | h | h
    · cases h
    · exact Or.inr (Or.inl h)
    · rcases hg.row k h with h1 | h1
      · omega
      · exact Or.inr (Or.inr h1)
  have hbr : Brs w1 (XT (.slice none 0 0) qv tv') A l.length l := by
    have h1 : Brs wr (fun k => qv.ownBlock = some k ∨ tv.ownBlock = some k) A l.length l := Brs.of_row (by have := S.ownN; rw [List.length_map] at this; exact this) rfl (fun k hk h => by
      rcases h with h | h
      · exact S.nq k hk h
      · exact S.nt k hk h)
    refine h1.step hg.agree (fun k _ h => Or.inr h) (fun k hk h => ?_)
    rcases h with h | h | h
    · cases h
    · exact Or.inl h
    · rcases hg.row k h with h1 | h1
      · omega
      · exact Or.inr h1
  exact {
    ownN := World.ownsRow_nil _ _ _ _
    ownQ := Row.agree S.ownQ hg.agree (fun k h1 h2 => S.qt k h1 h2)
    ownT := by rw [List.length_append]; exact ho
    nq := fun k h => by cases h
    nt := fun k h => by cases h
    qt := fun k h1 h2 => hg.apart hlq (fun k h1 h2 => S.qt k h2 h1) k h2 h1
    held := S.held.step fun _ _ _ h => h.step hg.agree (fun k _ h => hlt k h) (fun _ _ h => h)
    heldT := HeldT.snoc (S.heldT.step fun _ _ _ h => h.step hg.agree (fun k _ h => Or.inr (Or.inr h)) hXX) hbr hc1 hc2
    fsP := FS.none_ _ _ _
    heldP := Held.nil _ _
    below := below_grew S.below hg hlt S.below.size }
/-- the parts of a node have come -/
theorem St.parts (S : St w wr (.slice none 0 0) qv tv [] es Qs ts tr none 0 [] []) {w1 : World} {A : Option Addr} {n c : Nat} (hb : Below wr.heap.size wr w1) (ho : OwnK w1 wr.heap.size (.slice A n c) esP) (hh : Held w1 (fun k => w.heap.size ≤ k) esP qP) : St w w1 (.slice none 0 0) qv tv [] es Qs ts tr A n esP qP := by
  have S1 := S.quiet (W := w1) (Agree.of_below hb _) ⟨hb.os, hb.tape, hb.output⟩
  exact { S1 with
    fsP := FS.of_row ho (fun k hk h => by
      have h1 := (Row.lt_ ho hk).1
      rcases h with h | h | h
      · cases h
      · have := (Row.lt_ S.ownQ h).2; omega
      · have := (Row.lt_ S.ownT h).2; omega)
    heldP := hh }
end

end Go.Proofs.YtfhpkcamigkmdaaGreatDoor.W

namespace Go.Proofs.YtfhpkcamigkmdaaGreatDoor.W
open Go.RowKit K

/-- between two nodes: these forks are done, and these wait -/
structure TO (w : World) (l : List ByteArray) (kp : Nat) (tv qv : Value) (wr : World) (N q : List T.Fork) (es : List (Value × Nat)) (Qs : List (List ByteArray × Nat)) (ts : List Value) : Prop where
  going : T.Going (ls l) N q
  cntq : N.length + q.length = 1 + (N.flatMap T.kids).length
  fkq : fk Qs = N ++ q
  st : St w wr (.slice none 0 0) qv tv [] es Qs ts (T.trN kp 1 N) none 0 [] []
/-- inside a node: so many of its branches are done -/
structure TI (w : World) (kp : Nat) (N q : List T.Fork) (f : T.Fork) (nv tv qv : Value) (wr : World) (es : List (Value × Nat)) (Qs : List (List ByteArray × Nat)) (ts : List Value) (Ap : Option Addr) (np : Nat) (esP : List (Value × Nat)) (qP : List (List ByteArray × Nat)) (p : Nat) : Prop where
  fkq : fk Qs = (N ++ f :: q) ++ T.leads f.deep ((T.bs f).take p)
  fkP : fk qP = (T.bs f).map fun b => ⟨b.2, f.deep + 1⟩
  st : St w wr nv qv tv ((T.nodeT kp f.deep (1 + (N.flatMap T.kids).length) ((T.bs f).take p)).map brV) es Qs ts (T.trN kp 1 N) Ap np esP qP

theorem headD_ls : ∀ (l : List ByteArray) (h : 0 < l.length), (ls l).headD [] = l[0].toList
  | _ :: _, _ => rfl
theorem fk_len (q : List (List ByteArray × Nat)) : (fk q).length = q.length := by unfold fk; rw [List.length_map]
theorem forks_le {keys : List T.Str} (hK : T.KeyL keys) (h24 : keys.length ≤ 24) : (T.forks keys).length ≤ 145 := by
  by_cases hnil : keys = []
  · rw [hnil, T.forks_nil]; simp
  · obtain ⟨Tr, _⟩ := T.tree_of hK hnil
    have hz := T.going_len hK h24 0 (T.Going.mk (keys := keys) (N := T.forks keys) (q := []) (by rw [show T.nodes (T.loads []) [] = [] from rfl, List.append_nil]) (fun f hf => by cases hf) (fun f hf => by cases hf))
    have h3' : (T.firsts (T.forks keys)).length ≤ 144 := hz.2.2.1
    have ho := T.ones_firsts (T.forks keys) Tr.some_
    have hle := Go.Proofs.YtfhpkcamigkmdaaGreatDoor.M.ones_le (T.firsts (T.forks keys))
    omega
theorem going_le {keys : List T.Str} (hK : T.KeyL keys) (h24 : keys.length ≤ 24) {N q : List T.Fork} (h : T.Going keys N q) : N.length + q.length ≤ 145 := by
  have h1 := forks_le hK h24
  rw [h.all, List.length_append] at h1
  have hne := T.nodes_eq (T.loads q) q (Nat.le_refl _) h.ok
  have := congrArg List.length hne.1
  rw [List.length_append] at this
  omega
theorem bs_le {f : T.Fork} : (T.bs f).length ≤ f.keys.length := T.brs_len f.deep f.keys.length f.keys (Nat.le_refl _)

/-- what stands where a branch is looked at -/
structure TAt (w : World) (kp : Nat) (N : List T.Fork) (f : T.Fork) (qv : Value) (wr : World) (es : List (Value × Nat)) (Ap : Option Addr) (p : Nat) (b : T.Br) (lp : List ByteArray) (x : ByteArray) (bP oP bk ok nq cq bQ cQ : Nat) : Prop where
  br : (T.bs f)[p]? = some b
  ap : Ap = some ⟨bP, oP, none⟩
  bPl : bP < wr.heap.size
  c0 : wr.cell? ⟨bP, oP + p * 2, none⟩ = some (.slice (some ⟨bk, ok, none⟩) nq cq)
  c1 : wr.cell? ⟨bP, oP + p * 2 + 1, none⟩ = some (.int .i64 (f.deep + 1 : Nat))
  far : Far wr (fun k => w.heap.size ≤ k) (some ⟨bk, ok, none⟩) nq lp
  nc : nq ≤ cq
  cm : cq ≤ maxLen
  keys : ls lp = b.2
  len : lp.length = nq
  pos : 0 < nq
  top : nq ≤ f.keys.length
  bkl : bk < wr.heap.size
  c2 : wr.cell? ⟨bk, ok, none⟩ = some (.string x)
  lab : T.letter x.toList f.deep = b.1
  hd : b.2.headD [] = x.toList
  q : qv = .slice (some ⟨bQ, 0, none⟩) es.length cQ
  qcap : es.length ≤ cQ ∧ cQ ≤ maxLen
  bQl : bQ < wr.heap.size
  c3 : wr.cell? ⟨bQ, N.length * 2 + 1, none⟩ = some (.int .i64 f.deep)
  at_ : N.length < es.length
  num : es.length = 1 + (N.flatMap T.kids).length + (((T.bs f).take p).filter T.goes).length

section
variable {w : World} {l : List ByteArray} {kp : Nat} {N q : List T.Fork} {f : T.Fork} {nv tv qv : Value} {wr : World} {es : List (Value × Nat)} {Qs : List (List ByteArray × Nat)} {ts : List Value} {Ap : Option Addr} {np : Nat} {esP : List (Value × Nat)} {qP : List (List ByteArray × Nat)} {p : Nat}
theorem TI.lens (P : TI w kp N q f nv tv qv wr es Qs ts Ap np esP qP p) (hc : N.length + (f :: q).length = 1 + (N.flatMap T.kids).length) : es.length = 1 + (N.flatMap T.kids).length + (((T.bs f).take p).filter T.goes).length ∧ np = (T.bs f).length := by
  have h1 := P.st.held.1
  have h2 := congrArg List.length P.fkq
  rw [fk_len, List.length_append, List.length_append] at h2
  unfold T.leads at h2
  rw [List.length_map] at h2
  have h3 := P.st.heldP.1
  have h4 := congrArg List.length P.fkP
  rw [fk_len, List.length_map] at h4
  have h5 := P.st.fsP.len
  exact ⟨by omega, by omega⟩
theorem TI.at_ (P : TI w kp N q f nv tv qv wr es Qs ts Ap np esP qP p) (hc : N.length + (f :: q).length = 1 + (N.flatMap T.kids).length) (hwf : T.WF f) (hp : p < (T.bs f).length) :
    ∃ b lp x bP oP bk ok nq cq bQ cQ, TAt w kp N f qv wr es Ap p b lp x bP oP bk ok nq cq bQ cQ := by
  obtain ⟨hle, hnp⟩ := P.lens hc
  have hpl : esP.length = np := P.st.fsP.len
  have hql := P.st.heldP.1
  have hpe : p < esP.length := by omega
  have hpq : p < qP.length := by omega
  obtain ⟨bP, oP, hAp, hbP, -, hc0, hc1⟩ := P.st.fsP.cell p hpe
  obtain ⟨he2, Aq, nq, cq, hes, hfar, hn1, hn2⟩ := P.st.heldP.2 p hpe hpq
  have hb : (T.bs f)[p]? = some (T.bs f)[p] := List.getElem?_eq_getElem hp
  generalize (T.bs f)[p] = b at hb
  have hqp : (⟨ls qP[p].1, qP[p].2⟩ : T.Fork) = ⟨b.2, f.deep + 1⟩ := by
    have := congrArg (·[p]?) P.fkP
    simp only [List.getElem?_map, hb, Option.map_some] at this
    unfold fk at this
    rw [List.getElem?_map, List.getElem?_eq_getElem hpq] at this
    exact Option.some.inj this
  injection hqp with hk hd
  have hbm : b ∈ T.brs f.deep f.keys := List.mem_of_getElem? hb
  obtain ⟨hne, heach⟩ := (T.brs_ok hwf).each b hbm
  have hlen : qP[p].1.length = nq := hfar.len
  have hlp : 0 < qP[p].1.length := by
    have := ls_len qP[p].1
    rw [hk] at this
    have := List.length_pos_iff.mpr hne
    omega
  obtain ⟨bk, ok, hAq, hbk, -, hck⟩ := hfar.cell 0 hlp
  rw [Nat.add_zero] at hck
  subst hAq
  have hx : qP[p].1[0].toList ∈ b.2 := by
    rw [← hk]
    unfold ls
    exact List.mem_map.mpr ⟨_, List.getElem_mem hlp, rfl⟩
  have hhd : b.2.headD [] = qP[p].1[0].toList := by rw [← hk]; exact headD_ls _ hlp
  -- the queue
  have hN : N.length < es.length := by
    have := congrArg List.length P.fkq
    rw [fk_len, List.length_append, List.length_append, List.length_cons] at this
    have := P.st.held.1
    omega
  have hNQ : N.length < Qs.length := by have := P.st.held.1; omega
  have hq1 := (P.st.held.2 N.length hN hNQ).1
  have hq2 : Qs[N.length].2 = f.deep := by
    have := congrArg (·[N.length]?) P.fkq
    rw [List.getElem?_append_left (by rw [List.length_append]; simp), List.getElem?_append_right (Nat.le_refl _), Nat.sub_self] at this
    unfold fk at this
    rw [List.getElem?_map, List.getElem?_eq_getElem hNQ] at this
    have e := Option.some.inj this
    exact congrArg T.Fork.deep e
  obtain ⟨A', cQ, hqv, hcQ1, hcQ2⟩ := Row.parts_ P.st.ownQ
  obtain ⟨bQ, cQ', hqv2, -, hbQ, hcellQ⟩ := Row.cell_ P.st.ownQ (cellsF_get es N.length hN).2 (by rw [cellsF_len]; exact Nat.le_refl _)
  have hce : cQ = cQ' := by rw [hqv] at hqv2; injection hqv2
  subst hce
  rw [hq1, hq2, Nat.mul_comm 2] at hcellQ
  rw [Nat.mul_comm 2, hes] at hc0
  rw [Nat.mul_comm 2, he2, hd] at hc1
  have htop : nq ≤ f.keys.length := by
    have h1 := T.branch_le (f := f) (b := b) hbm
    have h2 := ls_len qP[p].1
    rw [hk] at h2
    omega
  exact ⟨b, qP[p].1, qP[p].1[0], bP, oP, bk, ok, nq, cq, bQ, cQ, ⟨hb, hAp, hbP, hc0, hc1, hfar, hn1, hn2, hk, hlen, by omega, htop, hbk, hck, heach _ hx, hhd, hqv2, ⟨hcQ1, hcQ2⟩, hbQ, hcellQ, hN, hle⟩⟩

theorem take_at {b : T.Br} (h : (T.bs f)[p]? = some b) : (T.bs f).take (p + 1) = (T.bs f).take p ++ [b] := by rw [List.take_add_one, h]; rfl
/-- a branch that goes on -/
theorem TI.goes (P : TI w kp N q f nv tv qv wr es Qs ts Ap np esP qP p) {b : T.Br} {lp : List ByteArray} {x : ByteArray} {bP oP bk ok nq cq bQ cQ : Nat} (H : TAt w kp N f qv wr es Ap p b lp x bP oP bk ok nq cq bQ cQ) (hg : 1 < nq)
    {W w1 W2 w2 : World} {nv' qv' : Value} (hA : Agree wr W (fun _ => False)) (hO : W.os = wr.os ∧ W.tape = wr.tape ∧ W.output = wr.output)
    (ho : Row 165 1 w1 w.heap.size nv' (((T.nodeT kp f.deep (1 + (N.flatMap T.kids).length) ((T.bs f).take p)).map brV).length + 1) (((T.nodeT kp f.deep (1 + (N.flatMap T.kids).length) ((T.bs f).take p)).map brV) ++ [.iface 169 (.agg #[.int .u8 b.1.toNat, .int .i64 es.length])])) (hg1 : Grew W w1 nv nv')
    (hA2 : Agree w1 W2 (fun _ => False)) (hO2 : W2.os = w1.os ∧ W2.tape = w1.tape ∧ W2.output = w1.output)
    (ho2 : OwnK w2 w.heap.size qv' (es ++ [(.slice (some ⟨bk, ok, none⟩) nq cq, f.deep + 1)])) (hg2 : Grew W2 w2 qv qv') :
    TI w kp N q f nv' tv qv' w2 (es ++ [(.slice (some ⟨bk, ok, none⟩) nq cq, f.deep + 1)]) (Qs ++ [(lp, f.deep + 1)]) ts Ap np esP qP (p + 1) := by
  have hgo : T.goes b = true := by unfold T.goes; rw [← H.keys, ls_len, H.len]; exact decide_eq_true hg
  have S2 := (((P.st.quiet hA hO).node ho hg1).quiet hA2 hO2)
  have hln : ∀ k, nv.ownBlock = some k → w.heap.size ≤ k := fun k hk => (Row.lt_ P.st.ownN hk).1
  have hfar : Far W2 (fun k => w.heap.size ≤ k) (some ⟨bk, ok, none⟩) nq lp :=
    ((H.far.step hA (fun _ _ h => h.elim) (fun (_ : Nat) _ h => h)).step hg1.agree (fun k _ h => hln k h) (fun (_ : Nat) _ h => h)).step hA2 (fun _ _ h => h.elim) (fun (_ : Nat) _ h => h)
  have S3 := S2.queue hfar H.nc H.cm ho2 hg2
  refine ⟨?_, P.fkP, ?_⟩
  · rw [take_at H.br, T.leads_snoc, if_pos hgo, ← List.append_assoc, ← P.fkq, ← H.keys]
    unfold fk
    rw [List.map_append]; rfl
  · rw [take_at H.br, T.nodeT_snoc, List.map_append]
    have e : (T.nodeT kp f.deep (1 + (N.flatMap T.kids).length + (((T.bs f).take p).filter T.goes).length) [b]).map brV = [.iface 169 (.agg #[.int .u8 b.1.toNat, .int .i64 es.length])] := by
      unfold T.nodeT
      rw [if_pos hgo, ← H.num]
      rfl
    rw [e]
    exact S3
/-- a branch that ends -/
theorem TI.ends (P : TI w kp N q f nv tv qv wr es Qs ts Ap np esP qP p) {b : T.Br} {lp : List ByteArray} {x : ByteArray} {bP oP bk ok nq cq bQ cQ : Nat} (H : TAt w kp N f qv wr es Ap p b lp x bP oP bk ok nq cq bQ cQ) (hg : ¬ 1 < nq)
    {W w1 : World} {nv' : Value} (hA : Agree wr W (fun _ => False)) (hO : W.os = wr.os ∧ W.tape = wr.tape ∧ W.output = wr.output) (r : ByteArray) (hr : r = ba (T.restOf x.toList (f.deep + 1) kp))
    (ho : Row 165 1 w1 w.heap.size nv' (((T.nodeT kp f.deep (1 + (N.flatMap T.kids).length) ((T.bs f).take p)).map brV).length + 1) (((T.nodeT kp f.deep (1 + (N.flatMap T.kids).length) ((T.bs f).take p)).map brV) ++ [.iface 171 (.agg #[.int .u8 b.1.toNat, .string r, .bool (endW b.1 r kp)])])) (hg1 : Grew W w1 nv nv') :
    TI w kp N q f nv' tv qv w1 es Qs ts Ap np esP qP (p + 1) := by
  have hgo : ¬ T.goes b = true := by unfold T.goes; rw [← H.keys, ls_len, H.len]; simp; omega
  have S2 := ((P.st.quiet hA hO).node ho hg1)
  refine ⟨?_, P.fkP, ?_⟩
  · rw [take_at H.br, T.leads_snoc, if_neg hgo, List.append_nil]; exact P.fkq
  · rw [take_at H.br, T.nodeT_snoc, List.map_append]
    have e : (T.nodeT kp f.deep (1 + (N.flatMap T.kids).length + (((T.bs f).take p).filter T.goes).length) [b]).map brV = [.iface 171 (.agg #[.int .u8 b.1.toNat, .string r, .bool (endW b.1 r kp)])] := by
      unfold T.nodeT
      rw [if_neg hgo]
      have hrb : T.restB f.deep kp b = T.restOf x.toList (f.deep + 1) kp := by unfold T.restB; rw [H.hd]
      rw [hrb]
      show [brV (.en b.1 (T.restOf x.toList (f.deep + 1) kp) _)] = _
      unfold brV endW
      rw [hr, ba_l]
    rw [e]
    exact S2
/-- all branches of a node are done -/
theorem TI.done {A : Option Addr} {n c : Nat} (P : TI w kp N q f (.slice A n c) tv qv wr es Qs ts Ap np esP qP p) (hp : p = (T.bs f).length) (hgo : T.Going (ls l) N (f :: q)) (hc : N.length + (f :: q).length = 1 + (N.flatMap T.kids).length)
    {W w1 : World} {tv' : Value} (hA : Agree wr W (fun _ => False)) (hO : W.os = wr.os ∧ W.tape = wr.tape ∧ W.output = wr.output)
    (ho : Row 197 1 w1 w.heap.size tv' (ts.length + 1) (ts ++ [.slice A n c])) (hg1 : Grew W w1 tv tv') :
    TO w l kp tv' qv w1 (N ++ [f]) (q ++ T.kids f) es Qs (ts ++ [.slice A n c]) ∧ T.loads (q ++ T.kids f) < T.loads (f :: q) := by
  obtain ⟨g1, g2⟩ := T.going_next hgo
  have hfk := P.fkq
  have hst := P.st
  rw [hp, List.take_length] at hfk hst
  refine ⟨⟨g1, ?_, ?_, ?_⟩, g2⟩
  · rw [List.length_append, List.length_append, List.flatMap_append, List.length_append]
    simp at hc ⊢
    omega
  · rw [hfk]
    unfold T.kids T.bs
    simp [List.append_assoc]
  · rw [T.trN_snoc]
    exact (hst.quiet hA hO).tee ho hg1
/-- a node begins -/
theorem TO.begin (P : TO w l kp tv qv wr N (f :: q) es Qs ts) {w1 : World} {A : Option Addr} {n c : Nat} {qP : List (List ByteArray × Nat)} (hb : Below wr.heap.size wr w1) (ho : OwnK w1 wr.heap.size (.slice A n c) esP) (hh : Held w1 (fun k => w.heap.size ≤ k) esP qP)
    (hfk : fk qP = (T.brs f.deep f.keys).map fun b => ⟨b.2, f.deep + 1⟩) : TI w kp N q f (.slice none 0 0) tv qv w1 es Qs ts A n esP qP 0 := by
  refine ⟨?_, hfk, ?_⟩
  · rw [P.fkq, List.take_zero]
    show _ = (N ++ f :: q) ++ T.leads f.deep []
    unfold T.leads
    simp
  · rw [List.take_zero]
    exact P.st.parts hb ho hh
/-- the key set whose node begins -/
theorem TO.next (P : TO w l kp tv qv wr N (f :: q) es Qs ts) : ∃ Aq nq cq lq bQ cQ, Far wr (fun k => w.heap.size ≤ k) Aq nq lq ∧ nq ≤ cq ∧ cq ≤ maxLen ∧ f = ⟨ls lq, f.deep⟩ ∧ qv = .slice (some ⟨bQ, 0, none⟩) es.length cQ ∧ bQ < wr.heap.size ∧ N.length < es.length ∧
    wr.cell? ⟨bQ, N.length * 2, none⟩ = some (.slice Aq nq cq) ∧ wr.cell? ⟨bQ, N.length * 2 + 1, none⟩ = some (.int .i64 f.deep) := by
  have hN : N.length < es.length := by
    have := congrArg List.length P.fkq
    rw [fk_len, List.length_append, List.length_cons] at this
    have := P.st.held.1
    omega
  have hNQ : N.length < Qs.length := by have := P.st.held.1; omega
  obtain ⟨hq1, Aq, nq, cq, hes, hfar, h1, h2⟩ := P.st.held.2 N.length hN hNQ
  have hq2 : (⟨ls Qs[N.length].1, Qs[N.length].2⟩ : T.Fork) = f := by
    have := congrArg (·[N.length]?) P.fkq
    rw [List.getElem?_append_right (Nat.le_refl _), Nat.sub_self] at this
    unfold fk at this
    rw [List.getElem?_map, List.getElem?_eq_getElem hNQ] at this
    exact Option.some.inj this
  have hd : Qs[N.length].2 = f.deep := congrArg T.Fork.deep hq2
  obtain ⟨bQ, cQ, hqv, -, hbQ, hc0⟩ := Row.cell_ P.st.ownQ (cellsF_get es N.length hN).1 (by rw [cellsF_len]; exact Nat.le_refl _)
  obtain ⟨bQ', cQ', hqv', -, -, hc1⟩ := Row.cell_ P.st.ownQ (cellsF_get es N.length hN).2 (by rw [cellsF_len]; exact Nat.le_refl _)
  rw [hqv] at hqv'
  injection hqv' with e1 e2 e3
  injection e1 with e4
  injection e4 with e5
  subst e5
  rw [hes, Nat.mul_comm 2] at hc0
  rw [hq1, hd, Nat.mul_comm 2] at hc1
  exact ⟨Aq, nq, cq, Qs[N.length].1, bQ, cQ, hfar, h1, h2, by rw [← hd]; exact hq2.symm, hqv, hbQ, hN, hc0, hc1⟩
end

/-- a row of one struct of two cells that a literal lays -/
theorem row_lit2 (w : World) (base : Nat) (E : TypeId) (x y : Value) (hb : base ≤ w.heap.size) : Row E 2 (w.alloc (.cells #[x, y] E)) base (.slice (some ⟨w.heap.size, 0, none⟩) 1 1) 1 [x, y] :=
  ⟨rfl, .inr ⟨w.heap.size, 1, #[x, y], rfl, hb, heap_alloc_new w _, Nat.le_refl _, by unfold maxLen; omega, rfl, rfl⟩⟩
theorem TO.start {w : World} {l : List ByteArray} {A : Option Addr} {c : Nat} (kp : Nat) (hK : T.KeyL (ls l)) (hr : Strs w w.heap.size A l.length l) (h1 : l.length ≤ c) (h2 : c ≤ maxLen) :
    TO w l kp (.slice none 0 0) (.slice (some ⟨w.heap.size, 0, none⟩) 1 1) (w.alloc (.cells #[.slice A l.length c, .int .i64 0] 219)) [] [T.rootF (ls l)] [(.slice A l.length c, 0)] [(l, 0)] [] where
  going := T.going_zero hK
  cntq := rfl
  fkq := rfl
  st := {
    ownN := World.ownsRow_nil _ _ _ _
    ownQ := row_lit2 w _ _ _ _ (Nat.le_refl _)
    ownT := World.ownsRow_nil _ _ _ _
    nq := fun k h => by cases h
    nt := fun k h => by cases h
    qt := fun k _ h => by cases h
    held := Held.snoc (Held.nil _ _) ((Far.of_strs hr (Nat.le_refl _) (fun k hk h => by omega)).step ((Agree.refl w (fun _ => False)).alloc _) (fun _ _ h => h.elim) (fun _ _ h => h)) h1 h2
    heldT := HeldT.nil _ _
    fsP := FS.none_ _ _ _
    heldP := Held.nil _ _
    below := (Below.refl _ _).alloc (Nat.le_refl _) _ }

end Go.Proofs.YtfhpkcamigkmdaaGreatDoor.W

namespace Go.Proofs.YtfhpkcamigkmdaaGreatDoor.W
open Go.RowKit K

/-- a trie that was made -/
def TrieR (w : World) (t : T.Tr) (e : Ending) (w' : World) : Prop :=
  ∃ A n c, e = .returned (.slice A n c) ∧ Trs w' (fun k => w'.heap.size ≤ k) A n t ∧ n ≤ c ∧ c ≤ maxLen ∧ Below w.heap.size w w'
theorem branch_info : (Tryz.prog.info? 165).map (fun i => (i.zero, i.size, i.bytes)) = some (some .nilIface, 1, 16) := by kernel_rfl
theorem node_info : (Tryz.prog.info? 197).map (fun i => (i.zero, i.size, i.bytes)) = some (some (.slice none 0 0), 1, 24) := by kernel_rfl

theorem box_after {wi w1 : World} {o1 o2 : Obj} {m : Nat} {nv nv' : Value} (hn : ∀ k, nv.ownBlock = some k → k < wi.heap.size) (hg : Grew (((wi.alloc o1).drewN m).alloc o2) w1 nv nv') : w1.heap[wi.heap.size]? = some o1 := by
  have h0 : ((wi.alloc o1).drewN m).heap.size = wi.heap.size + 1 := by show (wi.alloc o1).heap.size = _; rw [World.size_alloc]
  have h1 : (((wi.alloc o1).drewN m).alloc o2).heap.size = wi.heap.size + 1 + 1 := by rw [World.size_alloc, h0]
  rw [hg.agree.block wi.heap.size (by omega) (fun h => by have := hn _ h; omega), Below.heap_alloc _ _ _ (by omega)]
  exact heap_alloc_new wi o1
theorem cell_new3 (w : World) (o : Obj) (m : Nat) (v : Value) (t : TypeId) : (((w.alloc o).drewN m).alloc (.cells #[v] t)).cell? ⟨w.heap.size + 1, 0, none⟩ = some v := by
  have h0 : ((w.alloc o).drewN m).heap.size = w.heap.size + 1 := by show (w.alloc o).heap.size = _; rw [World.size_alloc]
  have h := heap_alloc_new ((w.alloc o).drewN m) (.cells #[v] t)
  rw [h0] at h
  rw [cell_of_row _ _ _ _ _ _ h]; rfl
theorem quiet_more {P : Program} {f : FuncId} {args : Array Value} {w : World} {a n : Nat} {v : Value}
    (h : Calls P f args (w.drewN (a + n)) fun e w' => e = .returned v ∧ w.drewN (a + n) = w') : Calls P f args (w.drewN (a + n)) fun e w'' => e = .returned v ∧ ∃ m, w'' = w.drewN (a + m) :=
  h.mono fun _ _ ⟨he, hm⟩ => ⟨he, n, hm.symm⟩
theorem ext_take (y : T.Str) (m : Nat) : (ba y).extract 0 m = ba (y.take m) := by
  apply ba_ext
  rw [ext_l, ba_l, ba_l]; simp
theorem rest_min (x : T.Str) (d1 kp : Nat) : (ba (x.drop d1)).extract 0 (if (ba (x.drop d1)).size < kp then (((ba (x.drop d1)).size : Nat) : Int) else (kp : Int)).toNat = ba (T.restOf x d1 kp) := by
  rw [ext_take]
  unfold T.restOf
  congr 1
  by_cases h : (ba (x.drop d1)).size < kp
  · rw [if_pos h, Int.toNat_natCast, ba_len, List.take_of_length_le (Nat.le_refl _), List.take_of_length_le (by rw [ba_len] at h; omega)]
  · rw [if_neg h, Int.toNat_natCast]
theorem agree2 (wi : World) (o1 o2 : Obj) (m : Nat) : Agree wi (((wi.alloc o1).drewN m).alloc o2) (fun _ => False) := (((Agree.refl wi _).alloc o1).drewN m).alloc o2

set_option maxHeartbeats 4000000 in
set_option maxRecDepth 100000 in
theorem trieI (w : World) (n c : Nat) (A : Option Addr) (l : List ByteArray) (kp : Nat) (hr : Strs w w.heap.size A n l) (hnc : n ≤ c) (hcm : c ≤ maxLen) (hk1 : keysB l = true) (hkp : kp ≤ 5) :
    Calls Tryz.prog 179 #[.slice A n c, .int .i64 kp] w (TrieR w (T.trN kp 1 (T.forks (ls l)))) := by
  have hlen := hr.len
  subst hlen
  have HKL := Lib.hid (keyL_of hk1)
  have h24 : l.length ≤ 24 := (keys_iff.mp hk1).1
  have HLS := Lib.hid (show (ls l).length ≤ 24 by rw [ls_len]; exact h24)
  have HST := Lib.hid (TO.start kp HKL.out hr hnc hcm)
  clear hr hk1
  go_enter Tryz.func179, Tryz.ntmps179
  go_wp2
  go_loopg [5, 6, 7] (T.loads [T.rootF (ls l)]) (fun g tv qv av wr => ∃ N q es Qs ts, T.loads q ≤ g ∧ av = .int .i64 (N.length : Nat) ∧ TO w l kp tv qv wr N q es Qs ts)
  case atStart => exact ⟨[], _, _, _, _, Nat.le_refl _, rfl, HST.out⟩
  case round =>
    obtain ⟨N, q, es, Qs, ts, hg, rfl, P⟩ := hrel
    have HP := Lib.hid P
    have hle := going_le HKL.out HLS.out P.going
    obtain ⟨At, ct, htv, hct1, hct2⟩ := P.st.ownT.parts_
    subst htv
    have hsz := P.st.below.size
    have hesl : es.length = N.length + q.length := by
      have h1 := congrArg List.length P.fkq
      rw [fk_len, List.length_append] at h1
      have := P.st.held.1
      omega
    clear P
    cases q with
    | nil =>
      obtain ⟨Aq, cq, hqv, hcq1, hcq2⟩ := Row.parts_ HP.out.st.ownQ
      subst hqv
      have hnl : ¬ (N.length : Int) < (es.length : Int) := by simp at hesl; omega
      go_wp2
      go_ret
      refine ⟨At, ts.length, ct, rfl, ?_, hct1, hct2, HP.out.st.below⟩
      have h0 : HeldT wr (fun k => wr.heap.size ≤ k) ts (T.trN kp 1 N) := HP.out.st.heldT.step fun _ _ _ h => h.step (Agree.refl _ (fun _ => False)) (fun _ _ h => h.elim) (fun k hk h => by have h' : wr.heap.size ≤ k := h; omega)
      rw [T.going_end HP.out.going]
      exact h0.trs HP.out.st.ownT (fun k hk h => by have h' : wr.heap.size ≤ k := h; have := (Row.lt_ HP.out.st.ownT hk).2; omega)
    | cons f q =>
      obtain ⟨fks, d⟩ := f
      obtain ⟨Aq, nq, cq, lq, bQ, cQ, hfar, hc1, hc2, hfe, hqv, hbQ, hNe, hcell0, hcell1⟩ := HP.out.next
      injection hfe with hfe
      subst hfe hqv
      have hok := HP.out.going.ok ⟨ls lq, d⟩ (by simp)
      have hsub : (ls lq).length ≤ (ls l).length := HP.out.going.sub ⟨ls lq, d⟩ (by simp)
      have hd5 : d ≤ 5 := hok.2
      have hnq : nq ≤ 24 := by have h1 := hfar.len; have h2 := ls_len lq; have := HLS.out; omega
      have HPT := Lib.hid (partsI wr w.heap.size nq cq d Aq lq hfar hsz hc1 hc2 (by omega) (by omega) hok.1)
      have HOK := Lib.hid hok
      have HTS := Lib.hid (show ts.length ≤ 145 by have h := HP.out.st.heldT.1; rw [T.trN_len] at h; omega)
      have HFL := Lib.hid (show lq.length ≤ 24 by have h1 := hfar.len; omega)
      have HNUM := Lib.hid (show 1 + (N.flatMap T.kids).length ≤ 145 by have h := HP.out.cntq; simp only [List.length_cons] at h hle; omega)
      have hbsl : (T.bs ⟨ls lq, d⟩).length ≤ 24 := by have h1 := bs_le (f := ⟨ls lq, d⟩); have h2 : (ls lq).length ≤ 24 := by have := HLS.out; omega
                                                      exact Nat.le_trans h1 h2
      have hcnt := Lib.hid HP.out.cntq
      have hx0 : (0 : Int) ≤ (N.length : Int) := by omega
      have hx1 : (N.length : Int) < (es.length : Int) := by omega
      have hesn : es.length ≤ 145 := by omega
      clear hfar hok hsub hesl hle
      have HG := Lib.hid hg
      obtain ⟨an, han⟩ : ∃ a, a = N.length := ⟨_, rfl⟩
      rw [← han] at hcell0 hcell1 hx0 hx1 hNe ⊢
      have HAN := Lib.hid han
      clear hg han
      go_wp2_with fail
      go_at_call 197
      refine HPT.out.mono ?_
      rintro e w1 ⟨v1, esP, qP, rfl, hoP, hhP, hfkP, hb1⟩
      obtain ⟨A1, c1, hv1, -, -⟩ := Row.parts_ hoP
      subst hv1
      have HTI := Lib.hid (HP.out.begin hb1 hoP hhP hfkP)
      have hnp := (HTI.out.lens hcnt.out).2
      clear hoP hhP hfkP hb1 HPT hcell0 hcell1
      obtain ⟨np, hnpe⟩ : ∃ np, np = esP.length := ⟨_, rfl⟩
      rw [← hnpe] at HTI hnp ⊢
      have HNP := Lib.hid hnp
      clear hnpe hnp
      go_wp2
      go_loopw [6, 8, 28] (fun qv nv i wi => ∃ p es Qs, p ≤ np ∧ i = .int .i64 (p : Nat) ∧ TI w kp N q ⟨ls lq, d⟩ nv (.slice At ts.length ct) qv wi es Qs ts A1 np esP qP p) (fun _ _ i _ => np - (intOf i).toNat)
      case atStart => exact ⟨0, _, _, Nat.zero_le _, rfl, HTI.out⟩
      case round =>
        obtain ⟨p, es2, Qs2, hp, rfl, PI⟩ := hrel
        have HPI := Lib.hid PI
        have hszi := PI.st.below.size
        obtain ⟨An, cn, hnv, hcn1, hcn2⟩ := PI.st.ownN.parts_
        have hnl : ((T.nodeT kp d (1 + (N.flatMap T.kids).length) ((T.bs ⟨ls lq, d⟩).take p)).map brV).length = p := by
          rw [List.length_map, T.nodeT_len, List.length_take]; have := HNP.out; omega
        rw [hnl] at hnv
        subst hnv
        clear PI
        by_cases hpl : p < np
        · obtain ⟨b, lp, x, bP, oP, bk, ok, nk, ck, bR, cR, H⟩ := HPI.out.at_ hcnt.out HOK.out.1 (by rw [← HNP.out]; exact hpl)
          have hq2 := H.q
          have hap := H.ap
          subst hq2 hap
          obtain ⟨d1, hd1⟩ : ∃ d1 : Nat, d1 = d + 1 := ⟨_, rfl⟩
          have hc0 := H.c0
          have hc1 : wr.cell? ⟨bP, oP + p * 2 + 1, none⟩ = some (.int .i64 (d1 : Nat)) := by rw [hd1]; exact H.c1
          have hc2 := H.c2
          have hc3 : wr.cell? ⟨bR, an * 2 + 1, none⟩ = some (.int .i64 (d : Nat)) := by rw [HAN.out]; exact H.c3
          have kx : (wr.alloc (.cells #[.slice (some ⟨bk, ok, none⟩) nk ck, .int .i64 d1] 219)).cell? ⟨bk, ok, none⟩ = some (.string x) := by rw [World.cell?_of_block (w := wr) (a := ⟨bk, ok, none⟩) (Below.heap_alloc _ _ _ H.bkl)]; exact hc2
          have kq : (wr.alloc (.cells #[.slice (some ⟨bk, ok, none⟩) nk ck, .int .i64 d1] 219)).cell? ⟨bR, an * 2 + 1, none⟩ = some (.int .i64 (d : Nat)) := by rw [World.cell?_of_block (w := wr) (a := ⟨bR, an * 2 + 1, none⟩) (Below.heap_alloc _ _ _ H.bQl)]; exact hc3
          have HLB := Lib.hid (show ∀ W, Calls Tryz.prog 157 #[.string x, .int .i64 d] W fun e w' => e = .returned (.int .u8 b.1.toNat) ∧ W = w' from fun W => by have h := labelI x d W; rw [show T.letter x.toList d = b.1 from H.lab] at h; exact h)
          have hy0 : (0 : Int) ≤ (p : Int) := by omega
          have hy1 : (p : Int) < (np : Int) := by omega
          have hy2 : (an : Int) < (es2.length : Int) := by have := H.at_; have := HAN.out; omega
          have hy3 : (0 : Int) < (nk : Int) := by have := H.pos; omega
          have hnk : nk ≤ 24 := by have h1 := H.top; have h2 : (ls lq).length ≤ 24 := by rw [ls_len]; have := HFL.out; omega
                                   exact Nat.le_trans h1 h2
          have hnum : es2.length ≤ 1000 := by have h1 := H.num; have h2 : (((T.bs ⟨ls lq, d⟩).take p).filter T.goes).length ≤ p := Nat.le_trans (List.length_filter_le _ _) (by rw [List.length_take]; omega); have := HNUM.out; have := HNP.out; omega
          have hHN : ∀ k, (Value.slice An p cn).ownBlock = some k → k < wr.heap.size := fun k hk => (Row.lt_ HPI.out.st.ownN hk).2
          have HHN := Lib.hid hHN
          have HAT := Lib.hid H
          have HD1 := Lib.hid hd1
          have HNL := Lib.hid hnl
          have hd1s : d1 ≤ 6 := by omega
          have hp24 : np ≤ 24 := by have := HNP.out; omega
          clear H hd1 hHN hnl
          by_cases hgo : 1 < nk
          · have hgo2 : (nk : Int) > 1 := by omega
            go_wp2_with fail
            go_quiet ((go_at_call 157; exact quiet_mine (HLB.out _)))
            go_wp2_with (first
              | (at_builtin; refine app_one rfl (.tmp 46) (.tmp 52) 197 165 _ _ rfl Tryz.underlying197 branch_info rfl _ w.heap.size _ _ _ rfl (Row.agree HPI.out.st.ownN (agree2 _ _ _ _) (fun _ _ h => h)) _ _ _ rfl (cell_new3 _ _ _ _ _) rfl (by rw [HNL.out]; omega) (by decide) (by simp [World.drewN]; omega) ?_; intro nv' w2 hrow hg1; have hbx := box_after HHN.out hg1; have hx0' : w2.cell? ⟨wr.heap.size, 0, none⟩ = some (.slice (some ⟨bk, ok, none⟩) nk ck) := (by rw [cell_of_row _ _ _ _ _ _ hbx]; rfl); have hx1' : w2.cell? ⟨wr.heap.size, 1, none⟩ = some (.int .i64 (d1 : Nat)) := (by rw [cell_of_row _ _ _ _ _ _ hbx]; rfl); have HROW := Lib.hid hrow; have HG1 := Lib.hid hg1; have HQ1 := Lib.hid (Row.agree (Row.agree HPI.out.st.ownQ (agree2 _ _ _ _) (fun _ _ h => h)) hg1.agree (fun k h1 h2 => HPI.out.st.nq k h2 h1)); have hsz2 := hg1.grown.size; simp [World.drewN] at hsz2; clear hrow hg1 hbx)
              | (at_builtin; refine app_row rfl (.tmp 54) (.tmp 56) 220 219 2 _ _ rfl Tryz.underlying220 keySet_info rfl (by decide) _ w.heap.size _ _ _ rfl (Row.agree HQ1.out ((Agree.refl _ (fun _ => False)).alloc _) (fun _ _ h => h)) _ _ _ [.slice (some ⟨bk, ok, none⟩) nk ck, .int .i64 (d1 : Nat)] rfl rfl (news_two (heap_alloc_new _ _)) (fun u hu => by simp at hu; rcases hu with rfl | rfl <;> rfl) (by omega) (by decide) (by simp; omega) ?_; intro qv' w3 hrow2 hg2; have HROW2 := Lib.hid hrow2; have HG2 := Lib.hid hg2; clear hrow2 hg2))
            go_wp2
            go_roundw
            case rel =>
              have hd1 := HD1.out
              subst hd1
              refine ⟨p + 1, _, _, by omega, by go_num, HPI.out.goes HAT.out hgo (agree2 _ _ _ _) ⟨rfl, rfl, rfl⟩ HROW.out HG1.out ((Agree.refl _ (fun _ => False)).alloc _) ⟨rfl, rfl, rfl⟩ ?_ HG2.out⟩
              unfold OwnK
              rw [List.length_append, cellsF_append]
              exact HROW2.out
            case measure => simp [intOf]; omega
          · obtain rfl : nk = 1 := by omega
            clear hy3 hnk
            have HNE := Lib.hid (show ∀ (W : World) (r : ByteArray), W.heap = (wr.alloc (.cells #[.slice (some ⟨bk, ok, none⟩) 1 ck, .int .i64 d1] 219)).heap → W.os = wr.os ∧ W.tape = wr.tape ∧ W.output = wr.output → Calls Tryz.prog 186 #[.int .u8 b.1.toNat, .string r, .int .i64 kp] W fun e w' => e = .returned (.agg #[.int .u8 b.1.toNat, .string r, .bool (endW b.1 r kp)]) ∧ Agree wr w' (fun _ => False) ∧ (w'.os = wr.os ∧ w'.tape = wr.tape ∧ w'.output = wr.output) from fun W r hW hO =>
              (newE b.1 r kp W).mono fun e w' ⟨he, hb⟩ => ⟨he, (((Agree.refl wr (fun _ => False)).alloc _).trans (agree_heap _ hW)).trans (Agree.of_below hb _), hb.os.trans hO.1, hb.tape.trans hO.2.1, hb.output.trans hO.2.2⟩)
            obtain ⟨y, hy⟩ : ∃ y, y = ba (x.toList.drop d1) := ⟨_, rfl⟩
            have HFR := Lib.hid (show ∀ W, Calls Tryz.prog 159 #[.string x, .int .i64 (d1 : Nat)] W fun e w' => e = .returned (.string y) ∧ W = w' from fun W => by rw [hy]; exact fromI x d1 W (by omega))
            have HY := Lib.hid hy
            clear hy
            have kb0 : ∀ m, ((wr.alloc (.cells #[.slice (some ⟨bk, ok, none⟩) 1 ck, .int .i64 d1] 219)).drewN m).cell? ⟨wr.heap.size, 0, none⟩ = some (.slice (some ⟨bk, ok, none⟩) 1 ck) := fun m => by
              have h : ((wr.alloc (.cells #[.slice (some ⟨bk, ok, none⟩) 1 ck, .int .i64 d1] 219)).drewN m).heap[wr.heap.size]? = some (.cells #[.slice (some ⟨bk, ok, none⟩) 1 ck, .int .i64 d1] 219 (0, 0)) := heap_alloc_new wr _
              rw [cell_of_row _ _ _ _ _ _ h]; rfl
            have kb1 : ∀ m, ((wr.alloc (.cells #[.slice (some ⟨bk, ok, none⟩) 1 ck, .int .i64 d1] 219)).drewN m).cell? ⟨wr.heap.size, 1, none⟩ = some (.int .i64 (d1 : Nat)) := fun m => by
              have h : ((wr.alloc (.cells #[.slice (some ⟨bk, ok, none⟩) 1 ck, .int .i64 d1] 219)).drewN m).heap[wr.heap.size]? = some (.cells #[.slice (some ⟨bk, ok, none⟩) 1 ck, .int .i64 d1] 219 (0, 0)) := heap_alloc_new wr _
              rw [cell_of_row _ _ _ _ _ _ h]; rfl
            have kxm : ∀ m, ((wr.alloc (.cells #[.slice (some ⟨bk, ok, none⟩) 1 ck, .int .i64 d1] 219)).drewN m).cell? ⟨bk, ok, none⟩ = some (.string x) := fun m => kx
            go_wp2_with fail
            go_quiet ((go_at_call 157; exact quiet_mine (HLB.out _)))
            go_wp2_with fail
            go_quiet ((go_at_call 159; go_must (exact quiet_more (HFR.out _))))
            go_wp2_with (first
              | (go_at_call 186; go_must (refine Calls.mono (HNE.out _ _ (by rfl) ⟨by rfl, by rfl, by rfl⟩) ?_); rintro e w2 ⟨rfl, ha2, ho2⟩; have HA2 := Lib.hid ha2; have HO2 := Lib.hid ho2; have hsz2 := HA2.out.size; clear ha2 ho2)
              | (at_builtin; refine app_one rfl (.tmp 65) (.tmp 76) 197 165 _ _ rfl Tryz.underlying197 branch_info rfl _ w.heap.size _ _ _ rfl (Row.agree HPI.out.st.ownN (HA2.out.alloc _) (fun _ _ h => h)) _ _ _ rfl (cell_new _ _ _) rfl (by rw [HNL.out]; omega) (by decide) (by simp; omega) ?_; intro nv' w3 hrow hg1; have HROW := Lib.hid hrow; have HG1 := Lib.hid hg1; clear hrow hg1))
            all_goals
              go_wp2
              go_roundw
              case rel =>
                have hd1 := HD1.out
                subst hd1
                go_must (refine ⟨p + 1, _, _, by omega, by go_num, HPI.out.ends HAT.out (by omega) (HA2.out.alloc _) HO2.out _ ?_ HROW.out HG1.out⟩)
                rw [HY.out]
                exact rest_min _ _ _
              case measure => simp [intOf]; omega
        · have hpe : p = np := by omega
          subst hpe
          go_wp2_with (at_builtin; refine app_one rfl (.tmp 79) (.tmp 81) 133 197 _ _ rfl Tryz.underlying133 node_info rfl _ w.heap.size _ _ _ rfl (Row.agree HPI.out.st.ownT ((Agree.refl _ (fun _ => False)).alloc _) (fun _ _ h => h)) _ _ _ rfl (cell_new _ _ _) rfl (by have := HTS.out; omega) (by decide) (by simp; omega) ?_; intro tv' w2 hrow hg1; have HROW := Lib.hid hrow; have HG1 := Lib.hid hg1; clear hrow hg1)
          have HDN := Lib.hid (HPI.out.done (l := l) HNP.out HP.out.going hcnt.out ((Agree.refl _ (fun _ => False)).alloc _) ⟨rfl, rfl, rfl⟩ HROW.out HG1.out)
          go_wp2
          go_roundg (T.loads (q ++ T.kids ⟨ls lq, d⟩))
          case measure => have := HDN.out.2; have := HG.out; omega
          case rel => exact ⟨_, _, _, _, _, Nat.le_refl _, by rw [List.length_append, HAN.out]; go_num, HDN.out.1⟩

end Go.Proofs.YtfhpkcamigkmdaaGreatDoor.W
