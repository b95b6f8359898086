/-
  Plain mathematics of runs: the order of entries, joining, what was put last. No condition; nothing of the program is named here.
  Plain mathematics of runs: the keys, what can be found, what is there. No condition; nothing of the program is named here.
  Plain mathematics of runs: what is there at a time; the loops' partial results. No condition; nothing of the program is named here.
-/
import Derived.Test.YtklphdomjhliaaaDoorJ2
namespace Go.Proofs.YtklphdomjhliaaaDoor.R
open K

/-- an entry of a run -/
structure En where
  key : ByteArray
  val : Int
  gone : Bool
  time : Int
theorem En.ext' {a b : En} (h1 : a.key = b.key) (h2 : a.val = b.val) (h3 : a.gone = b.gone) (h4 : a.time = b.time) : a = b := by
  cases a; cases b; cases h1; cases h2; cases h3; cases h4; rfl
/-- an entry may be in a run -/
def okE (e : En) : Bool := keyB e.key && ((decide (0 ≤ e.val) && decide (e.val ≤ 99)) && ((!e.gone || decide (e.val = 0)) && (decide (1 ≤ e.time) && decide (e.time ≤ 999))))
/-- an entry stands ahead of another one -/
def ahead (a b : En) : Bool := lt a.key b.key || (eqs a.key b.key && decide (b.time < a.time))
/-- two entries are not of one key and one time -/
def apart (a b : En) : Prop := ¬ (a.key = b.key ∧ a.time = b.time)
theorem apart.symm {a b : En} (h : apart a b) : apart b a := fun e => h ⟨e.1.symm, e.2.symm⟩

theorem ahead_iff {a b : En} : ahead a b = true ↔ lt a.key b.key = true ∨ a.key = b.key ∧ b.time < a.time := by
  unfold ahead
  rw [Bool.or_eq_true, Bool.and_eq_true, eqs_iff, decide_eq_true_iff]
theorem ahead_trans {a b c : En} (h : ahead a b = true) (k : ahead b c = true) : ahead a c = true := by
  rw [ahead_iff] at *
  rcases h with h | ⟨h1, h2⟩ <;> rcases k with k | ⟨k1, k2⟩
  · exact .inl (lt_trans h k)
  · exact .inl (by rw [← k1]; exact h)
  · exact .inl (by rw [h1]; exact k)
  · exact .inr ⟨h1.trans k1, by omega⟩
theorem ahead_apart {a b : En} (h : ahead a b = true) : apart a b := by
  rintro ⟨e1, e2⟩
  rw [ahead_iff] at h
  rcases h with h | ⟨-, h⟩
  · rw [e1, lt_irrefl] at h; cases h
  · omega
theorem ahead_irrefl (a : En) : ahead a a = false := by
  rw [← Bool.not_eq_true]
  exact fun h => ahead_apart h ⟨rfl, rfl⟩
theorem ahead_asymm {a b : En} (h : ahead a b = true) : ahead b a = false := by
  rw [← Bool.not_eq_true]
  intro k
  have := ahead_trans h k
  rw [ahead_irrefl] at this; cases this
theorem ahead_total {a b : En} (h : apart a b) (k : ahead a b = false) : ahead b a = true := by
  rw [← Bool.not_eq_true, ahead_iff] at k
  rw [ahead_iff]
  rcases Bool.eq_false_or_eq_true (lt b.key a.key) with g | g
  · exact .inl g
  · have e : a.key = b.key := lt_total (by rw [← Bool.not_eq_true]; exact fun x => k (.inl x)) g
    refine .inr ⟨e.symm, ?_⟩
    have h1 : ¬ b.time < a.time := fun x => k (.inr ⟨e, x⟩)
    have h2 : ¬ a.time = b.time := fun x => h ⟨e, x⟩
    omega

/-- in the order of a run -/
def ord (r : List En) : Prop := r.Pairwise fun a b => ahead a b = true
def adjE : List En → Bool
  | a :: b :: t => ahead a b && adjE (b :: t)
  | _ => true
theorem ord_cons {a : En} {r : List En} : ord (a :: r) ↔ (∀ x ∈ r, ahead a x = true) ∧ ord r := List.pairwise_cons
theorem adj_ord : ∀ {r : List En}, adjE r = true ↔ ord r
  | [] => ⟨fun _ => List.Pairwise.nil, fun _ => rfl⟩
  | [a] => ⟨fun _ => List.pairwise_singleton _ _, fun _ => rfl⟩
  | a :: b :: t => by
    unfold adjE
    rw [Bool.and_eq_true, adj_ord]
    constructor
    · rintro ⟨h1, h2⟩
      refine ord_cons.mpr ⟨fun x hx => ?_, h2⟩
      rcases List.mem_cons.mp hx with rfl | hx
      · exact h1
      · exact ahead_trans h1 ((ord_cons.mp h2).1 x hx)
    · intro h
      obtain ⟨h1, h2⟩ := ord_cons.mp h
      exact ⟨h1 b (by simp), h2⟩
/-- entries are a run -/
def runB (r : List En) : Bool := decide (r.length ≤ 40) && (r.all okE && adjE r)
theorem run_iff {r : List En} : runB r = true ↔ r.length ≤ 40 ∧ (∀ e ∈ r, okE e = true) ∧ ord r := by
  unfold runB
  rw [Bool.and_eq_true, Bool.and_eq_true, decide_eq_true_iff, List.all_eq_true, adj_ord]
theorem ord_apart {r : List En} (h : ord r) : r.Pairwise apart := h.imp ahead_apart
/-- two entries of a run of one key and one time are one -/
theorem ord_inj : ∀ {r : List En} (_ : ord r) {x y : En}, x ∈ r → y ∈ r → x.key = y.key → x.time = y.time → x = y
  | a :: t, h, x, y, hx, hy, e1, e2 => by
    rw [ord_cons] at h
    rcases List.mem_cons.mp hx with gx | gx
    · rcases List.mem_cons.mp hy with gy | gy
      · rw [gx, gy]
      · have g := ahead_apart (h.1 y gy)
        rw [← gx] at g
        exact absurd ⟨e1, e2⟩ g
    · rcases List.mem_cons.mp hy with gy | gy
      · have g := ahead_apart (h.1 x gx)
        rw [← gy] at g
        exact absurd ⟨e1.symm, e2.symm⟩ g
      · exact ord_inj h.2 gx gy e1 e2
/-- what is in order is known by its members -/
theorem ord_ext : ∀ {a b : List En}, ord a → ord b → (∀ x, x ∈ a ↔ x ∈ b) → a = b
  | [], [], _, _, _ => rfl
  | [], y :: b, _, _, h => by have := (h y).mpr (by simp); cases this
  | x :: a, [], _, _, h => by have := (h x).mp (by simp); cases this
  | x :: a, y :: b, ha, hb, h => by
    rw [ord_cons] at ha hb
    have hxy : x = y := by
      rcases List.mem_cons.mp ((h x).mp (by simp)) with e | e
      · exact e
      · rcases List.mem_cons.mp ((h y).mpr (by simp)) with e' | e'
        · exact e'.symm
        · have h1 := hb.1 x e
          have h2 := ha.1 y e'
          rw [ahead_asymm h1] at h2; cases h2
    subst hxy
    congr 1
    refine ord_ext ha.2 hb.2 fun z => ?_
    constructor
    · intro hz
      rcases List.mem_cons.mp ((h z).mp (List.mem_cons_of_mem _ hz)) with e | e
      · subst e; have := ha.1 z hz; rw [ahead_irrefl] at this; cases this
      · exact e
    · intro hz
      rcases List.mem_cons.mp ((h z).mpr (List.mem_cons_of_mem _ hz)) with e | e
      · subst e; have := hb.1 z hz; rw [ahead_irrefl] at this; cases this
      · exact e
theorem ord_perm {a b : List En} (ha : ord a) (hb : ord b) (h : a.Perm b) : a = b := ord_ext ha hb fun _ => h.mem_iff

/-- two runs as one -/
def joinL (a : List En) : List En → List En
  | [] => a
  | y :: b => a.takeWhile (ahead · y) ++ y :: joinL (a.dropWhile (ahead · y)) b
theorem join_perm : ∀ (a b : List En), (joinL a b).Perm (a ++ b)
  | a, [] => by unfold joinL; rw [List.append_nil]
  | a, y :: b => by
    unfold joinL
    have h1 : (a.takeWhile (ahead · y) ++ y :: joinL (a.dropWhile (ahead · y)) b).Perm (a.takeWhile (ahead · y) ++ y :: (a.dropWhile (ahead · y) ++ b)) := List.Perm.append_left _ ((join_perm _ b).cons y)
    refine h1.trans ?_
    have h2 : (y :: (a.dropWhile (ahead · y) ++ b)).Perm (a.dropWhile (ahead · y) ++ y :: b) := List.perm_middle.symm
    refine (List.Perm.append_left _ h2).trans ?_
    rw [← List.append_assoc, List.takeWhile_append_dropWhile]
theorem mem_join {a b : List En} {x : En} : x ∈ joinL a b ↔ x ∈ a ∨ x ∈ b := by
  rw [(join_perm a b).mem_iff, List.mem_append]
theorem join_len (a b : List En) : (joinL a b).length = a.length + b.length := by
  rw [(join_perm a b).length_eq, List.length_append]
theorem drop_ahead {a : List En} {y : En} (ha : ord a) (hy : ∀ x ∈ a, apart x y) : ∀ x ∈ a.dropWhile (ahead · y), ahead y x = true := by
  intro x hx
  cases hd : a.dropWhile (ahead · y) with
  | nil => rw [hd] at hx; cases hx
  | cons z t =>
    have hsub : (z :: t).Sublist a := by rw [← hd]; exact List.dropWhile_sublist _
    have hz : ahead z y = false := by
      have := List.head_dropWhile_not (ahead · y) (l := a) (by rw [hd]; exact List.cons_ne_nil _ _)
      simp only [hd, List.head_cons] at this
      simpa using this
    have hyz : ahead y z = true := ahead_total (hy z (hsub.subset (by simp))) hz
    rw [hd] at hx
    rcases List.mem_cons.mp hx with rfl | hx
    · exact hyz
    · exact ahead_trans hyz ((ord_cons.mp (ha.sublist hsub)).1 x hx)
theorem join_ord : ∀ {a b : List En}, ord a → ord b → (∀ x ∈ a, ∀ y ∈ b, apart x y) → ord (joinL a b)
  | a, [], ha, _, _ => ha
  | a, y :: b, ha, hb, h => by
    unfold joinL
    have hb' := ord_cons.mp hb
    have hdw : ord (a.dropWhile (ahead · y)) := ha.sublist (List.dropWhile_sublist _)
    have htw : ord (a.takeWhile (ahead · y)) := ha.sublist (List.takeWhile_sublist _)
    have hin : ∀ x ∈ a.dropWhile (ahead · y), x ∈ a := fun x hx => (List.dropWhile_sublist _).subset hx
    have ih : ord (joinL (a.dropWhile (ahead · y)) b) := join_ord hdw hb'.2 fun x hx z hz => h x (hin x hx) z (List.mem_cons_of_mem _ hz)
    have hy : ∀ x ∈ joinL (a.dropWhile (ahead · y)) b, ahead y x = true := by
      intro x hx
      rcases mem_join.mp hx with hx | hx
      · exact drop_ahead ha (fun z hz => h z hz y (by simp)) x hx
      · exact hb'.1 x hx
    refine List.pairwise_append.mpr ⟨htw, ord_cons.mpr ⟨hy, ih⟩, fun x hx z hz => ?_⟩
    have hxy : ahead x y = true := by
      have := List.all_takeWhile (l := a) (p := (ahead · y))
      rw [List.all_eq_true] at this
      exact this x hx
    rcases List.mem_cons.mp hz with rfl | hz
    · exact hxy
    · exact ahead_trans hxy (hy z hz)
theorem join_apart {a b : List En} (h : ord (joinL a b)) : ∀ x ∈ a, ∀ y ∈ b, apart x y := by
  have h1 : (a ++ b).Pairwise apart := ((join_perm a b).pairwise_iff fun hx => hx.symm).mp (ord_apart h)
  exact (List.pairwise_append.mp h1).2.2
theorem join_iff {a b : List En} (ha : ord a) (hb : ord b) : ord (joinL a b) ↔ ∀ x ∈ a, ∀ y ∈ b, apart x y := ⟨join_apart, join_ord ha hb⟩
theorem join_comm {a b : List En} (ha : ord a) (hb : ord b) (h : ord (joinL a b)) : joinL b a = joinL a b := by
  have h2 : ord (joinL b a) := join_ord hb ha fun x hx y hy => (join_apart h y hy x hx).symm
  exact ord_ext h2 h fun x => by rw [mem_join, mem_join]; exact Or.comm
theorem join_none (a : List En) : joinL a [] = a := rfl
theorem run_join {a b : List En} (ha : runB a = true) (hb : runB b = true) : runB (joinL a b) = true ↔ a.length + b.length ≤ 40 ∧ ∀ x ∈ a, ∀ y ∈ b, apart x y := by
  rw [run_iff] at *
  rw [join_len, join_iff ha.2.2 hb.2.2]
  constructor
  · rintro ⟨h1, -, h3⟩; exact ⟨h1, h3⟩
  · rintro ⟨h1, h3⟩
    refine ⟨h1, fun e he => ?_, h3⟩
    rcases mem_join.mp he with he | he
    · exact ha.2.1 e he
    · exact hb.2.1 e he
/-- P30 -/
theorem run_back {a b : List En} (ha : runB a = true) (hb : runB b = true) (h : runB (joinL a b) = true) : joinL b a = joinL a b := join_comm (run_iff.mp ha).2.2 (run_iff.mp hb).2.2 (run_iff.mp h).2.2
/-- P32 -/
theorem join_three {a b c : List En} (ha : runB a = true) (hb : runB b = true) (hc : runB c = true) (h1 : runB (joinL a b) = true) (h2 : runB (joinL (joinL a b) c) = true) :
    runB (joinL b c) = true ∧ runB (joinL a (joinL b c)) = true ∧ joinL a (joinL b c) = joinL (joinL a b) c := by
  obtain ⟨l1, p1⟩ := (run_join ha hb).mp h1
  obtain ⟨l2, p2⟩ := (run_join h1 hc).mp h2
  rw [join_len] at l2
  have hbc : runB (joinL b c) = true := (run_join hb hc).mpr ⟨by omega, fun x hx y hy => p2 x (mem_join.mpr (.inr hx)) y hy⟩
  have habc : runB (joinL a (joinL b c)) = true := (run_join ha hbc).mpr ⟨by rw [join_len]; omega, fun x hx y hy => by
    rcases mem_join.mp hy with hy | hy
    · exact p1 x hx y hy
    · exact p2 x (mem_join.mpr (.inl hx)) y hy⟩
  refine ⟨hbc, habc, ord_ext (run_iff.mp habc).2.2 (run_iff.mp h2).2.2 fun x => ?_⟩
  simp only [mem_join]
  exact or_assoc.symm
/-- P28 -/
theorem run_part {r s : List En} (h : runB r = true) (hs : s.Sublist r) : runB s = true := by
  rw [run_iff] at *
  exact ⟨Nat.le_trans hs.length_le h.1, fun e he => h.2.1 e (hs.subset he), h.2.2.sublist hs⟩
theorem run_cut {r : List En} (h : runB r = true) (c : Nat) : runB (r.take c) = true ∧ runB (r.drop c) = true ∧ joinL (r.drop c) (r.take c) = r ∧ runB (joinL (r.drop c) (r.take c)) = true := by
  have h1 := run_part h (List.take_sublist c r)
  have h2 := run_part h (List.drop_sublist c r)
  have ho := (run_iff.mp h).2.2
  have e : joinL (r.drop c) (r.take c) = r := by
    have hp : (joinL (r.drop c) (r.take c)).Perm r := (join_perm _ _).trans (List.perm_append_comm.trans (by rw [List.take_append_drop]))
    refine ord_perm (join_ord (run_iff.mp h2).2.2 (run_iff.mp h1).2.2 fun x hx y hy => ?_) ho hp
    have hpw : (r.take c ++ r.drop c).Pairwise apart := by rw [List.take_append_drop]; exact ord_apart ho
    exact ((List.pairwise_append.mp hpw).2.2 y hy x hx).symm
  exact ⟨h1, h2, e, by rw [e]; exact h⟩

/-- what was put last of a key up to a time -/
def atL (r : List En) (k : ByteArray) (t : Int) : Option En := r.find? fun e => eqs e.key k && decide (e.time ≤ t)
theorem at_some {r : List En} {k : ByteArray} {t : Int} {e : En} (h : atL r k t = some e) : e ∈ r ∧ e.key = k ∧ e.time ≤ t := by
  have h1 := List.find?_some h
  rw [Bool.and_eq_true, eqs_iff, decide_eq_true_iff] at h1
  exact ⟨List.mem_of_find?_eq_some h, h1.1, h1.2⟩
theorem at_none {r : List En} {k : ByteArray} {t : Int} : atL r k t = none ↔ ∀ x ∈ r, x.key = k → ¬ x.time ≤ t := by
  unfold atL
  rw [List.find?_eq_none]
  constructor
  · intro h x hx e1 e2
    exact h x hx (by rw [Bool.and_eq_true, eqs_iff, decide_eq_true_iff]; exact ⟨e1, e2⟩)
  · intro h x hx e
    rw [Bool.and_eq_true, eqs_iff, decide_eq_true_iff] at e
    exact h x hx e.1 e.2
/-- P29 -/
theorem at_newest : ∀ {r : List En} {k : ByteArray} {t : Int} {e : En}, ord r → atL r k t = some e → ∀ x ∈ r, x.key = k → x.time ≤ t → x.time ≤ e.time
  | a :: r, k, t, e, ho, h, x, hx, e1, e2 => by
    rw [ord_cons] at ho
    unfold atL at h
    rw [List.find?_cons] at h
    cases hb : (eqs a.key k && decide (a.time ≤ t)) with
    | true =>
      rw [hb] at h
      injection h with h
      subst h
      rcases List.mem_cons.mp hx with rfl | hx
      · exact Int.le_refl _
      · have := ho.1 x hx
        rw [ahead_iff] at this
        rw [Bool.and_eq_true, eqs_iff] at hb
        rcases this with g | ⟨-, g⟩
        · rw [hb.1, e1, lt_irrefl] at g; cases g
        · omega
    | false =>
      rw [hb] at h
      rcases List.mem_cons.mp hx with rfl | hx
      · rw [Bool.and_eq_false_iff] at hb
        rcases hb with g | g
        · exact absurd e1 (eqs_false.mp g)
        · exact absurd e2 (of_decide_eq_false g)
      · exact at_newest ho.2 h x hx e1 e2
theorem at_iff {r : List En} {k : ByteArray} {t : Int} {e : En} (ho : ord r) : atL r k t = some e ↔ e ∈ r ∧ e.key = k ∧ e.time ≤ t ∧ ∀ x ∈ r, x.key = k → x.time ≤ t → x.time ≤ e.time := by
  constructor
  · intro h
    obtain ⟨h1, h2, h3⟩ := at_some h
    exact ⟨h1, h2, h3, at_newest ho h⟩
  · rintro ⟨h1, h2, h3, h4⟩
    cases hf : atL r k t with
    | none => exact absurd h3 (at_none.mp hf e h1 h2)
    | some f =>
      obtain ⟨g1, g2, g3⟩ := at_some hf
      have l1 := h4 f g1 g2 g3
      have l2 := at_newest ho hf e h1 h2 h3
      rw [ord_inj ho g1 h1 (g2.trans h2.symm) (by omega)]
/-- P39 -/
theorem at_more {r : List En} {k : ByteArray} {t : Int} {e : En} (ho : ord r) (h : atL r k t = some e) {u : Int} (hu : t ≤ u) : ∃ f, atL r k u = some f ∧ e.time ≤ f.time := by
  obtain ⟨h1, h2, h3⟩ := at_some h
  cases hf : atL r k u with
  | none => exact absurd (show e.time ≤ u by omega) (at_none.mp hf e h1 h2)
  | some f => exact ⟨f, rfl, at_newest ho hf e h1 h2 (by omega)⟩
theorem at_same {r : List En} {k : ByteArray} {t : Int} {e : En} (ho : ord r) (h : atL r k t = some e) : atL r k e.time = some e := by
  obtain ⟨h1, h2, h3⟩ := at_some h
  exact (at_iff ho).mpr ⟨h1, h2, Int.le_refl _, fun x _ _ h => h⟩
theorem at_zero {r : List En} (hr : runB r = true) (k : ByteArray) : atL r k 0 = none := by
  refine at_none.mpr fun x hx _ => ?_
  have h := (run_iff.mp hr).2.1 x hx
  unfold okE at h
  simp only [Bool.and_eq_true, decide_eq_true_iff] at h
  omega
/-- P31 -/
theorem at_join {a b : List En} (ha : ord a) (hb : ord b) (h : ord (joinL a b)) (k : ByteArray) (t : Int) :
    atL (joinL a b) k t = match atL a k t, atL b k t with
      | some f, some g => if g.time < f.time then some f else some g
      | some f, none => some f
      | none, o => o := by
  cases hf : atL a k t with
  | none =>
    cases hg : atL b k t with
    | none => exact at_none.mpr fun x hx => (mem_join.mp hx).elim (at_none.mp hf x) (at_none.mp hg x)
    | some g =>
      obtain ⟨g1, g2, g3, g4⟩ := (at_iff hb).mp hg
      refine (at_iff h).mpr ⟨mem_join.mpr (.inr g1), g2, g3, fun x hx e1 e2 => ?_⟩
      rcases mem_join.mp hx with hx | hx
      · exact absurd e2 (at_none.mp hf x hx e1)
      · exact g4 x hx e1 e2
  | some f =>
    obtain ⟨f1, f2, f3, f4⟩ := (at_iff ha).mp hf
    cases hg : atL b k t with
    | none =>
      refine (at_iff h).mpr ⟨mem_join.mpr (.inl f1), f2, f3, fun x hx e1 e2 => ?_⟩
      rcases mem_join.mp hx with hx | hx
      · exact f4 x hx e1 e2
      · exact absurd e2 (at_none.mp hg x hx e1)
    | some g =>
      obtain ⟨g1, g2, g3, g4⟩ := (at_iff hb).mp hg
      by_cases hlt : g.time < f.time
      · show atL (joinL a b) k t = if g.time < f.time then some f else some g
        rw [if_pos hlt]
        refine (at_iff h).mpr ⟨mem_join.mpr (.inl f1), f2, f3, fun x hx e1 e2 => ?_⟩
        rcases mem_join.mp hx with hx | hx
        · exact f4 x hx e1 e2
        · have := g4 x hx e1 e2; omega
      · show atL (joinL a b) k t = if g.time < f.time then some f else some g
        rw [if_neg hlt]
        refine (at_iff h).mpr ⟨mem_join.mpr (.inr g1), g2, g3, fun x hx e1 e2 => ?_⟩
        rcases mem_join.mp hx with hx | hx
        · have := f4 x hx e1 e2; omega
        · exact g4 x hx e1 e2

end Go.Proofs.YtklphdomjhliaaaDoor.R

namespace Go.Proofs.YtklphdomjhliaaaDoor.R
open K

/-- an entry, by its place -/
def en (r : List En) (i : Nat) : En := r.getD i ⟨⟨#[]⟩, 0, false, 0⟩
theorem en_at {r : List En} {i : Nat} (h : i < r.length) : en r i = r[i] := by
  unfold en
  rw [List.getD_eq_getElem?_getD, List.getElem?_eq_getElem h]; rfl
theorem en_mem {r : List En} {i : Nat} (h : i < r.length) : en r i ∈ r := by rw [en_at h]; exact List.getElem_mem h
theorem ord_lt {r : List En} (ho : ord r) {i j : Nat} (hi : i < j) (hj : j < r.length) : ahead (en r i) (en r j) = true := by
  rw [en_at hj, en_at (by omega)]
  exact (List.pairwise_iff_getElem.mp ho) i j (by omega) hj hi
/-- an entry is the first one of its key -/
def newAt (r : List En) (i : Nat) : Bool := decide (i = 0) || !eqs (en r (i - 1)).key (en r i).key
/-- the keys of the first entries -/
def keysUp (r : List En) (k : Nat) : List ByteArray := (List.range k).filterMap fun i => if newAt r i = true then some (en r i).key else none
def keysL (r : List En) : List ByteArray := keysUp r r.length
theorem keysUp_zero (r : List En) : keysUp r 0 = [] := rfl
theorem keysUp_new {r : List En} {k : Nat} (h : newAt r k = true) : keysUp r (k + 1) = keysUp r k ++ [(en r k).key] := by
  unfold keysUp
  rw [List.range_succ, List.filterMap_append]
  simp [h]
theorem keysUp_old {r : List En} {k : Nat} (h : newAt r k = false) : keysUp r (k + 1) = keysUp r k := by
  unfold keysUp
  rw [List.range_succ, List.filterMap_append]
  simp [h]
theorem mem_keysUp {r : List En} {k : Nat} {x : ByteArray} : x ∈ keysUp r k ↔ ∃ i, i < k ∧ newAt r i = true ∧ (en r i).key = x := by
  unfold keysUp
  rw [List.mem_filterMap]
  constructor
  · rintro ⟨i, hi, h⟩
    rw [List.mem_range] at hi
    by_cases hn : newAt r i = true
    · rw [if_pos hn] at h; injection h with h; exact ⟨i, hi, hn, h⟩
    · rw [if_neg hn] at h; cases h
  · rintro ⟨i, hi, hn, h⟩
    exact ⟨i, List.mem_range.mpr hi, by rw [if_pos hn, h]⟩
theorem new_first {r : List En} (i : Nat) : ∃ j, j ≤ i ∧ newAt r j = true ∧ (en r j).key = (en r i).key := by
  induction i with
  | zero => exact ⟨0, Nat.le_refl _, rfl, rfl⟩
  | succ i ih =>
    by_cases hn : newAt r (i + 1) = true
    · exact ⟨i + 1, Nat.le_refl _, hn, rfl⟩
    · obtain ⟨j, h1, h2, h3⟩ := ih
      refine ⟨j, by omega, h2, ?_⟩
      unfold newAt at hn
      simp at hn
      rw [h3]; exact eqs_iff.mp hn
theorem mem_keysL {r : List En} {x : ByteArray} : x ∈ keysL r ↔ ∃ e ∈ r, e.key = x := by
  unfold keysL
  rw [mem_keysUp]
  constructor
  · rintro ⟨i, hi, -, h⟩
    exact ⟨_, en_mem hi, h⟩
  · rintro ⟨e, he, h⟩
    obtain ⟨i, hi, rfl⟩ := List.getElem_of_mem he
    obtain ⟨j, h1, h2, h3⟩ := new_first (r := r) i
    exact ⟨j, by omega, h2, by rw [h3, en_at hi]; exact h⟩
theorem keysUp_asc {r : List En} (ho : ord r) : ∀ k, k ≤ r.length → asc (keysUp r k)
  | 0, _ => asc_nil
  | k + 1, hk => by
    have ih := keysUp_asc ho k (by omega)
    cases hn : newAt r k with
    | false => rw [keysUp_old hn]; exact ih
    | true =>
      rw [keysUp_new hn]
      refine List.pairwise_append.mpr ⟨ih, List.pairwise_singleton _ _, fun x hx y hy => ?_⟩
      rw [List.mem_singleton.mp hy]
      obtain ⟨j, hj, -, rfl⟩ := mem_keysUp.mp hx
      -- the one just ahead of k has a lesser key
      have hk0 : k ≠ 0 := by omega
      have hp : (en r (k - 1)).key ≠ (en r k).key := by
        unfold newAt at hn
        simp [hk0] at hn
        exact eqs_false.mp hn
      have h1 := ord_lt ho (show k - 1 < k by omega) (by omega)
      have h2 : lt (en r (k - 1)).key (en r k).key = true := by
        rcases ahead_iff.mp h1 with h | ⟨h, -⟩
        · exact h
        · exact absurd h hp
      rcases Nat.lt_or_ge j (k - 1) with hlt | hge
      · rcases ahead_iff.mp (ord_lt ho hlt (by omega)) with h | ⟨h, -⟩
        · exact lt_trans h h2
        · rw [h]; exact h2
      · rw [show j = k - 1 by omega]; exact h2
theorem keysL_asc {r : List En} (ho : ord r) : asc (keysL r) := keysUp_asc ho _ (Nat.le_refl _)
/-- P36 -/
theorem keys_sort {r : List En} (h : runB r = true) : sort (r.map (·.key)) = keysL r := by
  refine (sort_is (keysL_asc (run_iff.mp h).2.2) fun x => ?_).symm
  rw [mem_keysL, List.mem_map]
  constructor
  · rintro ⟨e, he, rfl⟩
    refine ⟨⟨e, he, rfl⟩, ?_⟩
    have := (run_iff.mp h).2.1 e he
    unfold okE at this
    rw [Bool.and_eq_true] at this
    exact this.1
  · rintro ⟨⟨e, he, h1⟩, -⟩
    exact ⟨e, he, h1⟩

/-- no entry of its key is newer -/
def isNewest (r : List En) (e : En) : Bool := r.all fun x => !eqs x.key e.key || decide (x.time ≤ e.time)
/-- it is what was put last up to a time -/
def foundAt (r : List En) (e : En) (t : Int) : Bool := decide (e.time ≤ t) && r.all fun x => !eqs x.key e.key || (decide (x.time ≤ e.time) || decide (t < x.time))
def seenE (r : List En) (times : List Int) (e : En) : Bool := isNewest r e || times.any (foundAt r e)
/-- what can be found at some times, or now -/
def visL (r : List En) (times : List Int) : List En := r.filter (seenE r times)
/-- no entry of its key is older -/
def isOldest (r : List En) (e : En) : Bool := r.all fun x => !eqs x.key e.key || decide (e.time ≤ x.time)
/-- without the last ones that were taken away -/
def bottomL (r : List En) : List En := r.filter fun e => !e.gone || !isOldest r e
def trimL (r : List En) (times : List Int) (bottom : Bool) : List En := if bottom = true then bottomL (visL r times) else visL r times

theorem newest_iff {r : List En} {e : En} : isNewest r e = true ↔ ∀ x ∈ r, x.key = e.key → x.time ≤ e.time := by
  unfold isNewest
  rw [List.all_eq_true]
  constructor
  · intro h x hx hk
    have := h x hx
    rw [eqs_iff.mpr hk] at this
    simpa using this
  · intro h x hx
    by_cases hk : x.key = e.key
    · simp [h x hx hk]
    · simp [eqs_false.mpr hk]
theorem oldest_iff {r : List En} {e : En} : isOldest r e = true ↔ ∀ x ∈ r, x.key = e.key → e.time ≤ x.time := by
  unfold isOldest
  rw [List.all_eq_true]
  constructor
  · intro h x hx hk
    have := h x hx
    rw [eqs_iff.mpr hk] at this
    simpa using this
  · intro h x hx
    by_cases hk : x.key = e.key
    · simp [h x hx hk]
    · simp [eqs_false.mpr hk]
theorem found_iff {r : List En} {e : En} {t : Int} : foundAt r e t = true ↔ e.time ≤ t ∧ ∀ x ∈ r, x.key = e.key → x.time ≤ t → x.time ≤ e.time := by
  unfold foundAt
  rw [Bool.and_eq_true, decide_eq_true_iff, List.all_eq_true]
  constructor
  · rintro ⟨h1, h⟩
    refine ⟨h1, fun x hx hk ht => ?_⟩
    have := h x hx
    rw [eqs_iff.mpr hk] at this
    simp at this
    omega
  · rintro ⟨h1, h⟩
    refine ⟨h1, fun x hx => ?_⟩
    by_cases hk : x.key = e.key
    · have := h x hx hk
      rw [eqs_iff.mpr hk]
      simp
      by_cases ht : x.time ≤ t
      · exact .inl (this ht)
      · exact .inr (by omega)
    · simp [eqs_false.mpr hk]
theorem at_found {r : List En} (ho : ord r) {k : ByteArray} {t : Int} {e : En} : atL r k t = some e ↔ e ∈ r ∧ e.key = k ∧ foundAt r e t = true := by
  rw [at_iff ho, found_iff]
  constructor
  · rintro ⟨h1, rfl, h3, h4⟩; exact ⟨h1, rfl, h3, h4⟩
  · rintro ⟨h1, rfl, h3, h4⟩; exact ⟨h1, rfl, h3, h4⟩
theorem mem_vis {r : List En} {times : List Int} {e : En} : e ∈ visL r times ↔ e ∈ r ∧ (isNewest r e = true ∨ ∃ t ∈ times, foundAt r e t = true) := by
  unfold visL seenE
  rw [List.mem_filter, Bool.or_eq_true, List.any_eq_true]
theorem vis_sub (r : List En) (times : List Int) : (visL r times).Sublist r := List.filter_sublist
theorem bot_sub (r : List En) : (bottomL r).Sublist r := List.filter_sublist
theorem trim_sub (r : List En) (times : List Int) (b : Bool) : (trimL r times b).Sublist r := by
  unfold trimL
  cases b with
  | true => exact (bot_sub _).trans (vis_sub r times)
  | false => exact vis_sub r times
theorem trim_run {r : List En} (h : runB r = true) (times : List Int) (b : Bool) : runB (trimL r times b) = true := run_part h (trim_sub r times b)
theorem trim_len (r : List En) (times : List Int) (b : Bool) : (trimL r times b).length ≤ (visL r times).length := by
  unfold trimL
  cases b with
  | true => exact (bot_sub _).length_le
  | false => exact Nat.le_refl _
/-- a smaller run with it in it finds it too -/
theorem at_sub {r v : List En} (ho : ord r) (hv : v.Sublist r) {k : ByteArray} {t : Int} (h : ∀ e, atL r k t = some e → e ∈ v) : atL v k t = atL r k t := by
  cases hr : atL r k t with
  | none => exact at_none.mpr fun x hx => at_none.mp hr x (hv.subset hx)
  | some e =>
    obtain ⟨h1, h2, h3, h4⟩ := (at_iff ho).mp hr
    exact (at_iff (ho.sublist hv)).mpr ⟨h e hr, h2, h3, fun x hx => h4 x (hv.subset hx)⟩
/-- P34: at the times that are kept -/
theorem vis_at {r : List En} (ho : ord r) {times : List Int} {t : Int} (ht : t ∈ times) (k : ByteArray) : atL (visL r times) k t = atL r k t := by
  refine at_sub ho (vis_sub r times) fun e he => ?_
  obtain ⟨h1, -, h3⟩ := (at_found ho).mp he
  exact mem_vis.mpr ⟨h1, .inr ⟨t, ht, h3⟩⟩
/-- and now -/
theorem vis_now {r : List En} (h : runB r = true) (times : List Int) (k : ByteArray) : atL (visL r times) k 999 = atL r k 999 := by
  obtain ⟨-, hok, ho⟩ := run_iff.mp h
  refine at_sub ho (vis_sub r times) fun e he => ?_
  obtain ⟨h1, h2, h3, h4⟩ := (at_iff ho).mp he
  refine mem_vis.mpr ⟨h1, .inl (newest_iff.mpr fun x hx hk => h4 x hx (hk.trans h2) ?_)⟩
  have := hok x hx
  unfold okE at this
  simp only [Bool.and_eq_true, decide_eq_true_iff] at this
  omega
/-- P33: at the bottom -/
theorem bot_at {v : List En} (ho : ord v) (k : ByteArray) (t : Int) :
    (∀ e, atL v k t = some e → e.gone = false → atL (bottomL v) k t = some e) ∧
    (∀ f, atL (bottomL v) k t = some f → f.gone = false → atL v k t = some f) := by
  have hb : ord (bottomL v) := ho.sublist (bot_sub v)
  constructor
  · intro e he hg
    obtain ⟨h1, h2, h3, h4⟩ := (at_iff ho).mp he
    refine (at_iff hb).mpr ⟨?_, h2, h3, fun x hx => h4 x ((bot_sub v).subset hx)⟩
    unfold bottomL
    rw [List.mem_filter, hg]
    exact ⟨h1, rfl⟩
  · intro f hf hg
    obtain ⟨h1, h2, h3, h4⟩ := (at_iff hb).mp hf
    have h1' := (bot_sub v).subset h1
    cases he : atL v k t with
    | none => exact absurd h3 (at_none.mp he f h1' h2)
    | some e =>
      obtain ⟨e1, e2, e3, e4⟩ := (at_iff ho).mp he
      have l1 := e4 f h1' h2 h3
      by_cases hin : e ∈ bottomL v
      · have l2 := h4 e hin e2 e3
        rw [ord_inj ho e1 h1' (e2.trans h2.symm) (by omega)]
      · -- it was left out: none of its key is older
        have hx : isOldest v e = true := by
          have hn : ¬ (e ∈ v ∧ (!e.gone || !isOldest v e) = true) := by
            intro hc; exact hin (by unfold bottomL; rw [List.mem_filter]; exact hc)
          rcases Bool.eq_false_or_eq_true (isOldest v e) with g | g
          · exact g
          · exact absurd ⟨e1, by rw [g]; simp⟩ hn
        have l3 := oldest_iff.mp hx f h1' (h2.trans e2.symm)
        rw [ord_inj ho e1 h1' (e2.trans h2.symm) (by omega)]
/-- P34: the keys -/
theorem newest_ex : ∀ {r : List En} {k : ByteArray}, (∃ e ∈ r, e.key = k) → ∃ e ∈ r, e.key = k ∧ ∀ x ∈ r, x.key = k → x.time ≤ e.time
  | a :: t, k, h => by
    by_cases ht : ∃ e ∈ t, e.key = k
    · obtain ⟨e, h1, h2, h3⟩ := newest_ex ht
      by_cases ha : a.key = k ∧ e.time < a.time
      · refine ⟨a, by simp, ha.1, fun x hx hk => ?_⟩
        rcases List.mem_cons.mp hx with rfl | hx
        · exact Int.le_refl _
        · have := h3 x hx hk; omega
      · refine ⟨e, List.mem_cons_of_mem _ h1, h2, fun x hx hk => ?_⟩
        rcases List.mem_cons.mp hx with rfl | hx
        · have : ¬ e.time < x.time := fun hc => ha ⟨hk, hc⟩
          omega
        · exact h3 x hx hk
    · obtain ⟨e, h1, h2⟩ := h
      rcases List.mem_cons.mp h1 with rfl | h1
      · refine ⟨e, by simp, h2, fun x hx hk => ?_⟩
        rcases List.mem_cons.mp hx with rfl | hx
        · exact Int.le_refl _
        · exact absurd ⟨x, hx, hk⟩ ht
      · exact absurd ⟨e, h1, h2⟩ ht
theorem vis_keys {r : List En} (ho : ord r) (times : List Int) : keysL (visL r times) = keysL r := by
  refine asc_ext (keysL_asc (ho.sublist (vis_sub r times))) (keysL_asc ho) fun x => ?_
  rw [mem_keysL, mem_keysL]
  constructor
  · rintro ⟨e, he, h⟩; exact ⟨e, (vis_sub r times).subset he, h⟩
  · intro h
    obtain ⟨e, h1, h2, h3⟩ := newest_ex h
    exact ⟨e, mem_vis.mpr ⟨h1, .inl (newest_iff.mpr fun x hx hk => h3 x hx (hk.trans h2))⟩, h2⟩
/-- P35: twice is once -/
theorem vis_vis (r : List En) (times : List Int) : visL (visL r times) times = visL r times := by
  show (visL r times).filter _ = visL r times
  rw [List.filter_eq_self]
  intro e he
  unfold seenE
  rw [Bool.or_eq_true, List.any_eq_true]
  rcases (mem_vis.mp he).2 with h | ⟨t, ht, h⟩
  · exact .inl (newest_iff.mpr fun x hx hk => newest_iff.mp h x ((vis_sub r times).subset hx) hk)
  · obtain ⟨h1, h2⟩ := found_iff.mp h
    exact .inr ⟨t, ht, found_iff.mpr ⟨h1, fun x hx => h2 x ((vis_sub r times).subset hx)⟩⟩
theorem few_keys {r : List En} (ho : ord r) : (visL r []).map (·.key) = keysL r := by
  have hv : ord (visL r []) := ho.sublist (vis_sub r [])
  refine asc_ext ?_ (keysL_asc ho) fun x => ?_
  · unfold asc
    rw [List.pairwise_map]
    refine List.Pairwise.imp_of_mem (fun {a b} ha hb h => ?_) hv
    rcases ahead_iff.mp h with h | ⟨h1, h2⟩
    · exact h
    · rcases (mem_vis.mp hb).2 with g | ⟨t, ht, -⟩
      · have := newest_iff.mp g a (mem_vis.mp ha).1 h1
        omega
      · cases ht
  · rw [← vis_keys ho [], mem_keysL, List.mem_map]
theorem few_len {r : List En} (ho : ord r) : (visL r []).length = (keysL r).length := by rw [← few_keys ho, List.length_map]
/-- a list with nothing twice is no longer than one with all of it -/
theorem nodup_le : ∀ {a b : List En}, a.Pairwise (· ≠ ·) → (∀ x ∈ a, x ∈ b) → a.length ≤ b.length
  | [], _, _, _ => Nat.zero_le _
  | x :: a, b, hp, h => by
    rw [List.pairwise_cons] at hp
    obtain ⟨s, t, rfl⟩ := List.append_of_mem (h x (by simp))
    have := nodup_le (b := s ++ t) hp.2 fun y hy => by
      have hy' := h y (List.mem_cons_of_mem _ hy)
      rw [List.mem_append, List.mem_cons] at hy'
      rw [List.mem_append]
      rcases hy' with g | g | g
      · exact .inl g
      · exact absurd g.symm (hp.1 y hy)
      · exact .inr g
    rw [List.length_append] at this
    rw [List.length_cons, List.length_append, List.length_cons]
    omega
theorem map_len (l : List ByteArray) (f : ByteArray → List En) (n : Nat) (h : ∀ k ∈ l, (f k).length ≤ n) : (l.flatMap f).length ≤ l.length * n := by
  induction l with
  | nil => simp
  | cons k l ih =>
    rw [List.flatMap_cons, List.length_append, List.length_cons]
    have h1 := h k (by simp)
    have h2 := ih fun x hx => h x (List.mem_cons_of_mem _ hx)
    rw [Nat.add_mul]
    omega
theorem vis_len {r : List En} (h : runB r = true) (times : List Int) : (visL r times).length ≤ (visL r []).length * (times.length + 1) := by
  obtain ⟨-, hok, ho⟩ := run_iff.mp h
  rw [few_len ho]
  have hv : ord (visL r times) := ho.sublist (vis_sub r times)
  refine Nat.le_trans (nodup_le (b := (keysL r).flatMap fun k => (999 :: times).filterMap fun t => atL r k t) ?_ fun e he => ?_) (map_len _ _ _ fun k _ => ?_)
  · exact hv.imp fun {a b} hab e => by rw [e, ahead_irrefl] at hab; cases hab
  · obtain ⟨h1, h2⟩ := mem_vis.mp he
    rw [List.mem_flatMap]
    refine ⟨e.key, mem_keysL.mpr ⟨e, h1, rfl⟩, ?_⟩
    rw [List.mem_filterMap]
    rcases h2 with h2 | ⟨t, ht, h2⟩
    · refine ⟨999, by simp, (at_iff ho).mpr ⟨h1, rfl, ?_, fun x hx hk _ => newest_iff.mp h2 x hx hk⟩⟩
      have := hok e h1
      unfold okE at this
      simp only [Bool.and_eq_true, decide_eq_true_iff] at this
      omega
    · exact ⟨t, List.mem_cons_of_mem _ ht, (at_found ho).mpr ⟨h1, rfl, h2⟩⟩
  · exact Nat.le_trans (List.length_filterMap_le _ _) (by simp)

end Go.Proofs.YtklphdomjhliaaaDoor.R

namespace Go.Proofs.YtklphdomjhliaaaDoor.R
open K

/-- what is there of a key -/
def pickE (r : List En) (f u : ByteArray) (t : Int) (k : ByteArray) : Option En :=
  match atL r k t with
  | some e => if (!e.gone && (!lt k f && !lt u k)) = true then some e else none
  | none => none
/-- all that is there -/
def listL (r : List En) (f u : ByteArray) (t : Int) : List En := (keysL r).filterMap (pickE r f u t)
theorem pick_some {r : List En} {f u k : ByteArray} {t : Int} {e : En} : pickE r f u t k = some e ↔ atL r k t = some e ∧ e.gone = false ∧ lt k f = false ∧ lt u k = false := by
  unfold pickE
  cases h : atL r k t with
  | none => simp
  | some x =>
    by_cases hc : (!x.gone && (!lt k f && !lt u k)) = true
    · simp only [hc, if_true]
      simp at hc
      constructor
      · intro g; injection g with g; subst g; exact ⟨rfl, hc.1, hc.2.1, hc.2.2⟩
      · rintro ⟨g, -⟩; exact g
    · simp only [hc]
      constructor
      · intro g; simp at g
      · rintro ⟨g, g1, g2, g3⟩
        injection g with g; subst g
        simp [g1, g2, g3] at hc
theorem pick_key {r : List En} {f u k : ByteArray} {t : Int} {e : En} (h : pickE r f u t k = some e) : e.key = k := (at_some (pick_some.mp h).1).2.1
theorem mem_list {r : List En} {f u : ByteArray} {t : Int} {e : En} : e ∈ listL r f u t ↔ atL r e.key t = some e ∧ e.gone = false ∧ lt e.key f = false ∧ lt u e.key = false := by
  unfold listL
  rw [List.mem_filterMap]
  constructor
  · rintro ⟨k, hk, h⟩
    have := pick_key h
    subst this
    exact pick_some.mp h
  · intro h
    exact ⟨e.key, mem_keysL.mpr ⟨e, (at_some h.1).1, rfl⟩, pick_some.mpr h⟩
theorem list_ord {r : List En} (ho : ord r) (f u : ByteArray) (t : Int) : ord (listL r f u t) := by
  unfold ord listL
  rw [List.pairwise_filterMap]
  refine (keysL_asc ho).imp fun {a b} hab x hx y hy => ?_
  exact ahead_iff.mpr (.inl (by rw [pick_key hx, pick_key hy]; exact hab))
theorem keysUp_len (r : List En) (k : Nat) : (keysUp r k).length ≤ k := by
  unfold keysUp
  exact Nat.le_trans (List.length_filterMap_le _ _) (by simp)
theorem list_run {r : List En} (h : runB r = true) (f u : ByteArray) (t : Int) : runB (listL r f u t) = true := by
  obtain ⟨h1, h2, h3⟩ := run_iff.mp h
  refine run_iff.mpr ⟨?_, fun e he => h2 e (at_some (mem_list.mp he).1).1, list_ord h3 f u t⟩
  have l1 : (listL r f u t).length ≤ (keysL r).length := List.length_filterMap_le _ _
  have l2 : (keysL r).length ≤ r.length := keysUp_len _ _
  omega
/-- P40 -/
theorem list_list {r : List En} (ho : ord r) (f u : ByteArray) (t : Int) : listL (listL r f u t) f u t = listL r f u t := by
  have hl := list_ord ho f u t
  refine ord_ext (list_ord hl f u t) hl fun e => ?_
  rw [mem_list]
  constructor
  · rintro ⟨h, -⟩; exact (at_some h).1
  · intro he
    obtain ⟨h1, h2, h3, h4⟩ := mem_list.mp he
    refine ⟨(at_iff hl).mpr ⟨he, rfl, (at_some h1).2.2, fun x hx hk _ => ?_⟩, h2, h3, h4⟩
    have hx1 := (mem_list.mp hx).1
    rw [hk, h1] at hx1
    injection hx1 with hx1
    rw [hx1]; exact Int.le_refl _
theorem list_zero {r : List En} (h : runB r = true) (f u : ByteArray) : listL r f u 0 = [] := by
  unfold listL
  rw [List.filterMap_eq_nil_iff]
  intro k _
  unfold pickE
  rw [at_zero h]
theorem list_time {r : List En} {f u : ByteArray} {t : Int} {e : En} (he : e ∈ listL r f u t) : e.time ≤ t ∧ e.gone = false := ⟨(at_some (mem_list.mp he).1).2.2, (mem_list.mp he).2.1⟩

/-- a letter behind a key: nothing of letters lies between -/
theorem next_l : ∀ {k x : List UInt8}, (∀ c ∈ x, 97 ≤ c.toNat) → (k < x ↔ ¬ x < k ++ [97])
  | [], [], _ => by constructor <;> intro h <;> simp at h
  | [], c :: x, h => by
    have hc := h c (by simp)
    constructor
    · intro _ hlt
      rw [List.nil_append, List.cons_lt_cons_iff] at hlt
      rcases hlt with g | ⟨-, g⟩
      · have : c.toNat < 97 := g; omega
      · simp at g
    · intro _; exact List.nil_lt_cons _ _
  | d :: k, [], _ => by
    constructor
    · intro h; simp at h
    · intro h; exact absurd (List.nil_lt_cons _ _) h
  | d :: k, c :: x, h => by
    rw [List.cons_append, List.cons_lt_cons_iff, List.cons_lt_cons_iff]
    have ih := next_l (k := k) (x := x) fun y hy => h y (List.mem_cons_of_mem _ hy)
    constructor
    · rintro (g | ⟨rfl, g⟩) (g2 | ⟨e2, g2⟩)
      · exact absurd (UInt8.lt_trans g g2) (UInt8.lt_irrefl _)
      · subst e2; exact absurd g (UInt8.lt_irrefl _)
      · exact absurd g2 (UInt8.lt_irrefl _)
      · exact ih.mp g g2
    · intro hn
      rcases (show d < c ∨ d = c ∨ c < d by rcases Nat.lt_trichotomy d.toNat c.toNat with g | g | g; exact .inl g; exact .inr (.inl (UInt8.toNat_inj.mp g)); exact .inr (.inr g)) with g | g | g
      · exact .inl g
      · subst g
        exact .inr ⟨rfl, ih.mpr fun g2 => hn (.inr ⟨rfl, g2⟩)⟩
      · exact absurd (.inl g) hn
/-- P38 -/
def upA (k : ByteArray) : ByteArray := k ++ ⟨#[97]⟩
theorem upA_l (k : ByteArray) : (upA k).toList = k.toList ++ [97] := by
  unfold upA
  simp [ByteArray.toList_eq]
theorem next_key {k x : ByteArray} (hx : keyB x = true) : lt x (upA k) = !lt k x := by
  have hl : ∀ c ∈ x.toList, 97 ≤ c.toNat := by
    unfold keyB at hx
    rw [Bool.and_eq_true, List.all_eq_true] at hx
    intro c hc
    have := hx.2 c (by rw [ByteArray.toList_eq] at hc; exact hc)
    unfold letterB at this
    rw [Bool.and_eq_true, decide_eq_true_iff] at this
    exact this.1
  have h := next_l (k := k.toList) hl
  rw [← upA_l] at h
  cases hk : lt k x with
  | true => simpa [← Bool.not_eq_true, lt_iff] using h.mp (lt_iff.mp hk)
  | false =>
    rw [← Bool.not_eq_true, lt_iff] at hk
    rw [Bool.not_false, lt_iff]
    exact Classical.byContradiction fun hc => hk (h.mpr hc)
theorem fm_congr {α β : Type} {f g : α → Option β} : ∀ {l : List α}, (∀ x ∈ l, f x = g x) → l.filterMap f = l.filterMap g
  | [], _ => rfl
  | a :: l, h => by
    rw [List.filterMap_cons, List.filterMap_cons, h a (by simp), fm_congr fun x hx => h x (List.mem_cons_of_mem _ hx)]
theorem split_asc {β : Type} (k : ByteArray) (g : ByteArray → Option β) : ∀ {l : List ByteArray}, asc l → l.filterMap g = l.filterMap (fun x => if lt k x = true then none else g x) ++ l.filterMap (fun x => if lt k x = true then g x else none)
  | [], _ => rfl
  | a :: l, h => by
    rw [asc_cons] at h
    cases ha : lt k a with
    | false =>
      have ih := split_asc k g h.2
      rw [List.filterMap_cons, List.filterMap_cons, List.filterMap_cons]
      simp only [ha]
      cases hg : g a with
      | none => simpa using ih
      | some y => simpa using ih
    | true =>
      have hall : ∀ x ∈ a :: l, lt k x = true := by
        intro x hx
        rcases List.mem_cons.mp hx with rfl | hx
        · exact ha
        · exact lt_trans ha (h.1 x hx)
      have n1 : (a :: l).filterMap (fun x => if lt k x = true then none else g x) = [] := by
        rw [List.filterMap_eq_nil_iff]
        intro x hx
        rw [if_pos (hall x hx)]
      rw [n1, List.nil_append]
      exact fm_congr fun x hx => by rw [if_pos (hall x hx)]
theorem list_cut {r : List En} (h : runB r = true) {f u k : ByteArray} (t : Int) (h1 : lt k f = false) (h2 : lt k u = true) : listL r f k t ++ listL r (upA k) u t = listL r f u t := by
  obtain ⟨-, hok, ho⟩ := run_iff.mp h
  unfold listL
  rw [split_asc k (pickE r f u t) (keysL_asc ho)]
  have key_of : ∀ x ∈ keysL r, keyB x = true := by
    intro x hx
    obtain ⟨e, he, rfl⟩ := mem_keysL.mp hx
    have := hok e he
    unfold okE at this
    rw [Bool.and_eq_true] at this
    exact this.1
  congr 1
  · refine fm_congr fun x hx => ?_
    unfold pickE
    cases hk : lt k x with
    | true => cases atL r x t <;> simp
    | false =>
      have hu : lt u x = false := by
        rw [← Bool.not_eq_true]
        intro hc
        have := lt_trans h2 hc
        rw [hk] at this; cases this
      cases atL r x t <;> simp [hu]
  · refine fm_congr fun x hx => ?_
    unfold pickE
    rw [next_key (key_of x hx)]
    cases hk : lt k x with
    | false => cases atL r x t <;> simp
    | true =>
      have hf : lt x f = false := by
        rw [← Bool.not_eq_true]
        intro hc
        have := lt_trans hk hc
        rw [h1] at this; cases this
      cases atL r x t <;> simp [hf]

/-- a loop that takes some entries, by their places -/
def selUp (r : List En) (p : Nat → Bool) (k : Nat) : List En := (List.range k).filterMap fun i => if p i = true then some (en r i) else none
theorem selUp_zero (r : List En) (p : Nat → Bool) : selUp r p 0 = [] := rfl
theorem selUp_yes {r : List En} {p : Nat → Bool} {k : Nat} (h : p k = true) : selUp r p (k + 1) = selUp r p k ++ [en r k] := by
  unfold selUp
  rw [List.range_succ, List.filterMap_append]
  simp [h]
theorem selUp_no {r : List En} {p : Nat → Bool} {k : Nat} (h : p k = false) : selUp r p (k + 1) = selUp r p k := by
  unfold selUp
  rw [List.range_succ, List.filterMap_append]
  simp [h]
theorem selUp_take {r : List En} {p : Nat → Bool} {q : En → Bool} (h : ∀ i, i < r.length → p i = q (en r i)) : ∀ k, k ≤ r.length → selUp r p k = (r.take k).filter q
  | 0, _ => by rw [selUp_zero]; simp
  | k + 1, hk => by
    have ih := selUp_take h k (by omega)
    have hp := h k (by omega)
    rw [List.take_succ_eq_append_getElem (by omega), List.filter_append, ← en_at (by omega : k < r.length)]
    cases hq : q (en r k) with
    | true => rw [selUp_yes (hp.trans hq), ih]; simp [hq]
    | false => rw [selUp_no (hp.trans hq), ih]; simp [hq]
theorem selUp_all {r : List En} {p : Nat → Bool} {q : En → Bool} (h : ∀ i, i < r.length → p i = q (en r i)) : selUp r p r.length = r.filter q := by
  rw [selUp_take h _ (Nat.le_refl _), List.take_length]
/-- an entry can be found, by its place -/
def seenI (r : List En) (times : List Int) (i : Nat) : Bool := newAt r i || times.any fun t => decide ((en r i).time ≤ t) && decide (t < (en r (i - 1)).time)
theorem mem_en {r : List En} {x : En} (hx : x ∈ r) : ∃ j, j < r.length ∧ en r j = x := by
  obtain ⟨j, hj, rfl⟩ := List.getElem_of_mem hx
  exact ⟨j, hj, en_at hj⟩
/-- of one key the newer stands ahead -/
theorem same_time {r : List En} (ho : ord r) {i j : Nat} (hij : i < j) (hj : j < r.length) (hk : (en r i).key = (en r j).key) : (en r j).time < (en r i).time := by
  rcases ahead_iff.mp (ord_lt ho hij hj) with h | ⟨-, h⟩
  · rw [hk, lt_irrefl] at h; cases h
  · exact h
/-- entries of one key stand together -/
theorem same_between {r : List En} (ho : ord r) {i j m : Nat} (hij : i ≤ m) (hmj : m ≤ j) (hj : j < r.length) (hk : (en r i).key = (en r j).key) : (en r m).key = (en r j).key := by
  rcases Nat.lt_or_ge i m with h1 | h1
  · rcases Nat.lt_or_ge m j with h2 | h2
    · rcases ahead_iff.mp (ord_lt ho h1 (by omega)) with g | ⟨g, -⟩
      · rcases ahead_iff.mp (ord_lt ho h2 hj) with g2 | ⟨g2, -⟩
        · have := lt_trans g g2
          rw [hk, lt_irrefl] at this; cases this
        · exact g2
      · rw [← g]; exact hk
    · rw [show m = j by omega]
  · rw [show m = i by omega]; exact hk
theorem new_newest {r : List En} (ho : ord r) {i : Nat} (hi : i < r.length) : newAt r i = isNewest r (en r i) := by
  rw [Bool.eq_iff_iff, newest_iff]
  constructor
  · intro hn x hx hk
    obtain ⟨j, hj, rfl⟩ := mem_en hx
    rcases Nat.lt_trichotomy j i with h | h | h
    · have hb := same_between ho (show j ≤ i - 1 by omega) (by omega) hi hk
      unfold newAt at hn
      rw [Bool.or_eq_true, decide_eq_true_iff] at hn
      rcases hn with h0 | h0
      · omega
      · rw [eqs_iff.mpr hb] at h0; cases h0
    · subst h; exact Int.le_refl _
    · have := same_time ho h hj hk.symm; omega
  · intro h
    unfold newAt
    rw [Bool.or_eq_true, decide_eq_true_iff]
    by_cases h0 : i = 0
    · exact .inl h0
    · refine .inr ?_
      rw [Bool.not_eq_true', eqs_false]
      intro hk
      have h1 := same_time ho (show i - 1 < i by omega) hi hk
      have h2 := h _ (en_mem (show i - 1 < r.length by omega)) hk
      omega
theorem seen_is {r : List En} (ho : ord r) (times : List Int) (i : Nat) (hi : i < r.length) : seenI r times i = seenE r times (en r i) := by
  unfold seenI seenE
  rw [← new_newest ho hi]
  cases hn : newAt r i with
  | true => rfl
  | false =>
    rw [Bool.false_or, Bool.false_or]
    unfold newAt at hn
    rw [Bool.or_eq_false_iff, decide_eq_false_iff_not, Bool.not_eq_false', eqs_iff] at hn
    obtain ⟨h0, hk⟩ := hn
    congr 1
    funext t
    rw [Bool.eq_iff_iff, Bool.and_eq_true, decide_eq_true_iff, decide_eq_true_iff, found_iff]
    have hp := en_mem (show i - 1 < r.length by omega)
    have hlt := same_time ho (show i - 1 < i by omega) hi hk
    constructor
    · rintro ⟨h1, h2⟩
      refine ⟨h1, fun x hx hxk hxt => ?_⟩
      obtain ⟨j, hj, rfl⟩ := mem_en hx
      rcases Nat.lt_trichotomy j i with h | h | h
      · rcases Nat.lt_or_ge j (i - 1) with g | g
        · have := same_time ho g (by omega) (hxk.trans hk.symm)
          omega
        · rw [show j = i - 1 by omega] at hxt; omega
      · subst h; exact Int.le_refl _
      · have := same_time ho h hj hxk.symm; omega
    · rintro ⟨h1, h2⟩
      refine ⟨h1, ?_⟩
      have := h2 _ hp hk
      omega
theorem vis_is {r : List En} (ho : ord r) (times : List Int) : selUp r (seenI r times) r.length = visL r times := selUp_all fun i hi => seen_is ho times i hi
/-- an entry is the last one of its key, by its place -/
def lastI (r : List En) (i : Nat) : Bool := decide (r.length ≤ i + 1) || !eqs (en r (i + 1)).key (en r i).key
theorem last_oldest {r : List En} (ho : ord r) {i : Nat} (hi : i < r.length) : lastI r i = isOldest r (en r i) := by
  rw [Bool.eq_iff_iff, oldest_iff]
  unfold lastI
  rw [Bool.or_eq_true, decide_eq_true_iff, Bool.not_eq_true', eqs_false]
  constructor
  · intro hn x hx hk
    obtain ⟨j, hj, rfl⟩ := mem_en hx
    rcases Nat.lt_trichotomy j i with h | h | h
    · have := same_time ho h hi hk; omega
    · subst h; exact Int.le_refl _
    · rcases hn with h0 | h0
      · omega
      · have := same_between ho (show i ≤ i + 1 by omega) (show i + 1 ≤ j by omega) hj hk.symm
        exact absurd (this.trans hk) h0
  · intro h
    by_cases h0 : r.length ≤ i + 1
    · exact .inl h0
    · refine .inr fun hk => ?_
      have h1 := same_time ho (show i < i + 1 by omega) (by omega) hk.symm
      have h2 := h _ (en_mem (show i + 1 < r.length by omega)) hk
      omega
theorem bot_is {v : List En} (ho : ord v) : selUp v (fun i => !(en v i).gone || !lastI v i) v.length = bottomL v :=
  selUp_all fun i hi => by rw [last_oldest ho hi]

end Go.Proofs.YtklphdomjhliaaaDoor.R

