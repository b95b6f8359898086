/-
  Plain mathematics of keys: the order of strings, key lists, putting a key in its place, sorting. No condition; nothing of the program is named here.
-/
import Derived.Laws.Strings
namespace Go.Proofs.Ytipkhpijanhfiaa.K

/-- the order of strings -/
def lt (a b : ByteArray) : Bool := Op.bytesLess a.toList b.toList
/-- strings are the same -/
def eqs (a b : ByteArray) : Bool := a.toList == b.toList

theorem less_eq : ∀ (x y : List UInt8), Op.bytesLess x y = decide (x < y)
  | [], [] => by simp [Op.bytesLess]
  | _ :: _, [] => by simp [Op.bytesLess]
  | [], _ :: _ => by simp [Op.bytesLess]
  | a :: x, b :: y => by
    rw [Op.bytesLess, less_eq x y]
    simp only [List.cons_lt_cons_iff]
    by_cases h1 : a < b <;> by_cases h2 : a = b <;> by_cases h3 : x < y <;> simp [h1, h2, h3]

theorem ba_ext {a b : ByteArray} (h : a.toList = b.toList) : a = b := by
  rw [ByteArray.toList_eq, ByteArray.toList_eq] at h
  cases a; cases b
  simp only [Array.toList_inj] at h
  rw [h]
theorem eqs_iff {a b : ByteArray} : eqs a b = true ↔ a = b := by
  unfold eqs; simp only [beq_iff_eq]; exact ⟨ba_ext, fun h => by rw [h]⟩
theorem eqs_self (a : ByteArray) : eqs a a = true := eqs_iff.mpr rfl
theorem eqs_false {a b : ByteArray} : eqs a b = false ↔ a ≠ b := by
  rw [← Bool.not_eq_true, eqs_iff]

theorem lt_iff {a b : ByteArray} : lt a b = true ↔ a.toList < b.toList := by unfold lt; rw [less_eq]; simp
theorem lt_irrefl (a : ByteArray) : lt a a = false := by
  rw [← Bool.not_eq_true, lt_iff]; exact List.lt_irrefl _
theorem lt_trans {a b c : ByteArray} (h : lt a b = true) (k : lt b c = true) : lt a c = true := by
  rw [lt_iff] at *; exact List.lt_trans h k
theorem lt_asymm {a b : ByteArray} (h : lt a b = true) : lt b a = false := by
  rw [← Bool.not_eq_true]; intro k
  have := lt_trans h k
  rw [lt_irrefl] at this; cases this
theorem lt_total {a b : ByteArray} (h : lt a b = false) (k : lt b a = false) : a = b := by
  rw [← Bool.not_eq_true, lt_iff] at h k
  exact ba_ext (List.le_antisymm (List.not_lt.mp k) (List.not_lt.mp h))
theorem lt_ne {a b : ByteArray} (h : lt a b = true) : a ≠ b := by
  rintro rfl; rw [lt_irrefl] at h; cases h
theorem lt_of_not {a b : ByteArray} (h : lt a b = false) (k : a ≠ b) : lt b a = true := by
  cases e : lt b a with
  | true => rfl
  | false => exact absurd (lt_total h e) k
/-- not ahead of one that is not ahead -/
theorem le_trans {a b c : ByteArray} (h : lt b a = false) (k : lt c b = false) : lt c a = false := by
  cases e : lt c a with
  | false => rfl
  | true =>
    by_cases hab : a = b
    · subst hab; rw [e] at k; cases k
    · have := lt_trans e (lt_of_not h (fun x => hab x.symm))
      rw [this] at k; cases k

/-- strictly ascending -/
def asc (l : List ByteArray) : Prop := l.Pairwise (fun a b => lt a b = true)
theorem asc_nil : asc [] := List.Pairwise.nil
theorem asc_cons {a : ByteArray} {l : List ByteArray} : asc (a :: l) ↔ (∀ x ∈ l, lt a x = true) ∧ asc l := List.pairwise_cons

/-- an ascending list is known by its members -/
theorem asc_ext : ∀ {a b : List ByteArray}, asc a → asc b → (∀ x, x ∈ a ↔ x ∈ b) → a = b
  | [], [], _, _, _ => rfl
  | [], y :: b, _, _, h => by have := (h y).mpr (by simp); cases this
  | x :: a, [], _, _, h => by have := (h x).mp (by simp); cases this
  | x :: a, y :: b, ha, hb, h => by
    rw [asc_cons] at ha hb
    have hxy : x = y := by
      rcases List.mem_cons.mp ((h x).mp (by simp)) with e | e
      · exact e
      · rcases List.mem_cons.mp ((h y).mpr (by simp)) with e' | e'
        · exact e'.symm
        · have h1 := hb.1 x e
          have h2 := ha.1 y e'
          rw [lt_asymm h1] at h2; cases h2
    subst hxy
    congr 1
    refine asc_ext ha.2 hb.2 fun z => ?_
    constructor
    · intro hz
      rcases List.mem_cons.mp ((h z).mp (List.mem_cons_of_mem _ hz)) with e | e
      · subst e; exact absurd rfl (lt_ne (ha.1 z hz))
      · exact e
    · intro hz
      rcases List.mem_cons.mp ((h z).mpr (List.mem_cons_of_mem _ hz)) with e | e
      · subst e; exact absurd rfl (lt_ne (hb.1 z hz))
      · exact e

/-- a string is a key -/
def letterB (c : UInt8) : Bool := decide (97 ≤ c.toNat) && decide (c.toNat ≤ 100)
def keyB (s : ByteArray) : Bool := decide (s.size ≤ 5) && s.data.toList.all letterB
/-- each is ahead of the next -/
def adjB : List ByteArray → Bool
  | [] => true
  | [_] => true
  | a :: b :: t => lt a b && adjB (b :: t)
/-- strings are a key list -/
def keysB (l : List ByteArray) : Bool := decide (l.length ≤ 24) && (l.all keyB && adjB l)

theorem adj_asc : ∀ {l : List ByteArray}, adjB l = true ↔ asc l
  | [] => by simp [adjB, asc_nil]
  | [a] => by simp [adjB, asc]
  | a :: b :: t => by
    have ih := adj_asc (l := b :: t)
    simp only [adjB, Bool.and_eq_true, ih]
    rw [asc_cons (a := a), asc_cons]
    constructor
    · rintro ⟨h, k⟩
      refine ⟨fun x hx => ?_, k⟩
      rcases List.mem_cons.mp hx with rfl | hx
      · exact h
      · exact lt_trans h (k.1 x hx)
    · rintro ⟨h, k⟩
      exact ⟨h b (by simp), k⟩

theorem keys_iff {l : List ByteArray} : keysB l = true ↔ l.length ≤ 24 ∧ (∀ x ∈ l, keyB x = true) ∧ asc l := by
  unfold keysB
  simp only [Bool.and_eq_true, decide_eq_true_eq, List.all_eq_true, adj_asc]

/-- a key laid ahead of the first that is behind it -/
def ins : List ByteArray → ByteArray → List ByteArray
  | [], k => [k]
  | h :: t, k => if lt k h = true then k :: h :: t else h :: ins t k
/-- a key put in its place, if it is not there -/
def put (l : List ByteArray) (k : ByteArray) : List ByteArray := if l.any (eqs · k) = true then l else ins l k
/-- those that are keys, each once, in order -/
def sort (l : List ByteArray) : List ByteArray := l.foldl (fun out k => if keyB k = true then put out k else out) []

theorem any_eqs {l : List ByteArray} {k : ByteArray} : l.any (eqs · k) = true ↔ k ∈ l := by
  rw [List.any_eq_true]
  constructor
  · rintro ⟨x, hx, e⟩; rw [eqs_iff] at e; subst e; exact hx
  · intro h; exact ⟨k, h, eqs_self k⟩
theorem mem_ins {l : List ByteArray} {k x : ByteArray} : x ∈ ins l k ↔ x = k ∨ x ∈ l := by
  induction l with
  | nil => simp [ins]
  | cons h t ih =>
    unfold ins
    split
    · simp
    · simp only [List.mem_cons, ih]
      constructor
      · rintro (e | e | e)
        · exact .inr (.inl e)
        · exact .inl e
        · exact .inr (.inr e)
      · rintro (e | e | e)
        · exact .inr (.inl e)
        · exact .inl e
        · exact .inr (.inr e)
theorem length_ins (l : List ByteArray) (k : ByteArray) : (ins l k).length = l.length + 1 := by
  induction l with
  | nil => rfl
  | cons h t ih => unfold ins; split <;> simp [ih]
theorem asc_ins {l : List ByteArray} {k : ByteArray} (h : asc l) (hk : k ∉ l) : asc (ins l k) := by
  induction l with
  | nil => simp [ins, asc]
  | cons a t ih =>
    rw [asc_cons] at h
    unfold ins
    split
    · rename_i hlt
      rw [asc_cons, asc_cons]
      refine ⟨fun x hx => ?_, h⟩
      rcases List.mem_cons.mp hx with rfl | hx
      · exact hlt
      · exact lt_trans hlt (h.1 x hx)
    · rename_i hlt
      rw [asc_cons]
      refine ⟨fun x hx => ?_, ih h.2 (fun e => hk (List.mem_cons_of_mem _ e))⟩
      rcases mem_ins.mp hx with rfl | hx
      · exact lt_of_not (by simpa using hlt) (fun e => hk (by rw [e]; simp))
      · exact h.1 x hx
theorem mem_put {l : List ByteArray} {k x : ByteArray} : x ∈ put l k ↔ x = k ∨ x ∈ l := by
  unfold put
  split
  · rename_i h
    rw [any_eqs] at h
    constructor
    · exact .inr
    · rintro (e | e)
      · rw [e]; exact h
      · exact e
  · exact mem_ins
theorem asc_put {l : List ByteArray} {k : ByteArray} (h : asc l) : asc (put l k) := by
  unfold put
  split
  · exact h
  · rename_i hk
    rw [any_eqs] at hk
    exact asc_ins h hk
theorem length_put (l : List ByteArray) (k : ByteArray) : (put l k).length ≤ l.length + 1 := by
  unfold put; split
  · omega
  · rw [length_ins]; omega

theorem sort_snoc (l : List ByteArray) (k : ByteArray) : sort (l ++ [k]) = if keyB k = true then put (sort l) k else sort l := by
  unfold sort; rw [List.foldl_append]; rfl
theorem snoc_ind {α : Type} {P : List α → Prop} (h0 : P []) (h1 : ∀ l a, P l → P (l ++ [a])) (l : List α) : P l := by
  have : ∀ r : List α, P r.reverse := by
    intro r
    induction r with
    | nil => exact h0
    | cons a r ih => rw [List.reverse_cons]; exact h1 _ _ ih
  have h := this l.reverse
  rwa [List.reverse_reverse] at h
theorem sort_facts (l : List ByteArray) : asc (sort l) ∧ (∀ x, x ∈ sort l ↔ x ∈ l ∧ keyB x = true) ∧ (sort l).length ≤ l.length := by
  refine snoc_ind (P := fun l => asc (sort l) ∧ (∀ x, x ∈ sort l ↔ x ∈ l ∧ keyB x = true) ∧ (sort l).length ≤ l.length) ?_ ?_ l
  · exact ⟨asc_nil, by simp [sort], by simp [sort]⟩
  · intro l k ih
    rw [sort_snoc]
    obtain ⟨h1, h2, h3⟩ := ih
    by_cases hk : keyB k = true
    · rw [if_pos hk]
      refine ⟨asc_put h1, fun x => ?_, ?_⟩
      · rw [mem_put, h2]
        simp only [List.mem_append, List.mem_singleton]
        constructor
        · rintro (e | ⟨e1, e2⟩)
          · rw [e]; exact ⟨.inr rfl, hk⟩
          · exact ⟨.inl e1, e2⟩
        · rintro ⟨e1 | e1, e2⟩
          · exact .inr ⟨e1, e2⟩
          · exact .inl e1
      · have := length_put (sort l) k
        simp; omega
    · rw [if_neg hk]
      refine ⟨h1, fun x => ?_, by simp; omega⟩
      rw [h2]
      simp only [List.mem_append, List.mem_singleton]
      constructor
      · rintro ⟨e1, e2⟩; exact ⟨.inl e1, e2⟩
      · rintro ⟨e1 | e1, e2⟩
        · exact ⟨e1, e2⟩
        · rw [e1] at e2; exact absurd e2 hk
theorem sort_asc (l : List ByteArray) : asc (sort l) := (sort_facts l).1
theorem mem_sort {l : List ByteArray} {x : ByteArray} : x ∈ sort l ↔ x ∈ l ∧ keyB x = true := (sort_facts l).2.1 x
theorem sort_len (l : List ByteArray) : (sort l).length ≤ l.length := (sort_facts l).2.2
/-- whatever is ascending and has just the keys is the sorted list -/
theorem sort_is {l r : List ByteArray} (h : asc r) (hm : ∀ x, x ∈ r ↔ x ∈ l ∧ keyB x = true) : r = sort l :=
  asc_ext h (sort_asc l) fun x => by rw [hm, mem_sort]
theorem sort_same {l : List ByteArray} (h : keysB l = true) : sort l = l := by
  rw [keys_iff] at h
  exact (sort_is h.2.2 fun x => ⟨fun e => ⟨e, h.2.1 x e⟩, fun e => e.1⟩).symm
theorem sort_sort (l : List ByteArray) : sort (sort l) = sort l := by
  refine (sort_is (sort_asc l) fun x => ?_).symm
  rw [mem_sort]
  exact ⟨fun e => ⟨e, e.2⟩, fun e => e.1⟩
theorem sort_comm (a b : List ByteArray) : sort (a ++ b) = sort (b ++ a) := by
  refine sort_is (sort_asc _) fun x => ?_
  rw [mem_sort]
  simp only [List.mem_append]
  constructor
  · rintro ⟨e | e, k⟩
    · exact ⟨.inr e, k⟩
    · exact ⟨.inl e, k⟩
  · rintro ⟨e | e, k⟩
    · exact ⟨.inr e, k⟩
    · exact ⟨.inl e, k⟩
theorem sort_both (a b : List ByteArray) : sort (sort a ++ sort b) = sort (a ++ b) := by
  refine (sort_is (sort_asc _) fun x => ?_).symm
  rw [mem_sort]
  simp only [List.mem_append, mem_sort]
  constructor
  · rintro ⟨e | e, k⟩
    · exact ⟨.inl ⟨e, k⟩, k⟩
    · exact ⟨.inr ⟨e, k⟩, k⟩
  · rintro ⟨⟨e, _⟩ | ⟨e, _⟩, k⟩
    · exact ⟨.inl e, k⟩
    · exact ⟨.inr e, k⟩
theorem keys_take {l : List ByteArray} (h : keysB l = true) (c : Nat) : keysB (l.take c) = true ∧ keysB (l.drop c) = true := by
  rw [keys_iff] at h ⊢
  rw [keys_iff]
  refine ⟨⟨?_, fun x hx => h.2.1 x (List.mem_of_mem_take hx), List.Pairwise.sublist (List.take_sublist _ _) h.2.2⟩, ⟨?_, fun x hx => h.2.1 x (List.mem_of_mem_drop hx), List.Pairwise.sublist (List.drop_sublist _ _) h.2.2⟩⟩
  · rw [List.length_take]; omega
  · rw [List.length_drop]; omega

/-- the first that is not ahead -/
def firstK (l : List ByteArray) (f : ByteArray) : Option ByteArray := if keysB l = true then l.find? (fun k => !lt k f) else none
theorem first_some {l : List ByteArray} {f k : ByteArray} (h : firstK l f = some k) : k ∈ l ∧ lt k f = false ∧ ∀ x ∈ l, lt x f = false → lt x k = false := by
  unfold firstK at h
  split at h
  · rename_i hk
    rw [keys_iff] at hk
    have ha := hk.2.2
    clear hk
    induction l with
    | nil => simp at h
    | cons a t ih =>
      rw [asc_cons] at ha
      rw [List.find?_cons] at h
      cases e : lt a f with
      | false =>
        rw [e] at h
        simp at h
        subst h
        refine ⟨by simp, e, fun x hx _ => ?_⟩
        rcases List.mem_cons.mp hx with rfl | hx
        · exact lt_irrefl _
        · exact lt_asymm (ha.1 x hx)
      | true =>
        rw [e] at h
        simp at h
        obtain ⟨h1, h2, h3⟩ := ih (by simpa using h) ha.2
        refine ⟨List.mem_cons_of_mem _ h1, h2, fun x hx hxf => ?_⟩
        rcases List.mem_cons.mp hx with rfl | hx
        · rw [e] at hxf; cases hxf
        · exact h3 x hx hxf
  · cases h
theorem first_none {l : List ByteArray} {f : ByteArray} (hk : keysB l = true) (h : firstK l f = none) : ∀ x ∈ l, lt x f = true := by
  unfold firstK at h
  rw [if_pos hk, List.find?_eq_none] at h
  intro x hx
  have := h x hx
  simpa using this

/-- each is ahead of the next, place by place -/
theorem adj_iff : ∀ {l : List ByteArray}, adjB l = true ↔ ∀ i (h : i + 1 < l.length), lt l[i] l[i + 1] = true
  | [] => by simp [adjB]
  | [a] => by simp [adjB]
  | a :: b :: t => by
    have ih := adj_iff (l := b :: t)
    simp only [adjB, Bool.and_eq_true, ih]
    constructor
    · rintro ⟨h, k⟩ i hi
      cases i with
      | zero => exact h
      | succ i => exact k i (by simpa using hi)
    · intro h
      refine ⟨h 0 (by simp), fun i hi => ?_⟩
      exact h (i + 1) (by simpa using hi)
/-- up to place k all is as in a key list -/
def good (l : List ByteArray) (k : Nat) : Prop := (∀ i (h : i < l.length), i < k → keyB l[i] = true) ∧ ∀ i (h : i + 1 < l.length), i + 1 < k → lt l[i] l[i + 1] = true
theorem good_zero (l : List ByteArray) : good l 0 := ⟨fun i _ h => by omega, fun i _ h => by omega⟩
theorem good_one {l : List ByteArray} (h : 0 < l.length) (hk : keyB l[0] = true) : good l 1 :=
  ⟨fun i _ hi => by obtain rfl : i = 0 := by omega
                    exact hk, fun i _ hi => by omega⟩
theorem good_succ {l : List ByteArray} {k : Nat} (g : good l (k + 1)) (h : k + 1 < l.length) (hk : keyB l[k + 1] = true) (hl : lt l[k] l[k + 1] = true) : good l (k + 2) := by
  refine ⟨fun i hi hi2 => ?_, fun i hi hi2 => ?_⟩
  · rcases (by omega : i < k + 1 ∨ i = k + 1) with e | e
    · exact g.1 i hi e
    · subst e; exact hk
  · rcases (by omega : i + 1 < k + 1 ∨ i = k) with e | e
    · exact g.2 i hi e
    · subst e; exact hl
theorem good_end {l : List ByteArray} (g : good l l.length) : keysB l = decide (l.length ≤ 24) := by
  unfold keysB
  have h1 : l.all keyB = true := by
    rw [List.all_eq_true]
    intro x hx
    obtain ⟨i, hi, rfl⟩ := List.mem_iff_getElem.mp hx
    exact g.1 i hi hi
  have h2 : adjB l = true := adj_iff.mpr fun i hi => g.2 i hi hi
  rw [h1, h2]; simp
theorem bad_key {l : List ByteArray} {k : Nat} (h : k < l.length) (hk : keyB l[k] = false) : keysB l = false := by
  rw [← Bool.not_eq_true, keys_iff]
  rintro ⟨_, h2, _⟩
  rw [h2 _ (List.getElem_mem h)] at hk; cases hk
theorem bad_order {l : List ByteArray} {k : Nat} (h : k + 1 < l.length) (hk : lt l[k] l[k + 1] = false) : keysB l = false := by
  rw [← Bool.not_eq_true]
  intro e
  unfold keysB at e
  simp only [Bool.and_eq_true] at e
  rw [adj_iff.mp e.2.2 k h] at hk; cases hk

/-- two lists of strings are the same -/
def sameL (a b : List ByteArray) : Bool := a.map (·.toList) == b.map (·.toList)
theorem map_inj {a b : List ByteArray} (h : a.map (·.toList) = b.map (·.toList)) : a = b := by
  induction a generalizing b with
  | nil => cases b with
    | nil => rfl
    | cons y b => simp at h
  | cons x a ih => cases b with
    | nil => simp at h
    | cons y b =>
      simp only [List.map_cons, List.cons.injEq] at h
      rw [ba_ext h.1, ih h.2]
theorem sameL_iff {a b : List ByteArray} : sameL a b = true ↔ a = b := by
  unfold sameL; simp only [beq_iff_eq]; exact ⟨map_inj, fun h => by rw [h]⟩
theorem sameL_self (a : List ByteArray) : sameL a a = true := sameL_iff.mpr rfl
theorem sameL_false {a b : List ByteArray} : sameL a b = false ↔ a ≠ b := by rw [← Bool.not_eq_true, sameL_iff]
theorem same_len {a b : List ByteArray} (h : a.length ≠ b.length) : sameL a b = false := sameL_false.mpr fun e => h (by rw [e])
theorem same_at {a b : List ByteArray} {k : Nat} (ha : k < a.length) (hb : k < b.length) (h : eqs a[k] b[k] = false) : sameL a b = false := by
  rw [sameL_false]; rintro rfl
  rw [eqs_self] at h; cases h
theorem same_step {a b : List ByteArray} {k : Nat} (ha : k < a.length) (hb : k < b.length) (h : eqs a[k] b[k] = true) (ht : a.take k = b.take k) : a.take (k + 1) = b.take (k + 1) := by
  rw [List.take_add_one, List.take_add_one, ht, List.getElem?_eq_getElem ha, List.getElem?_eq_getElem hb, eqs_iff.mp h]
theorem same_end {a b : List ByteArray} (hl : a.length = b.length) (ht : a.take a.length = b.take a.length) : sameL a b = true := by
  rw [sameL_iff]
  rw [List.take_of_length_le (Nat.le_refl _), List.take_of_length_le (by omega)] at ht
  exact ht
/-- a string is among some -/
def inL (l : List ByteArray) (s : ByteArray) : Bool := l.any (eqs · s)
theorem inL_iff {l : List ByteArray} {s : ByteArray} : inL l s = true ↔ s ∈ l := any_eqs
theorem inL_at {l : List ByteArray} {s : ByteArray} {k : Nat} (h : k < l.length) (e : eqs l[k] s = true) : inL l s = true := by
  rw [inL_iff, ← eqs_iff.mp e]; exact List.getElem_mem h
/-- it is not among the first k -/
def notIn (l : List ByteArray) (s : ByteArray) (k : Nat) : Prop := ∀ i (h : i < l.length), i < k → eqs l[i] s = false
theorem notIn_zero (l : List ByteArray) (s : ByteArray) : notIn l s 0 := fun i _ h => by omega
theorem notIn_succ {l : List ByteArray} {s : ByteArray} {k : Nat} (h : k < l.length) (hn : notIn l s k) (e : eqs l[k] s = false) : notIn l s (k + 1) := by
  intro i hi hik
  rcases (by omega : i < k ∨ i = k) with h1 | h1
  · exact hn i hi h1
  · subst h1; exact e
theorem notIn_end {l : List ByteArray} {s : ByteArray} (hn : notIn l s l.length) : inL l s = false := by
  rw [← Bool.not_eq_true, inL_iff]
  intro hm
  obtain ⟨i, hi, rfl⟩ := List.mem_iff_getElem.mp hm
  have := hn i hi hi
  rw [eqs_self] at this; cases this
/-- a string begins with another one -/
def begB (k h : ByteArray) : Bool := decide (h.size ≤ k.size) && ((k.extract 0 h.size).toList == h.toList)
/-- the search for the first that is not ahead has come to place k -/
def aheadK (l : List ByteArray) (f : ByteArray) (k : Nat) : Prop := ∀ i (h : i < l.length), i < k → lt l[i] f = true
theorem aheadK_zero (l : List ByteArray) (f : ByteArray) : aheadK l f 0 := fun i _ h => by omega
theorem aheadK_succ {l : List ByteArray} {f : ByteArray} {k : Nat} (h : k < l.length) (hn : aheadK l f k) (e : lt l[k] f = true) : aheadK l f (k + 1) := by
  intro i hi hik
  rcases (by omega : i < k ∨ i = k) with h1 | h1
  · exact hn i hi h1
  · subst h1; exact e
theorem find_at : ∀ {l : List ByteArray} {f : ByteArray} {k : Nat} (h : k < l.length), aheadK l f k → lt l[k] f = false → l.find? (fun x => !lt x f) = some l[k]
  | a :: t, f, 0, _, _, e => by
    have e' : lt a f = false := e
    rw [List.find?_cons, e']; rfl
  | a :: t, f, k + 1, h, hn, e => by
    have h0 : lt a f = true := hn 0 (by simp) (by omega)
    rw [List.find?_cons, h0]
    have ht : aheadK t f k := fun i hi hik => hn (i + 1) (by simpa using hi) (by omega)
    exact find_at (by simpa using h) ht e
theorem first_hit {l : List ByteArray} {f : ByteArray} {k : Nat} (hk : keysB l = true) (h : k < l.length) (hn : aheadK l f k) (e : lt l[k] f = false) : firstK l f = some l[k] := by
  unfold firstK; rw [if_pos hk]; exact find_at h hn e
theorem first_miss {l : List ByteArray} {f : ByteArray} (hn : aheadK l f l.length) : firstK l f = none := by
  unfold firstK
  split
  · rw [List.find?_eq_none]
    intro x hx
    obtain ⟨i, hi, rfl⟩ := List.mem_iff_getElem.mp hx
    rw [hn i hi hi]; simp
  · rfl
theorem first_bad {l : List ByteArray} {f : ByteArray} (hk : keysB l = false) : firstK l f = none := by
  unfold firstK; rw [if_neg (by rw [hk]; simp)]

/-- what a key has been put into, up to here; and whether it has been -/
def doneP (p : List ByteArray) (s : ByteArray) : Bool := p.any (lt s ·)
def accP (p : List ByteArray) (s : ByteArray) : List ByteArray := if doneP p s = true then ins p s else p
theorem ins_append_done {p q : List ByteArray} {s : ByteArray} (h : doneP p s = true) : ins (p ++ q) s = ins p s ++ q := by
  induction p with
  | nil => simp [doneP] at h
  | cons a t ih =>
    rw [List.cons_append]
    unfold ins
    by_cases ha : lt s a = true
    · rw [if_pos ha, if_pos ha]; rfl
    · rw [if_neg ha, if_neg ha, List.cons_append]
      congr 1
      refine ih ?_
      unfold doneP at *
      rw [List.any_cons] at h
      simpa [ha] using h
theorem ins_not_done {p : List ByteArray} {s : ByteArray} (h : doneP p s = false) (q : List ByteArray) : ins (p ++ q) s = p ++ ins q s := by
  induction p with
  | nil => rfl
  | cons a t ih =>
    unfold doneP at h
    rw [List.any_cons, Bool.or_eq_false_iff] at h
    rw [List.cons_append]
    conv => lhs; unfold ins
    rw [if_neg (by rw [h.1]; simp), ih h.2]
    rfl
theorem doneP_snoc (p : List ByteArray) (x s : ByteArray) : doneP (p ++ [x]) s = (doneP p s || lt s x) := by
  unfold doneP; rw [List.any_append]; simp
theorem acc_done {p : List ByteArray} {x s : ByteArray} (h : doneP p s = true) : doneP (p ++ [x]) s = true ∧ accP (p ++ [x]) s = accP p s ++ [x] := by
  have h1 : doneP (p ++ [x]) s = true := by rw [doneP_snoc, h]; rfl
  refine ⟨h1, ?_⟩
  unfold accP
  rw [if_pos h1, if_pos h, ins_append_done h]
theorem acc_now {p : List ByteArray} {x s : ByteArray} (h : doneP p s = false) (hx : lt s x = true) : doneP (p ++ [x]) s = true ∧ accP (p ++ [x]) s = accP p s ++ [s] ++ [x] := by
  have h1 : doneP (p ++ [x]) s = true := by rw [doneP_snoc, hx]; simp
  refine ⟨h1, ?_⟩
  unfold accP
  rw [if_pos h1, if_neg (by rw [h]; simp), ins_not_done h]
  simp [ins, hx]
theorem acc_later {p : List ByteArray} {x s : ByteArray} (h : doneP p s = false) (hx : lt s x = false) : doneP (p ++ [x]) s = false ∧ accP (p ++ [x]) s = accP p s ++ [x] := by
  have h1 : doneP (p ++ [x]) s = false := by rw [doneP_snoc, h, hx]; rfl
  refine ⟨h1, ?_⟩
  unfold accP
  rw [if_neg (by rw [h1]; simp), if_neg (by rw [h]; simp)]
theorem acc_end_done {l : List ByteArray} {s : ByteArray} (hn : notIn l s l.length) (h : doneP l s = true) : accP l s = put l s := by
  unfold accP put
  have : l.any (eqs · s) = false := notIn_end hn
  rw [if_pos h, if_neg (by rw [this]; simp)]
theorem acc_end_not {l : List ByteArray} {s : ByteArray} (hn : notIn l s l.length) (h : doneP l s = false) : accP l s ++ [s] = put l s := by
  unfold accP put
  have h2 : l.any (eqs · s) = false := notIn_end hn
  rw [if_neg (by rw [h]; simp), if_neg (by rw [h2]; simp)]
  have := ins_not_done h []
  rw [List.append_nil] at this
  rw [this]; rfl
theorem put_there {l : List ByteArray} {s : ByteArray} (h : inL l s = true) : put l s = l := by
  unfold put; unfold inL at h; rw [if_pos h]
theorem acc_len (p : List ByteArray) (s : ByteArray) : (accP p s).length ≤ p.length + 1 := by
  unfold accP; split
  · rw [length_ins]; omega
  · omega

end Go.Proofs.Ytipkhpijanhfiaa.K
