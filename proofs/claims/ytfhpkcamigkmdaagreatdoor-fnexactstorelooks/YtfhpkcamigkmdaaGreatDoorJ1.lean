/-
  Plain mathematics of bit strings: how many ones a list of bytes has, where the one with a number is, and the number that up to 64 bits make. No condition; nothing of the program is named here.
  Plain mathematics of tries in level order: forks, their branches, the forks that they lead to, the list of all forks level by level, and how ones of the two bit strings lead from a branch to its fork. No condition; nothing of the program is named here.
  Plain mathematics of tries in level order, the second part: what holds of the forks of a key list, and of their branches.
  Plain mathematics of tries in level order, the third part: the strings that encode the forks, and how counting ones leads from a branch to the branches of its fork.
  Plain mathematics of tries in level order, the fourth part: what is kept of each key, read off the strings that encode the forks.
  Plain mathematics of tries in level order, the fifth part: the filter of a key list tells what is kept of each key, in order.
  Plain mathematics of tries, the sixth part: how many letters set a key apart from the others of its list.
  Plain mathematics of tries, the seventh part: where a key's letters lead, and what that says of the key.
  Plain mathematics of tries, the eighth part: the filter of what is kept is the filter itself.
  Plain mathematics of tries, the ninth part: filters of key lists. What is kept of the keys is a key list in order, and its filter is the same one.
  Plain mathematics of tries, the tenth part: what a filter of a key list tells (may a key be there, may one be between, what may be first), and the promises about it.
  Plain mathematics of tries, the eleventh part: how many branches and forks a filter has.
  Plain mathematics of tries, the twelfth part: what is read off a filter at a branch that does not go on, the wholes of the keys in order, and when a filter is one.
  Plain mathematics of tries, the thirteenth part: at every filter of the right form, of some keys or not, what is kept is no more than there are branches.
  Plain mathematics of tries, the fourteenth part: building a filter fork by fork, branch by branch.
  Plain mathematics of the tries that the program builds: nodes of branches that go on, to a node behind, or end. No condition; nothing of the program is named here.
  Plain mathematics of the tries that the program builds, the second part: no branch is looked at twice where branches lead to nodes one behind the other. No condition.
  Plain mathematics of the tries that the program builds, the third part: what is read of a filter, of some keys or not. No condition.
  Plain mathematics of the tries that the program builds, the fourth part: where the letters of a key lead. No condition.
-/
import Derived.Laws.BitsAllLaws
namespace Go.Proofs.YtfhpkcamigkmdaaGreatDoor.M

/-- a byte is a bit -/
def bitC (c : UInt8) : Bool := c == 48 || c == 49
/-- the bytes are a bit string -/
def okB (l : List UInt8) : Bool := decide (l.length ≤ 400) && l.all bitC
/-- how many ones there are -/
def ones : List UInt8 → Nat
  | [] => 0
  | c :: t => (if c = 49 then 1 else 0) + ones t
/-- where the one with a number is -/
def oneIdx : List UInt8 → Nat → Option Nat
  | [], _ => none
  | c :: t, n => if c = 49 then (match n with | 0 => some 0 | m + 1 => (oneIdx t m).map (· + 1)) else (oneIdx t n).map (· + 1)
theorem ones_append (a b : List UInt8) : ones (a ++ b) = ones a + ones b := by
  induction a with
  | nil => simp [ones]
  | cons c t ih => simp only [List.cons_append, ones, ih]; omega

theorem ones_le (l : List UInt8) : ones l ≤ l.length := by
  induction l with
  | nil => simp [ones]
  | cons c t ih => simp only [ones, List.length_cons]; split <;> omega

theorem oneIdx_append (a b : List UInt8) (n : Nat) : oneIdx (a ++ b) n = if n < ones a then oneIdx a n else (oneIdx b (n - ones a)).map (a.length + ·) := by
  induction a generalizing n with
  | nil => simp [ones]
  | cons c t ih =>
    by_cases hc : c = 49
    · cases n with
      | zero => simp [oneIdx, ones, hc]
      | succ m =>
        simp only [List.cons_append, oneIdx, hc, if_true, ones, ih]
        by_cases hm : m < ones t
        · rw [if_pos hm, if_pos (by omega)]
        · rw [if_neg hm, if_neg (by omega)]
          have e : m + 1 - (1 + ones t) = m - ones t := by omega
          rw [e, Option.map_map]
          congr 1
          funext x
          simp; omega
    · simp only [List.cons_append, oneIdx, hc, if_false, ones, ih]
      by_cases hm : n < ones t
      · rw [if_pos hm, if_pos (by omega)]
      · rw [if_neg hm, if_neg (by omega)]
        have e : n - (0 + ones t) = n - ones t := by omega
        rw [e, Option.map_map]
        congr 1
        funext x
        simp; omega

theorem oneIdx_none (l : List UInt8) (n : Nat) : oneIdx l n = none ↔ ones l ≤ n := by
  induction l generalizing n with
  | nil => simp [oneIdx, ones]
  | cons c t ih =>
    by_cases hc : c = 49
    · cases n with
      | zero => simp [oneIdx, ones, hc]
      | succ m => simp only [oneIdx, ones, hc, if_true, Option.map_eq_none_iff, ih]; omega
    · simp only [oneIdx, ones, hc, if_false, Option.map_eq_none_iff, ih]; omega

theorem ones_take_le (l : List UInt8) (k : Nat) : ones (l.take k) ≤ k := Nat.le_trans (ones_le _) (List.length_take_le _ _)

/-- a list, cut -/
theorem cut (l : List UInt8) (k : Nat) : l = l.take k ++ l.drop k := (List.take_append_drop k l).symm

theorem ones_take_succ (l : List UInt8) (k : Nat) (c : UInt8) (h : l[k]? = some c) : ones (l.take (k + 1)) = ones (l.take k) + if c = 49 then 1 else 0 := by
  rw [List.take_add_one, ones_append, h]; simp [ones]

/-- one step of the search for the next one -/
theorem next_step (l : List UInt8) (k : Nat) (c : UInt8) (h : l[k]? = some c) : (oneIdx (l.drop k) 0).map (k + ·) = if c = 49 then some k else (oneIdx (l.drop (k + 1)) 0).map (k + 1 + ·) := by
  obtain ⟨hk, rfl⟩ := List.getElem?_eq_some_iff.mp h
  rw [List.drop_eq_getElem_cons hk]
  by_cases hc : l[k] = 49
  · simp [oneIdx, hc]
  · simp only [oneIdx, hc, if_false, Option.map_map]
    congr 1
    funext x
    simp; omega

/-- one step of the search for the one with a number -/
theorem one_step (l : List UInt8) (k n : Nat) (c : UInt8) (h : l[k]? = some c) :
    (oneIdx (l.drop k) n).map (k + ·) = if c = 49 then (if n = 0 then some k else (oneIdx (l.drop (k + 1)) (n - 1)).map (k + 1 + ·)) else (oneIdx (l.drop (k + 1)) n).map (k + 1 + ·) := by
  obtain ⟨hk, rfl⟩ := List.getElem?_eq_some_iff.mp h
  rw [List.drop_eq_getElem_cons hk]
  by_cases hc : l[k] = 49
  · cases n with
    | zero => simp [oneIdx, hc]
    | succ m =>
      simp only [oneIdx, hc, if_true, Option.map_map, Nat.add_sub_cancel]
      rw [if_neg (by omega)]
      congr 1
      funext x
      simp; omega
  · simp only [oneIdx, hc, if_false, Option.map_map]
    congr 1
    funext x
    simp; omega

end Go.Proofs.YtfhpkcamigkmdaaGreatDoor.M

namespace Go.Proofs.YtfhpkcamigkmdaaGreatDoor.T
open M

/-- a string, byte by byte -/
abbrev Str := List UInt8
/-- keys that begin alike, and with how many letters -/
structure Fork where
  keys : List Str
  deep : Nat
/-- a key's letter at a place, - at its end -/
def letter (k : Str) (d : Nat) : UInt8 := (k[d]?).getD 45
/-- the keys with the same letter as the first one -/
def group (k : Str) (t : List Str) (d : Nat) : List Str := (k :: t).filter fun x => letter x d == letter k d
theorem group_pos (k : Str) (t : List Str) (d : Nat) : 0 < (group k t d).length := by
  unfold group
  rw [List.filter_cons]
  simp
theorem group_le (k : Str) (t : List Str) (d : Nat) : (group k t d).length ≤ t.length + 1 := by
  unfold group
  exact Nat.le_trans (List.length_filter_le _ _) (by simp)
/-- the branches of keys: letter and keys -/
def brs (d : Nat) : List Str → List (UInt8 × List Str)
  | [] => []
  | k :: t => (letter k d, group k t d) :: brs d ((k :: t).drop (group k t d).length)
termination_by l => l.length
decreasing_by
  have := group_pos k t d
  simp only [List.length_drop, List.length_cons]
  omega
theorem brs_nil (d : Nat) : brs d [] = [] := by unfold brs; rfl
theorem brs_cons (d : Nat) (k : Str) (t : List Str) : brs d (k :: t) = (letter k d, group k t d) :: brs d ((k :: t).drop (group k t d).length) := by
  conv => lhs; unfold brs
/-- a branch goes on -/
def goes (b : UInt8 × List Str) : Bool := decide (1 < b.2.length)
/-- the forks that branches lead to -/
def leads (d : Nat) (bs : List (UInt8 × List Str)) : List Fork := (bs.filter goes).map fun b => ⟨b.2, d + 1⟩
def kids (f : Fork) : List Fork := leads f.deep (brs f.deep f.keys)

/-- all forks, level by level: a queue is worked off -/
def nodes : Nat → List Fork → List Fork
  | 0, _ => []
  | _ + 1, [] => []
  | n + 1, f :: q => f :: nodes n (q ++ kids f)
/-- so much work a fork is -/
def load (f : Fork) : Nat := 2 * f.keys.length * (7 - f.deep) + 1
def loads (q : List Fork) : Nat := (q.map load).sum

theorem brs_total (d : Nat) (l : List Str) : ((brs d l).map fun b => b.2.length).sum ≤ l.length := by
  induction l using List.rec with
  | nil => simp [brs_nil]
  | cons k t _ =>
    have : ∀ (n : Nat) (l : List Str), l.length ≤ n → ((brs d l).map fun b => b.2.length).sum ≤ l.length := by
      intro n
      induction n with
      | zero => intro l hl; have : l = [] := List.eq_nil_of_length_eq_zero (by omega); subst this; simp [brs_nil]
      | succ n ih =>
        intro l hl
        cases l with
        | nil => simp [brs_nil]
        | cons k t =>
          rw [brs_cons]
          have h1 := group_pos k t d
          have h2 := group_le k t d
          have h3 := ih ((k :: t).drop (group k t d).length) (by rw [List.length_drop]; simp at hl ⊢; omega)
          simp only [List.map_cons, List.sum_cons]
          rw [List.length_drop] at h3
          simp at h3 ⊢
          omega
    exact this _ _ (Nat.le_refl _)

/-- the forks that some branches lead to are at most half as many as their keys, and have no more keys -/
theorem leads_load (d : Nat) (bs : List (UInt8 × List Str)) (hd : d ≤ 6) : loads (leads d bs) ≤ ((bs.map fun b => b.2.length).sum) * (2 * (6 - d)) + (bs.map fun b => b.2.length).sum := by
  unfold loads leads
  induction bs with
  | nil => simp
  | cons b t ih =>
    simp only [List.map_cons, List.sum_cons]
    rw [List.filter_cons]
    by_cases h : goes b = true
    · rw [if_pos h]
      simp only [List.map_cons, List.sum_cons]
      have hl : 1 < b.2.length := by simpa [goes] using h
      have e : load ⟨b.2, d + 1⟩ = b.2.length * (2 * (6 - d)) + 1 := by
        unfold load
        simp only
        rw [show 7 - (d + 1) = 6 - d by omega, Nat.mul_comm 2, Nat.mul_assoc]
      rw [e, Nat.add_mul]
      omega
    · rw [if_neg h, Nat.add_mul]
      omega

theorem kids_load (f : Fork) (hd : f.deep ≤ 6) : loads (kids f) < load f := by
  have h1 := leads_load f.deep (brs f.deep f.keys) hd
  have h2 := brs_total f.deep f.keys
  unfold kids
  unfold load
  generalize ((brs f.deep f.keys).map fun b => b.2.length).sum = s at *
  have h3 : s * (2 * (6 - f.deep)) + s ≤ f.keys.length * (2 * (6 - f.deep)) + f.keys.length := Nat.add_le_add (Nat.mul_le_mul_right _ h2) h2
  have h4 : 2 * f.keys.length * (7 - f.deep) = f.keys.length * (2 * (6 - f.deep)) + 2 * f.keys.length := by
    rw [show 7 - f.deep = (6 - f.deep) + 1 by omega, Nat.mul_add, Nat.mul_one, Nat.mul_comm 2, Nat.mul_assoc]
  omega

end Go.Proofs.YtfhpkcamigkmdaaGreatDoor.T

namespace Go.Proofs.YtfhpkcamigkmdaaGreatDoor.T
open M

/-- a string is a key -/
def isKey (k : Str) : Prop := k.length ≤ 5 ∧ ∀ c ∈ k, 97 ≤ c.toNat ∧ c.toNat ≤ 100
/-- strictly ascending -/
def ascS (l : List Str) : Prop := l.Pairwise (· < ·)
/-- keys in order that begin alike -/
structure WF (f : Fork) : Prop where
  key : ∀ k ∈ f.keys, isKey k
  asc : ascS f.keys
  long : ∀ k ∈ f.keys, f.deep ≤ k.length
  alike : ∀ k ∈ f.keys, ∀ k' ∈ f.keys, k.take f.deep = k'.take f.deep

theorem lt_append (p a b : Str) : p ++ a < p ++ b ↔ a < b := by
  induction p with
  | nil => simp
  | cons c p ih => simp [ih]
theorem lt_drop {x y : Str} {d : Nat} (h : x.take d = y.take d) : x < y ↔ x.drop d < y.drop d := by
  conv => lhs; rw [← List.take_append_drop d x, ← List.take_append_drop d y, h]
  exact lt_append _ _ _
theorem letter_drop (k : Str) (d : Nat) : letter k d = ((k.drop d).head?).getD 45 := by
  unfold letter; rw [List.head?_drop]
theorem letter_key {k : Str} (hk : isKey k) (d : Nat) : letter k d = 45 ∧ k.length ≤ d ∨ 97 ≤ (letter k d).toNat ∧ d < k.length := by
  unfold letter
  rcases Nat.lt_or_ge d k.length with h | h
  · right
    rw [List.getElem?_eq_getElem h]
    exact ⟨(hk.2 _ (List.getElem_mem h)).1, h⟩
  · left
    rw [List.getElem?_eq_none h]
    exact ⟨rfl, h⟩

/-- of keys that begin alike the later one has the later letter, or the same -/
theorem letter_mono {x y : Str} {d : Nat} (hy : isKey y) (h : x.take d = y.take d) (hlt : x < y) : (letter x d).toNat ≤ (letter y d).toNat := by
  rw [lt_drop h] at hlt
  rw [letter_drop, letter_drop]
  cases hx : x.drop d with
  | nil =>
    rw [hx] at hlt
    cases hyd : y.drop d with
    | nil => rw [hyd] at hlt; exact absurd hlt (by simp)
    | cons b t =>
      have hb : b ∈ y := List.mem_of_mem_drop (by rw [hyd]; simp)
      have := (hy.2 b hb).1
      simp
      omega
  | cons a s =>
    rw [hx] at hlt
    cases hyd : y.drop d with
    | nil => rw [hyd] at hlt; exact absurd hlt (by simp)
    | cons b t =>
      rw [hyd, List.cons_lt_cons_iff] at hlt
      simp
      rcases hlt with h1 | ⟨h1, _⟩
      · have := UInt8.lt_iff_toNat_lt.mp h1; omega
      · rw [h1]; exact Nat.le_refl _
/-- two keys that begin alike and end there are one -/
theorem ended {x y : Str} {d : Nat} (h : x.take d = y.take d) (hx : x.length ≤ d) (hy : y.length ≤ d) : x = y := by
  rw [List.take_of_length_le hx, List.take_of_length_le hy] at h
  exact h

/-- of a list whose numbers do not go down those that equal the first come first -/
theorem filter_first {α : Type} (f : α → Nat) : ∀ (k : α) (t : List α), (k :: t).Pairwise (fun a b => f a ≤ f b) →
    ∃ r, k :: t = (k :: t).filter (fun x => f x == f k) ++ r ∧ ∀ x ∈ r, f k < f x := by
  intro k t h
  induction t with
  | nil => exact ⟨[], by simp, by simp⟩
  | cons a t ih =>
    rw [List.pairwise_cons] at h
    obtain ⟨h1, h2⟩ := h
    by_cases ha : f a = f k
    · have h3 : (k :: t).Pairwise (fun a b => f a ≤ f b) := by
        rw [List.pairwise_cons]
        rw [List.pairwise_cons] at h2
        exact ⟨fun x hx => h1 x (List.mem_cons_of_mem _ hx), h2.2⟩
      obtain ⟨r, hr, hr2⟩ := ih h3
      refine ⟨r, ?_, hr2⟩
      simp only [List.filter_cons, ha, beq_self_eq_true, if_true, List.cons_append] at hr ⊢
      congr 2
      exact (List.cons.inj hr).2
    · have hlt : ∀ x ∈ a :: t, f k < f x := by
        intro x hx
        have ha2 := h1 a (by simp)
        rcases List.mem_cons.mp hx with rfl | hx
        · omega
        · rw [List.pairwise_cons] at h2
          have := h2.1 x hx
          omega
      refine ⟨a :: t, ?_, hlt⟩
      have : (a :: t).filter (fun x => f x == f k) = [] := by
        rw [List.filter_eq_nil_iff]
        intro x hx
        have := hlt x hx
        simp; omega
      rw [List.filter_cons, this]
      simp

theorem beq_toNat (a b : UInt8) : (a == b) = (a.toNat == b.toNat) := by
  rw [Bool.eq_iff_iff]
  simp only [beq_iff_eq]
  exact ⟨fun h => by rw [h], fun h => UInt8.toNat_inj.mp h⟩

/-- the first group of a fork comes first in it; the letters behind are later -/
theorem group_first {k : Str} {t : List Str} {d : Nat} (h : WF ⟨k :: t, d⟩) : ∃ r, k :: t = group k t d ++ r ∧ (∀ x ∈ r, (letter k d).toNat < (letter x d).toNat) ∧ (k :: t).drop (group k t d).length = r := by
  have hp : (k :: t).Pairwise (fun a b => (letter a d).toNat ≤ (letter b d).toNat) := by
    have ha : (k :: t).Pairwise (· < ·) := h.asc
    refine List.Pairwise.imp_of_mem ?_ ha
    intro a b ha hb hlt
    exact letter_mono (h.key b hb) (h.alike a ha b hb) hlt
  obtain ⟨r, hr, hr2⟩ := filter_first (fun x => (letter x d).toNat) k t hp
  have hg : (k :: t).filter (fun x => (letter x d).toNat == (letter k d).toNat) = group k t d := by
    unfold group
    congr 1
    funext x
    exact (beq_toNat _ _).symm
  rw [hg] at hr
  refine ⟨r, hr, hr2, ?_⟩
  conv => lhs; rw [hr]
  simp

theorem WF.sub {f : Fork} {l : List Str} (h : WF f) (hs : l.Sublist f.keys) : WF ⟨l, f.deep⟩ :=
  ⟨fun k hk => h.key k (hs.subset hk), List.Pairwise.sublist hs h.asc, fun k hk => h.long k (hs.subset hk), fun k hk k' hk' => h.alike k (hs.subset hk) k' (hs.subset hk')⟩

/-- what holds of the branches of a fork: letters ascend, the groups are all keys in order, each is the keys with its letter -/
structure BrsOk (d : Nat) (l : List Str) (bs : List (UInt8 × List Str)) : Prop where
  all : (bs.map (·.2)).flatten = l
  letters : bs.Pairwise (fun a b => a.1.toNat < b.1.toNat)
  each : ∀ b ∈ bs, b.2 ≠ [] ∧ ∀ x ∈ b.2, letter x d = b.1

theorem brs_ok_aux (d : Nat) : ∀ (n : Nat) (l : List Str), l.length ≤ n → WF ⟨l, d⟩ → BrsOk d l (brs d l) := by
  intro n
  induction n with
  | zero =>
    intro l hl _
    have : l = [] := List.eq_nil_of_length_eq_zero (by omega)
    subst this
    rw [brs_nil]
    exact ⟨rfl, List.Pairwise.nil, by simp⟩
  | succ n ih =>
    intro l hl h
    cases l with
    | nil => rw [brs_nil]; exact ⟨rfl, List.Pairwise.nil, by simp⟩
    | cons k t =>
      rw [brs_cons]
      obtain ⟨r, hr, hlate, hdrop⟩ := group_first h
      rw [hdrop]
      have hpos := group_pos k t d
      have hrl : r.length ≤ n := by
        have := congrArg List.length hr
        simp at this hl
        omega
      have hsub : r.Sublist (k :: t) := by rw [hr]; exact List.sublist_append_right _ _
      have ih' := ih r hrl (h.sub hsub)
      refine ⟨?_, ?_, ?_⟩
      · simp only [List.map_cons, List.flatten_cons, ih'.all]
        exact hr.symm
      · rw [List.pairwise_cons]
        refine ⟨fun b hb => ?_, ih'.letters⟩
        obtain ⟨hne, heq⟩ := ih'.each b hb
        cases hb2 : b.2 with
        | nil => exact absurd hb2 hne
        | cons x s =>
          have hx : x ∈ b.2 := by rw [hb2]; simp
          have hxr : x ∈ r := by
            rw [← ih'.all]
            exact List.mem_flatten.mpr ⟨b.2, List.mem_map.mpr ⟨b, hb, rfl⟩, hx⟩
          rw [← heq x hx]
          exact hlate x hxr
      · intro b hb
        rcases List.mem_cons.mp hb with rfl | hb
        · refine ⟨fun e => by have e' : group k t d = [] := e; rw [e'] at hpos; simp at hpos, fun x hx => ?_⟩
          unfold group at hx
          exact by simpa using (List.mem_filter.mp hx).2
        · exact ih'.each b hb
theorem brs_ok {f : Fork} (h : WF f) : BrsOk f.deep f.keys (brs f.deep f.keys) := brs_ok_aux f.deep _ f.keys (Nat.le_refl _) h

/-- a group of more than one key is a fork one letter deeper -/
theorem WF.kid {f : Fork} (h : WF f) {b : UInt8 × List Str} (hb : b ∈ brs f.deep f.keys) (hg : 1 < b.2.length) : WF ⟨b.2, f.deep + 1⟩ ∧ f.deep + 1 ≤ 5 := by
  have ok := brs_ok h
  have hsub : b.2.Sublist f.keys := by
    rw [← ok.all]
    exact List.sublist_flatten_of_mem (List.mem_map.mpr ⟨b, hb, rfl⟩)
  have hw := h.sub hsub
  obtain ⟨hne, heq⟩ := ok.each b hb
  -- no key ends here: else two would be one
  have hlong : ∀ x ∈ b.2, f.deep < x.length := by
    intro x hx
    rcases letter_key (h.key x (hsub.subset hx)) f.deep with ⟨h45, hle⟩ | ⟨_, hlt⟩
    · exfalso
      have hall : ∀ y ∈ b.2, y = x := by
        intro y hy
        have hy45 : letter y f.deep = 45 := by rw [heq y hy, ← heq x hx, h45]
        rcases letter_key (h.key y (hsub.subset hy)) f.deep with ⟨_, hyl⟩ | ⟨h97, _⟩
        · exact ended (h.alike y (hsub.subset hy) x (hsub.subset hx)) hyl hle
        · rw [hy45] at h97; exact absurd h97 (by decide)
      cases hb2 : b.2 with
      | nil => rw [hb2] at hg; simp at hg
      | cons y s =>
        cases s with
        | nil => rw [hb2] at hg; simp at hg
        | cons z s =>
          have h1 := hall y (by rw [hb2]; simp)
          have h2 := hall z (by rw [hb2]; simp)
          have h3 : b.2.Pairwise (· < ·) := hw.asc
          rw [hb2, List.pairwise_cons] at h3
          have h4 := h3.1 z (by simp)
          rw [h1, h2] at h4
          exact absurd h4 (List.lt_irrefl _)
    · exact hlt
  refine ⟨⟨hw.key, hw.asc, fun x hx => hlong x hx, fun x hx y hy => ?_⟩, ?_⟩
  · show x.take (f.deep + 1) = y.take (f.deep + 1)
    have hx2 := hlong x hx
    have hy2 := hlong y hy
    have e1 := heq x hx
    have e2 := heq y hy
    unfold letter at e1 e2
    rw [List.getElem?_eq_getElem hx2] at e1
    rw [List.getElem?_eq_getElem hy2] at e2
    rw [List.take_add_one, List.take_add_one, List.getElem?_eq_getElem hx2, List.getElem?_eq_getElem hy2, h.alike x (hsub.subset hx) y (hsub.subset hy)]
    simp only [Option.getD_some] at e1 e2
    rw [e1, e2]
  · cases hb2 : b.2 with
    | nil => exact absurd hb2 hne
    | cons y s =>
      have hy : y ∈ b.2 := by rw [hb2]; simp
      have h1 := hlong y hy
      have h2 := (h.key y (hsub.subset hy)).1
      omega

end Go.Proofs.YtfhpkcamigkmdaaGreatDoor.T

namespace Go.Proofs.YtfhpkcamigkmdaaGreatDoor.T
open M

abbrev Br := UInt8 × List Str
/-- a fork's branches -/
def bs (f : Fork) : List Br := brs f.deep f.keys
def bit (b : Bool) : UInt8 := if b = true then 49 else 48
/-- the bits that tell which branches go on -/
def moreF (f : Fork) : Str := (bs f).map fun b => bit (goes b)
/-- the bits that tell where a fork begins -/
def firstN : Nat → Str
  | 0 => []
  | n + 1 => 49 :: List.replicate n 48
def letters (N : List Fork) : Str := N.flatMap fun f => (bs f).map (·.1)
def more (N : List Fork) : Str := N.flatMap moreF
def firsts (N : List Fork) : Str := N.flatMap fun f => firstN (bs f).length
/-- what is kept of a key behind so many letters -/
def restOf (k : Str) (d keep : Nat) : Str := (k.drop d).take keep
def restB (d keep : Nat) (b : Br) : Str := restOf (b.2.headD []) (d + 1) keep
def restsF (keep : Nat) (f : Fork) : List Str := ((bs f).filter (fun b => !goes b)).map (restB f.deep keep)
def rests (keep : Nat) (N : List Fork) : List Str := N.flatMap (restsF keep)
/-- where the branches of fork j begin -/
def start : List Fork → Nat → Nat
  | _, 0 => 0
  | [], _ + 1 => 0
  | f :: N, j + 1 => (bs f).length + start N j

theorem bit_ones (b : Bool) : ones [bit b] = if b = true then 1 else 0 := by cases b <;> rfl
theorem ones_bits {α : Type} (p : α → Bool) (l : List α) : ones (l.map fun x => bit (p x)) = (l.filter p).length := by
  induction l with
  | nil => rfl
  | cons x t ih =>
    rw [List.map_cons, show bit (p x) :: t.map (fun x => bit (p x)) = [bit (p x)] ++ t.map (fun x => bit (p x)) from rfl, ones_append, bit_ones, ih, List.filter_cons]
    cases p x <;> simp <;> omega
theorem ones_firstN (n : Nat) : ones (firstN (n + 1)) = 1 := by
  unfold firstN
  have : ∀ n, ones (List.replicate n (48 : UInt8)) = 0 := by
    intro n
    induction n with
    | zero => rfl
    | succ n ih => rw [List.replicate_succ]; unfold ones; rw [ih]; rfl
  unfold ones
  rw [this]; rfl
theorem firstN_len (n : Nat) : (firstN n).length = n := by cases n <;> simp [firstN]

theorem len_letters (N : List Fork) : (letters N).length = start N N.length := by
  induction N with
  | nil => rfl
  | cons f N ih =>
    unfold letters at *
    rw [List.flatMap_cons, List.length_append, ih, List.length_map]
    rfl
theorem len_more (N : List Fork) : (more N).length = start N N.length := by
  induction N with
  | nil => rfl
  | cons f N ih =>
    unfold more at *
    rw [List.flatMap_cons, List.length_append, ih]
    unfold moreF
    rw [List.length_map]
    rfl
theorem len_firsts (N : List Fork) : (firsts N).length = start N N.length := by
  induction N with
  | nil => rfl
  | cons f N ih =>
    unfold firsts at *
    rw [List.flatMap_cons, List.length_append, ih, firstN_len]
    rfl

/-- the one with number j is where fork j begins -/
theorem first_one (N : List Fork) (h : ∀ f ∈ N, bs f ≠ []) (j : Nat) (hj : j < N.length) : oneIdx (firsts N) j = some (start N j) := by
  induction N generalizing j with
  | nil => simp at hj
  | cons f N ih =>
    have hf : bs f ≠ [] := h f (by simp)
    obtain ⟨m, hm⟩ : ∃ m, (bs f).length = m + 1 := ⟨(bs f).length - 1, by
      have : 0 < (bs f).length := List.length_pos_iff.mpr hf
      omega⟩
    have e : firsts (f :: N) = firstN (m + 1) ++ firsts N := by unfold firsts; rw [List.flatMap_cons, hm]
    rw [e, oneIdx_append, ones_firstN]
    cases j with
    | zero => rw [if_pos (by omega)]; rfl
    | succ j =>
      rw [if_neg (by omega), show j + 1 - 1 = j by omega, ih (fun g hg => h g (by simp [hg])) j (by simpa using hj)]
      rw [firstN_len]
      simp [start, hm]
theorem first_end (N : List Fork) (h : ∀ f ∈ N, bs f ≠ []) : oneIdx (firsts N) N.length = none := by
  rw [oneIdx_none]
  induction N with
  | nil => simp [firsts, ones]
  | cons f N ih =>
    have hf : bs f ≠ [] := h f (by simp)
    obtain ⟨m, hm⟩ : ∃ m, (bs f).length = m + 1 := ⟨(bs f).length - 1, by
      have : 0 < (bs f).length := List.length_pos_iff.mpr hf
      omega⟩
    have e : firsts (f :: N) = firstN (m + 1) ++ firsts N := by unfold firsts; rw [List.flatMap_cons, hm]
    rw [e, ones_append, ones_firstN]
    have := ih (fun g hg => h g (by simp [hg]))
    simp
    omega

theorem filter_get {α : Type} (p : α → Bool) : ∀ (l : List α) (i : Nat) (x : α), l[i]? = some x → p x = true → (l.filter p)[((l.take i).filter p).length]? = some x
  | [], _, _, h, _ => by simp at h
  | a :: t, 0, x, h, hp => by
    simp at h
    subst h
    simp [hp]
  | a :: t, i + 1, x, h, hp => by
    have ih := filter_get p t i x (by simpa using h) hp
    rw [List.take_succ_cons, List.filter_cons, List.filter_cons]
    by_cases ha : p a = true
    · simp [ha]
      exact ih
    · simp [ha]
      exact ih
theorem kids_eq (f : Fork) : kids f = ((bs f).filter goes).map fun b => ⟨b.2, f.deep + 1⟩ := rfl

/-- from a branch that goes on, counting the ones up to it, to its fork -/
theorem leads_to (N : List Fork) (j p : Nat) (f : Fork) (b : Br) (hj : N[j]? = some f) (hp : (bs f)[p]? = some b) (hg : goes b = true) :
    (N.flatMap kids)[ones ((more N).take (start N j + p))]? = some ⟨b.2, f.deep + 1⟩ := by
  induction N generalizing j with
  | nil => simp at hj
  | cons g N ih =>
    have em : more (g :: N) = moreF g ++ more N := by unfold more; rw [List.flatMap_cons]
    have ek : (g :: N).flatMap kids = kids g ++ N.flatMap kids := by rw [List.flatMap_cons]
    have hlen : (moreF g).length = (bs g).length := by unfold moreF; rw [List.length_map]
    cases j with
    | zero =>
      simp at hj
      subst hj
      have hpl : p < (bs g).length := (List.getElem?_eq_some_iff.mp hp).1
      rw [em, ek]
      show (kids g ++ N.flatMap kids)[ones ((moreF g ++ more N).take (0 + p))]? = _
      rw [Nat.zero_add, List.take_append_of_le_length (by omega)]
      have e1 : ones ((moreF g).take p) = (((bs g).take p).filter goes).length := by
        unfold moreF
        rw [← List.map_take, ones_bits]
      rw [e1]
      have h2 := filter_get goes (bs g) p b hp hg
      have h3 : (kids g)[(((bs g).take p).filter goes).length]? = some ⟨b.2, g.deep + 1⟩ := by
        rw [kids_eq, List.getElem?_map, h2]; rfl
      rw [List.getElem?_append_left (List.getElem?_eq_some_iff.mp h3).1]
      exact h3
    | succ j =>
      have ih' := ih j (by simpa using hj)
      rw [em, ek]
      show (kids g ++ N.flatMap kids)[ones ((moreF g ++ more N).take ((bs g).length + start N j + p))]? = _
      rw [show (bs g).length + start N j + p = (moreF g).length + (start N j + p) by omega, List.take_append, ones_append]
      have e1 : ones (moreF g) = (kids g).length := by
        unfold moreF
        rw [ones_bits, kids_eq, List.length_map]
      rw [List.take_of_length_le (by omega), e1, show (moreF g).length + (start N j + p) - (moreF g).length = start N j + p by omega]
      rw [List.getElem?_append_right (by omega), Nat.add_sub_cancel_left]
      exact ih'

/-- the branch at a place -/
theorem more_at (N : List Fork) (j p : Nat) (f : Fork) (b : Br) (hj : N[j]? = some f) (hp : (bs f)[p]? = some b) : (more N)[start N j + p]? = some (bit (goes b)) ∧ (letters N)[start N j + p]? = some b.1 := by
  induction N generalizing j with
  | nil => simp at hj
  | cons g N ih =>
    have em : more (g :: N) = moreF g ++ more N := by unfold more; rw [List.flatMap_cons]
    have el : letters (g :: N) = (bs g).map (·.1) ++ letters N := by unfold letters; rw [List.flatMap_cons]
    have hlen : (moreF g).length = (bs g).length := by unfold moreF; rw [List.length_map]
    cases j with
    | zero =>
      simp at hj
      subst hj
      have hpl : p < (bs g).length := (List.getElem?_eq_some_iff.mp hp).1
      rw [em, el]
      show (moreF g ++ more N)[0 + p]? = _ ∧ ((bs g).map (·.1) ++ letters N)[0 + p]? = _
      rw [Nat.zero_add, List.getElem?_append_left (by omega), List.getElem?_append_left (by rw [List.length_map]; omega)]
      unfold moreF
      rw [List.getElem?_map, List.getElem?_map, hp]
      exact ⟨rfl, rfl⟩
    | succ j =>
      have ih' := ih j (by simpa using hj)
      rw [em, el]
      show (moreF g ++ more N)[(bs g).length + start N j + p]? = _ ∧ ((bs g).map (·.1) ++ letters N)[(bs g).length + start N j + p]? = _
      rw [List.getElem?_append_right (by omega), List.getElem?_append_right (by rw [List.length_map]; omega), hlen, List.length_map]
      rw [show (bs g).length + start N j + p - (bs g).length = start N j + p by omega]
      exact ih'

/-- how many forks the queue's work makes: it is worked off, all in all -/
theorem loads_append (a b : List Fork) : loads (a ++ b) = loads a + loads b := by unfold loads; rw [List.map_append, List.sum_append]
theorem kids_wf {f : Fork} (h : WF f) : ∀ g ∈ kids f, WF g ∧ g.deep ≤ 5 := by
  intro g hg
  rw [kids_eq] at hg
  obtain ⟨b, hb, rfl⟩ := List.mem_map.mp hg
  obtain ⟨hb1, hb2⟩ := List.mem_filter.mp hb
  exact h.kid hb1 (by simpa [goes] using hb2)
theorem nodes_eq (n : Nat) (q : List Fork) (hn : loads q ≤ n) (hw : ∀ f ∈ q, WF f ∧ f.deep ≤ 5) : nodes n q = q ++ (nodes n q).flatMap kids ∧ ∀ f ∈ nodes n q, WF f ∧ f.deep ≤ 5 := by
  induction n generalizing q with
  | zero =>
    cases q with
    | nil => exact ⟨rfl, by simp [nodes]⟩
    | cons f q => unfold loads load at hn; simp at hn
  | succ n ih =>
    cases q with
    | nil => exact ⟨rfl, by simp [nodes]⟩
    | cons f q =>
      have hf := hw f (by simp)
      have hk := kids_load f (by omega)
      have hl : loads (q ++ kids f) ≤ n := by
        rw [loads_append]
        have : loads (f :: q) = load f + loads q := by unfold loads; rw [List.map_cons, List.sum_cons]
        omega
      have hw' : ∀ g ∈ q ++ kids f, WF g ∧ g.deep ≤ 5 := by
        intro g hg
        rcases List.mem_append.mp hg with h | h
        · exact hw g (by simp [h])
        · exact kids_wf hf.1 g h
      obtain ⟨h1, h2⟩ := ih (q ++ kids f) hl hw'
      have hn : nodes (n + 1) (f :: q) = f :: nodes n (q ++ kids f) := rfl
      rw [hn]
      refine ⟨?_, fun g hg => ?_⟩
      · conv => lhs; rw [h1]
        rw [List.flatMap_cons, List.cons_append, List.append_assoc]
      · rcases List.mem_cons.mp hg with rfl | hg
        · exact hf
        · exact h2 g hg

end Go.Proofs.YtfhpkcamigkmdaaGreatDoor.T

namespace Go.Proofs.YtfhpkcamigkmdaaGreatDoor.T
open M

/-- a filter's strings -/
structure Sv where
  letters : Str
  more : Str
  first : Str
  rests : List Str
  keep : Nat
/-- the filter of forks -/
def enc (keep : Nat) (N : List Fork) : Sv := ⟨letters N, more N, firsts N, rests keep N, keep⟩
/-- ones ahead of a place; the one with a number -/
def Sv.rank (s : Sv) (i : Nat) : Nat := ones (s.more.take i)
def Sv.sel (s : Sv) (n : Nat) : Nat := (oneIdx s.first n).getD s.first.length
def Sv.kids (s : Sv) (i : Nat) : Nat × Nat := (s.sel (s.rank (i + 1)), s.sel (s.rank (i + 1) + 1))
/-- what has been read on the way to a branch -/
def Sv.now (s : Sv) (head : Str) (i : Nat) : Str := if s.letters.getD i 0 = 45 then head else head ++ [s.letters.getD i 0]
/-- what is kept of the keys of some branches -/
def Sv.add (s : Sv) (i to : Nat) (head : Str) : List Str :=
  if _h : i < to ∧ i < s.letters.length ∧ head.length ≤ 5 then
    if s.more.getD i 0 = 49 then
      if _ha : (s.kids i).1 ≤ i then []
      else s.add (s.kids i).1 (s.kids i).2 (s.now head i) ++ s.add (i + 1) to head
    else (if i - s.rank i < s.rests.length then [s.now head i ++ s.rests.getD (i - s.rank i) []] else []) ++ s.add (i + 1) to head
  else []
termination_by s.letters.length - i
decreasing_by all_goals omega

/-- the keys of a fork, each with how many letters lead to its branch -/
def leaves : Nat → Fork → List (Str × Nat)
  | 0, _ => []
  | n + 1, f => (bs f).flatMap fun b => if goes b = true then leaves n ⟨b.2, f.deep + 1⟩ else b.2.map fun k => (k, f.deep + 1)
/-- what is kept of a key -/
def keptK (keep : Nat) (x : Str × Nat) : Str := x.1.take (x.2 + keep)

/-- the kids of the first j forks -/
def kidsTo : List Fork → Nat → Nat
  | _, 0 => 0
  | [], _ + 1 => 0
  | f :: N, j + 1 => (kids f).length + kidsTo N j
theorem rank_start (N : List Fork) (j : Nat) (hj : j ≤ N.length) : ones ((more N).take (start N j)) = kidsTo N j := by
  induction N generalizing j with
  | nil => simp at hj; subst hj; rfl
  | cons g N ih =>
    cases j with
    | zero => rfl
    | succ j =>
      have em : more (g :: N) = moreF g ++ more N := by unfold more; rw [List.flatMap_cons]
      have hlen : (moreF g).length = (bs g).length := by unfold moreF; rw [List.length_map]
      rw [em]
      show ones ((moreF g ++ more N).take ((bs g).length + start N j)) = (kids g).length + kidsTo N j
      rw [← hlen, List.take_append, List.take_of_length_le (by omega), Nat.add_sub_cancel_left, ones_append, ih j (by simpa using hj)]
      have e1 : ones (moreF g) = (kids g).length := by
        unfold moreF
        rw [ones_bits, kids_eq, List.length_map]
      rw [e1]
/-- a fork is behind the one that leads to it -/
theorem kids_behind (n : Nat) (q : List Fork) (j : Nat) (hj : j < (nodes n q).length) : j < q.length + kidsTo (nodes n q) j := by
  induction n generalizing q j with
  | zero => simp [nodes] at hj
  | succ n ih =>
    cases q with
    | nil => simp [nodes] at hj
    | cons f q =>
      have hn : nodes (n + 1) (f :: q) = f :: nodes n (q ++ kids f) := rfl
      rw [hn] at hj ⊢
      cases j with
      | zero => simp; omega
      | succ j =>
        have := ih (q ++ kids f) j (by simpa using hj)
        rw [List.length_append] at this
        show j + 1 < (f :: q).length + ((kids f).length + kidsTo (nodes n (q ++ kids f)) j)
        simp
        omega

theorem start_mono (N : List Fork) (j : Nat) (f : Fork) (hj : N[j]? = some f) : start N (j + 1) = start N j + (bs f).length := by
  induction N generalizing j with
  | nil => simp at hj
  | cons g N ih =>
    cases j with
    | zero => simp at hj; subst hj; simp [start]
    | succ j =>
      have := ih j (by simpa using hj)
      show (bs g).length + start N (j + 1) = (bs g).length + start N j + (bs f).length
      omega
theorem start_le (N : List Fork) {i j : Nat} (h : i ≤ j) (hj : j ≤ N.length) : start N i ≤ start N j := by
  induction N generalizing i j with
  | nil => simp at hj; subst hj; have : i = 0 := by omega
           subst this; exact Nat.le_refl _
  | cons g N ih =>
    cases i with
    | zero => exact Nat.zero_le _
    | succ i =>
      cases j with
      | zero => omega
      | succ j =>
        have := ih (i := i) (j := j) (by omega) (by simpa using hj)
        show (bs g).length + start N i ≤ (bs g).length + start N j
        omega

/-- of a branch that does not go on: what is kept behind its letter -/
theorem rests_at (keep : Nat) (N : List Fork) (j p : Nat) (f : Fork) (b : Br) (hj : N[j]? = some f) (hp : (bs f)[p]? = some b) (hg : goes b = false) :
    (rests keep N)[start N j + p - ones ((more N).take (start N j + p))]? = some (restB f.deep keep b) := by
  induction N generalizing j with
  | nil => simp at hj
  | cons g N ih =>
    have em : more (g :: N) = moreF g ++ more N := by unfold more; rw [List.flatMap_cons]
    have er : rests keep (g :: N) = restsF keep g ++ rests keep N := by unfold rests; rw [List.flatMap_cons]
    have hlen : (moreF g).length = (bs g).length := by unfold moreF; rw [List.length_map]
    have split_len : ∀ l : List Br, (l.filter (fun b => !goes b)).length = l.length - (l.filter goes).length ∧ (l.filter goes).length ≤ l.length := by
      intro l
      induction l with
      | nil => exact ⟨rfl, Nat.le_refl _⟩
      | cons x t ih2 =>
        rw [List.filter_cons, List.filter_cons]
        cases goes x <;> simp <;> omega
    cases j with
    | zero =>
      simp at hj
      subst hj
      have hpl : p < (bs g).length := (List.getElem?_eq_some_iff.mp hp).1
      rw [em, er]
      show (restsF keep g ++ rests keep N)[0 + p - ones ((moreF g ++ more N).take (0 + p))]? = _
      rw [Nat.zero_add, List.take_append_of_le_length (by omega)]
      have e1 : ones ((moreF g).take p) = (((bs g).take p).filter goes).length := by
        unfold moreF
        rw [← List.map_take, ones_bits]
      have hs := split_len ((bs g).take p)
      rw [List.length_take, Nat.min_eq_left (by omega)] at hs
      rw [e1, ← hs.1]
      have h2 := filter_get (fun b => !goes b) (bs g) p b hp (by simp [hg])
      have h3 : (restsF keep g)[(((bs g).take p).filter (fun b => !goes b)).length]? = some (restB g.deep keep b) := by
        unfold restsF
        rw [List.getElem?_map, h2]; rfl
      rw [List.getElem?_append_left (List.getElem?_eq_some_iff.mp h3).1]
      exact h3
    | succ j =>
      have ih' := ih j (by simpa using hj)
      rw [em, er]
      show (restsF keep g ++ rests keep N)[(bs g).length + start N j + p - ones ((moreF g ++ more N).take ((bs g).length + start N j + p))]? = _
      rw [show (bs g).length + start N j + p = (moreF g).length + (start N j + p) by omega, List.take_append, List.take_of_length_le (by omega), Nat.add_sub_cancel_left, ones_append]
      have e1 : ones (moreF g) = ((bs g).filter goes).length := by
        unfold moreF
        rw [ones_bits]
      have e2 : (restsF keep g).length = (bs g).length - ((bs g).filter goes).length := by
        unfold restsF
        rw [List.length_map, (split_len (bs g)).1]
      have h4 := (split_len (bs g)).2
      have h5 : ones ((more N).take (start N j + p)) ≤ start N j + p := ones_take_le _ _
      rw [List.getElem?_append_right (by omega)]
      rw [show (moreF g).length + (start N j + p) - (ones (moreF g) + ones ((more N).take (start N j + p))) - (restsF keep g).length = start N j + p - ones ((more N).take (start N j + p)) by omega]
      exact ih'

end Go.Proofs.YtfhpkcamigkmdaaGreatDoor.T

namespace Go.Proofs.YtfhpkcamigkmdaaGreatDoor.T
open M

/-- all forks of a key list, level by level -/
structure Tree (N : List Fork) : Prop where
  wf : ∀ f ∈ N, WF f ∧ f.deep ≤ 5
  some_ : ∀ f ∈ N, bs f ≠ []
  next : ∀ r g, (N.flatMap kids)[r]? = some g → N[r + 1]? = some g
  behind : ∀ j, j < N.length → j < 1 + kidsTo N j

theorem bs_some {f : Fork} (h : f.keys ≠ []) : bs f ≠ [] := by
  unfold bs
  cases hk : f.keys with
  | nil => exact absurd hk h
  | cons k t => rw [brs_cons]; simp
/-- the tree of a key list that is not empty -/
theorem tree_of {keys : List Str} (h : WF ⟨keys, 0⟩) (hne : keys ≠ []) : Tree (nodes (loads [⟨keys, 0⟩]) [⟨keys, 0⟩]) ∧ (nodes (loads [⟨keys, 0⟩]) [⟨keys, 0⟩])[0]? = some ⟨keys, 0⟩ := by
  have hw : ∀ f ∈ [(⟨keys, 0⟩ : Fork)], WF f ∧ f.deep ≤ 5 := by
    intro f hf
    rw [List.mem_singleton.mp hf]
    exact ⟨h, Nat.zero_le _⟩
  obtain ⟨h1, h2⟩ := nodes_eq _ [⟨keys, 0⟩] (Nat.le_refl _) hw
  have hb := kids_behind (loads [⟨keys, 0⟩]) [⟨keys, 0⟩]
  generalize nodes (loads [⟨keys, 0⟩]) [⟨keys, 0⟩] = N at *
  have h0 : N[0]? = some ⟨keys, 0⟩ := by rw [h1]; rfl
  refine ⟨⟨h2, ?_, ?_, fun j hj => by simpa using hb j hj⟩, h0⟩
  · intro f hf
    rw [h1] at hf
    rcases List.mem_append.mp hf with hf | hf
    · rw [List.mem_singleton.mp hf]; exact bs_some hne
    · obtain ⟨g, _, hk⟩ := List.mem_flatMap.mp hf
      rw [kids_eq] at hk
      obtain ⟨b, hb, rfl⟩ := List.mem_map.mp hk
      have hl : 1 < b.2.length := by simpa [goes] using (List.mem_filter.mp hb).2
      refine bs_some fun e => ?_
      have e' : b.2 = [] := e
      rw [e'] at hl; simp at hl
  · intro r g hr
    rw [h1]
    rw [List.getElem?_append_right (by simp)]
    simpa using hr

section
variable {N : List Fork} (T : Tree N) (keep : Nat)
include T

/-- a branch that goes on leads to the branches of its fork, which are behind -/
theorem Tree.kids {j p : Nat} {f : Fork} {b : Br} (hj : N[j]? = some f) (hp : (bs f)[p]? = some b) (hg : goes b = true) :
    ∃ c, N[c]? = some ⟨b.2, f.deep + 1⟩ ∧ j < c ∧ (enc keep N).kids (start N j + p) = (start N c, start N (c + 1)) := by
  have h1 := leads_to N j p f b hj hp hg
  have h2 := T.next _ _ h1
  have hm := (more_at N j p f b hj hp).1
  rw [hg] at hm
  have hrank : (enc keep N).rank (start N j + p + 1) = ones ((more N).take (start N j + p)) + 1 := by
    show ones ((more N).take (start N j + p + 1)) = _
    rw [ones_take_succ _ _ _ hm]; rfl
  refine ⟨_, h2, ?_, ?_⟩
  · have hjl : j < N.length := (List.getElem?_eq_some_iff.mp hj).1
    have h3 := T.behind j hjl
    have h4 := rank_start N j (by omega)
    have h5 : ones ((more N).take (start N j)) ≤ ones ((more N).take (start N j + p)) := by
      rw [List.take_add, ones_append]; omega
    omega
  · have hcl : ones ((more N).take (start N j + p)) + 1 < N.length := (List.getElem?_eq_some_iff.mp h2).1
    unfold Sv.kids
    rw [hrank]
    have e1 : ∀ c, c ≤ N.length → (enc keep N).sel c = start N c := by
      intro c hc
      show ((oneIdx (firsts N) c).getD (firsts N).length) = start N c
      rcases Nat.lt_or_ge c N.length with hlt | hge
      · rw [first_one N T.some_ c hlt]; rfl
      · have : c = N.length := by omega
        subst this
        rw [first_end N T.some_, len_firsts]; rfl
    rw [e1 _ (by omega), e1 _ (by omega)]

/-- the letter of a branch, read behind what was read -/
theorem now_is {j p : Nat} {f : Fork} {b : Br} (hj : N[j]? = some f) (hp : (bs f)[p]? = some b) {head : Str} (hh : ∀ k ∈ f.keys, k.take f.deep = head) :
    ∀ x ∈ b.2, (enc keep N).now head (start N j + p) = x.take (f.deep + 1) := by
  intro x hx
  have hf := (T.wf f (List.mem_of_getElem? hj)).1
  have ok := brs_ok hf
  have hb : b ∈ brs f.deep f.keys := List.mem_of_getElem? hp
  have hxk : x ∈ f.keys := by
    rw [← ok.all]
    exact List.mem_flatten.mpr ⟨b.2, List.mem_map.mpr ⟨b, hb, rfl⟩, hx⟩
  have hl := (more_at N j p f b hj hp).2
  unfold Sv.now
  have e : (enc keep N).letters.getD (start N j + p) 0 = b.1 := by
    show (letters N).getD (start N j + p) 0 = b.1
    rw [List.getD_eq_getElem?_getD, hl]; rfl
  rw [e, ← (ok.each b hb).2 x hx]
  rcases letter_key (hf.key x hxk) f.deep with ⟨h45, hle⟩ | ⟨h97, hlt⟩
  · rw [if_pos h45, ← hh x hxk, List.take_of_length_le hle, List.take_of_length_le (by omega)]
  · rw [if_neg (fun e => by rw [e] at h97; exact absurd h97 (by decide)), ← hh x hxk, List.take_add_one]
    congr 1
    unfold letter
    rw [List.getElem?_eq_getElem hlt]; rfl

theorem head_len {j : Nat} {f : Fork} (hj : N[j]? = some f) {head : Str} (hh : ∀ k ∈ f.keys, k.take f.deep = head) : head.length = f.deep := by
  have hm := List.mem_of_getElem? hj
  have hf := (T.wf f hm).1
  have hb := T.some_ f hm
  cases hk : f.keys with
  | nil => exfalso; apply hb; unfold bs; rw [hk, brs_nil]
  | cons k t =>
    have hkm : k ∈ f.keys := by rw [hk]; simp
    have := hf.long k hkm
    rw [← hh k hkm, List.length_take]; omega

/-- what is kept of the keys of a fork, read off the strings -/
theorem add_fork : ∀ (n j : Nat) (f : Fork) (head : Str), N[j]? = some f → 6 - f.deep ≤ n → (∀ k ∈ f.keys, k.take f.deep = head) →
    (enc keep N).add (start N j) (start N (j + 1)) head = (leaves n f).map (keptK keep) := by
  intro n
  induction n with
  | zero =>
    intro j f head hj hn _
    have := (T.wf f (List.mem_of_getElem? hj)).2
    omega
  | succ n ih =>
    intro j f head hj hn hh
    have hjl : j < N.length := (List.getElem?_eq_some_iff.mp hj).1
    have hf := (T.wf f (List.mem_of_getElem? hj)).1
    have hd := (T.wf f (List.mem_of_getElem? hj)).2
    have ok := brs_ok hf
    have hst := start_mono N j f hj
    have htot : start N (j + 1) ≤ (letters N).length := by rw [len_letters]; exact start_le N (by omega) (Nat.le_refl _)
    have hhl := head_len T hj hh
    have step : ∀ m p, (bs f).length - p = m → p ≤ (bs f).length →
        (enc keep N).add (start N j + p) (start N (j + 1)) head = (((bs f).drop p).flatMap fun b => if goes b = true then leaves n ⟨b.2, f.deep + 1⟩ else b.2.map fun k => (k, f.deep + 1)).map (keptK keep) := by
      intro m
      induction m with
      | zero =>
        intro p hm hp
        have : p = (bs f).length := by omega
        subst this
        rw [List.drop_length]
        unfold Sv.add
        rw [dif_neg (by omega)]
        rfl
      | succ m ihm =>
        intro p hm hp
        have hpl : p < (bs f).length := by omega
        have hb : (bs f)[p]? = some (bs f)[p] := List.getElem?_eq_getElem hpl
        generalize hbb : (bs f)[p] = b at hb
        have hbm : b ∈ brs f.deep f.keys := List.mem_of_getElem? hb
        have hrest := ihm (p + 1) (by omega) (by omega)
        have hdrop : (bs f).drop p = b :: (bs f).drop (p + 1) := by rw [List.drop_eq_getElem_cons hpl, hbb]
        rw [hdrop, List.flatMap_cons, List.map_append, ← hrest]
        have hmore := (more_at N j p f b hj hb).1
        have hmg : (enc keep N).more.getD (start N j + p) 0 = bit (goes b) := by
          show (more N).getD (start N j + p) 0 = _
          rw [List.getD_eq_getElem?_getD, hmore]; rfl
        have hnow := now_is T keep hj hb hh
        obtain ⟨hne, _⟩ := ok.each b hbm
        conv => lhs; unfold Sv.add
        rw [dif_pos ⟨by omega, by show start N j + p < (letters N).length; omega, by omega⟩, hmg]
        by_cases hg : goes b = true
        · obtain ⟨c, hc, hjc, hkc⟩ := T.kids keep hj hb hg
          have hcl : c < N.length := (List.getElem?_eq_some_iff.mp hc).1
          have hge : start N (j + 1) ≤ start N c := start_le N (by omega) (by omega)
          rw [hg, if_pos (show bit true = 49 from rfl), hkc, dif_neg (by show ¬ start N c ≤ start N j + p; omega), if_pos (rfl : true = true)]
          congr 1
          exact ih c ⟨b.2, f.deep + 1⟩ _ hc (by show 6 - (f.deep + 1) ≤ n; omega) (fun k hk => (hnow k hk).symm)
        · have hgf : goes b = false := by simpa using hg
          rw [hgf, if_neg (show ¬ bit false = 49 by decide), if_neg (show ¬ false = true by simp)]
          congr 1
          obtain ⟨x, hx⟩ : ∃ x, b.2 = [x] := by
            have hl : b.2.length ≤ 1 := by simpa [goes] using hgf
            cases hb2 : b.2 with
            | nil => exact absurd hb2 hne
            | cons y s =>
              rw [hb2] at hl
              cases s with
              | nil => exact ⟨y, rfl⟩
              | cons z s => simp at hl
          have hr := rests_at keep N j p f b hj hb hgf
          have hrl : start N j + p - (enc keep N).rank (start N j + p) < (enc keep N).rests.length := (List.getElem?_eq_some_iff.mp hr).1
          rw [if_pos hrl, hnow x (by rw [hx]; simp)]
          have e : (enc keep N).rests.getD (start N j + p - (enc keep N).rank (start N j + p)) [] = restB f.deep keep b := by
            rw [List.getD_eq_getElem?_getD]
            show ((rests keep N)[start N j + p - ones ((more N).take (start N j + p))]?).getD [] = _
            rw [hr]; rfl
          rw [e, hx]
          unfold restB restOf keptK
          rw [hx]
          simp only [List.headD_cons, List.map_cons, List.map_nil]
          rw [← List.take_add]
    have := step _ 0 rfl (Nat.zero_le _)
    rw [Nat.add_zero] at this
    rw [this]
    rfl
end

end Go.Proofs.YtfhpkcamigkmdaaGreatDoor.T

namespace Go.Proofs.YtfhpkcamigkmdaaGreatDoor.T
open M

theorem pair_nth {α : Type} {R : α → α → Prop} {l : List α} (h : l.Pairwise R) {a b : α} (ha : a ∈ l) (hb : b ∈ l) : a = b ∨ R a b ∨ R b a := by
  induction l with
  | nil => cases ha
  | cons x t ih =>
    rw [List.pairwise_cons] at h
    rcases List.mem_cons.mp ha with ea | ha2
    · rcases List.mem_cons.mp hb with eb | hb2
      · exact .inl (by rw [ea, eb])
      · rw [ea]; exact .inr (.inl (h.1 b hb2))
    · rcases List.mem_cons.mp hb with eb | hb2
      · rw [eb]; exact .inr (.inr (h.1 a ha2))
      · exact ih h.2 ha2 hb2
/-- a branch has just the keys with its letter -/
theorem branch_of {f : Fork} (h : WF f) {b : Br} (hb : b ∈ bs f) {x : Str} (hx : x ∈ f.keys) (hl : letter x f.deep = b.1) : x ∈ b.2 := by
  have ok := brs_ok h
  rw [← ok.all] at hx
  obtain ⟨g, hg, hxg⟩ := List.mem_flatten.mp hx
  obtain ⟨b', hb', rfl⟩ := List.mem_map.mp hg
  have he := (ok.each b' hb').2 x hxg
  rcases pair_nth ok.letters hb hb' with e | e | e
  · rw [e]; exact hxg
  · rw [← hl, he] at e; omega
  · rw [← hl, he] at e; omega
theorem branch_sub {f : Fork} (h : WF f) {b : Br} (hb : b ∈ bs f) {x : Str} (hx : x ∈ b.2) : x ∈ f.keys := by
  rw [← (brs_ok h).all]
  exact List.mem_flatten.mpr ⟨b.2, List.mem_map.mpr ⟨b, hb, rfl⟩, hx⟩
theorem letter_take {x y : Str} {d : Nat} (h : x.take (d + 1) = y.take (d + 1)) : letter x d = letter y d := by
  unfold letter
  have e : ∀ z : Str, z[d]? = (z.take (d + 1))[d]? := fun z => by rw [List.getElem?_take_of_lt (by omega)]
  rw [e x, e y, h]
theorem take_le {x y : Str} {d e : Nat} (hde : d ≤ e) (h : x.take e = y.take e) : x.take d = y.take d := by
  have := congrArg (List.take d) h
  rwa [List.take_take, List.take_take, Nat.min_eq_left hde] at this
theorem single_of {b : Br} (hne : b.2 ≠ []) (hg : goes b = false) : ∃ x, b.2 = [x] := by
  have hl : b.2.length ≤ 1 := by simpa [goes] using hg
  cases hb2 : b.2 with
  | nil => exact absurd hb2 hne
  | cons y s =>
    rw [hb2] at hl
    cases s with
    | nil => exact ⟨y, rfl⟩
    | cons z s => simp at hl
theorem two_of {l : List Str} (ha : ascS l) (h : 1 < l.length) (k : Str) : ∃ k' ∈ l, k' ≠ k := by
  cases l with
  | nil => simp at h
  | cons x t =>
    cases t with
    | nil => simp at h
    | cons y t =>
      by_cases hx : x = k
      · refine ⟨y, by simp, fun hy => ?_⟩
        have ha' : (x :: y :: t).Pairwise (· < ·) := ha
        rw [List.pairwise_cons] at ha'
        have := ha'.1 y (by simp)
        rw [hx, hy] at this
        exact absurd this (List.lt_irrefl _)
      · exact ⟨x, by simp, hx⟩

theorem leaves_keys : ∀ (n : Nat) (f : Fork), WF f → f.deep ≤ 5 → 6 - f.deep ≤ n → (leaves n f).map (·.1) = f.keys
  | 0, f, _, hd, hn => by omega
  | n + 1, f, h, hd, hn => by
    have ok := brs_ok h
    have e : ∀ b ∈ bs f, (if goes b = true then leaves n ⟨b.2, f.deep + 1⟩ else b.2.map fun k => (k, f.deep + 1)).map (·.1) = b.2 := by
      intro b hb
      by_cases hg : goes b = true
      · rw [if_pos hg]
        have hk := h.kid hb (by simpa [goes] using hg)
        exact leaves_keys n ⟨b.2, f.deep + 1⟩ hk.1 hk.2 (by show 6 - (f.deep + 1) ≤ n; omega)
      · rw [if_neg hg, List.map_map]
        have e1 : ((fun x : Str × Nat => x.1) ∘ fun k : Str => (k, f.deep + 1)) = id := rfl
        rw [e1, List.map_id]
    show ((bs f).flatMap fun b => if goes b = true then leaves n ⟨b.2, f.deep + 1⟩ else b.2.map fun k => (k, f.deep + 1)).map (fun x : Str × Nat => x.1) = f.keys
    rw [List.map_flatMap]
    have : (bs f).flatMap (fun b => (if goes b = true then leaves n ⟨b.2, f.deep + 1⟩ else b.2.map fun k => (k, f.deep + 1)).map (·.1)) = (bs f).flatMap (·.2) := by
      rw [List.flatMap_def, List.flatMap_def]
      congr 1
      exact List.map_congr_left e
    rw [this, List.flatMap_def]
    exact ok.all

/-- so many letters set a key of the list apart, and not fewer -/
structure Apart (f : Fork) (k : Str) (D : Nat) : Prop where
  mem : k ∈ f.keys
  low : f.deep + 1 ≤ D
  high : D ≤ k.length + 1
  apart : ∀ k' ∈ f.keys, k' ≠ k → k'.take D ≠ k.take D
  least : D = f.deep + 1 ∨ ∃ k' ∈ f.keys, k' ≠ k ∧ k'.take (D - 1) = k.take (D - 1)

theorem leaves_apart : ∀ (n : Nat) (f : Fork), WF f → ∀ x ∈ leaves n f, Apart f x.1 x.2
  | 0, f, _, x, hx => by simp [leaves] at hx
  | n + 1, f, h, x, hx => by
    have ok := brs_ok h
    obtain ⟨b, hb, hxb⟩ := List.mem_flatMap.mp hx
    have hsub := fun y hy => branch_sub h hb (x := y) hy
    have heq := (ok.each b hb).2
    have hout : ∀ k ∈ b.2, ∀ k' ∈ f.keys, k' ∉ b.2 → k'.take (f.deep + 1) ≠ k.take (f.deep + 1) := by
      intro k hk k' hk' hn e
      exact hn (branch_of h hb hk' (by rw [letter_take e]; exact heq k hk))
    by_cases hg : goes b = true
    · rw [if_pos hg] at hxb
      have hl : 1 < b.2.length := by simpa [goes] using hg
      have hk := h.kid hb hl
      have ih := leaves_apart n ⟨b.2, f.deep + 1⟩ hk.1 x hxb
      have hlow : f.deep + 1 + 1 ≤ x.2 := ih.low
      refine ⟨hsub _ ih.mem, by omega, ih.high, fun k' hk' hne => ?_, ?_⟩
      · by_cases hin : k' ∈ b.2
        · exact ih.apart k' hin hne
        · intro e
          exact hout x.1 ih.mem k' hk' hin (take_le (by omega) e)
      · right
        rcases ih.least with e | ⟨k', hk', hne, e⟩
        · obtain ⟨k', hk', hne⟩ := two_of hk.1.asc hl x.1
          refine ⟨k', hsub _ hk', hne, ?_⟩
          have e' : x.2 = f.deep + 1 + 1 := e
          rw [e']
          exact hk.1.alike k' hk' x.1 ih.mem
        · exact ⟨k', hsub _ hk', hne, e⟩
    · rw [if_neg hg] at hxb
      obtain ⟨y, hy⟩ := single_of (ok.each b hb).1 (by simpa using hg)
      rw [hy] at hxb
      simp at hxb
      subst hxb
      have hyb : y ∈ b.2 := by rw [hy]; simp
      refine ⟨hsub y hyb, Nat.le_refl _, by have := h.long y (hsub y hyb); show f.deep + 1 ≤ y.length + 1; omega, fun k' hk' hne => ?_, .inl rfl⟩
      refine hout y hyb k' hk' ?_
      rw [hy]
      simpa using hne
/-- it is one number -/
theorem Apart.one {f : Fork} {k : Str} {D E : Nat} (h : Apart f k D) (h' : Apart f k E) : D = E := by
  have aux : ∀ {D E : Nat}, Apart f k D → Apart f k E → ¬ D < E := by
    intro D E h h' hlt
    rcases h'.least with e | ⟨k', hk', hne, e⟩
    · have := h.low; omega
    · exact h.apart k' hk' hne (take_le (by omega) e)
  have h1 := aux h h'
  have h2 := aux h' h
  omega

/-- keys, as a fork without letters -/
def rootF (keys : List Str) : Fork := ⟨keys, 0⟩
/-- each key with how many letters set it apart -/
def sepL (keys : List Str) : List (Str × Nat) := leaves 6 (rootF keys)
theorem sepL_keys {keys : List Str} (h : WF (rootF keys)) : (sepL keys).map (·.1) = keys := leaves_keys 6 (rootF keys) h (Nat.zero_le _) (by show 6 - 0 ≤ 6; omega)
theorem sepL_apart {keys : List Str} (h : WF (rootF keys)) : ∀ x ∈ sepL keys, Apart (rootF keys) x.1 x.2 := leaves_apart 6 (rootF keys) h

end Go.Proofs.YtfhpkcamigkmdaaGreatDoor.T

namespace Go.Proofs.YtfhpkcamigkmdaaGreatDoor.T
open M

/-- what is kept of a key is all of it -/
def wholeK (keep : Nat) (x : Str × Nat) : Bool := decide (x.1.length < x.2 + keep)
/-- a key may be the one of which this is kept -/
def mayBe (keep : Nat) (k : Str) (x : Str × Nat) : Bool := if wholeK keep x = true then k == x.1 else k.take (x.2 + keep) == x.1.take (x.2 + keep)

theorem mayBe_take {keep : Nat} {k : Str} {x : Str × Nat} (h : mayBe keep k x = true) : k.take x.2 = x.1.take x.2 := by
  unfold mayBe at h
  split at h
  · rw [beq_iff_eq] at h; rw [h]
  · rw [beq_iff_eq] at h; exact take_le (by omega) h

/-- leaves of branches with another letter are no key's that leads elsewhere -/
theorem other_branch {f : Fork} (h : WF f) {n : Nat} {b : Br} (hb : b ∈ bs f) {k : Str} (hl : letter k f.deep ≠ b.1) (keep : Nat) :
    (if goes b = true then leaves n ⟨b.2, f.deep + 1⟩ else b.2.map fun k => (k, f.deep + 1)).any (mayBe keep k) = false := by
  rw [← Bool.not_eq_true, List.any_eq_true]
  rintro ⟨x, hx, hm⟩
  have ok := brs_ok h
  have hmem : x.1 ∈ b.2 ∧ f.deep + 1 ≤ x.2 := by
    by_cases hg : goes b = true
    · rw [if_pos hg] at hx
      have ha := leaves_apart n _ (h.kid hb (by simpa [goes] using hg)).1 x hx
      have h1 : f.deep + 1 + 1 ≤ x.2 := ha.low
      exact ⟨ha.mem, by omega⟩
    · rw [if_neg hg] at hx
      obtain ⟨y, hy, rfl⟩ := List.mem_map.mp hx
      exact ⟨hy, Nat.le_refl _⟩
  have ht := take_le hmem.2 (mayBe_take hm)
  exact hl (by rw [letter_take ht]; exact (ok.each b hb).2 x.1 hmem.1)

theorem any_flatMap {α β : Type} (l : List α) (g : α → List β) (p : β → Bool) : (l.flatMap g).any p = l.any fun a => (g a).any p := by
  induction l with
  | nil => rfl
  | cons a t ih => rw [List.flatMap_cons, List.any_append, List.any_cons, ih]

/-- no branch has a key's letter: it is not there -/
theorem lost {f : Fork} (h : WF f) (n : Nat) (k : Str) (keep : Nat) (hl : ∀ b ∈ bs f, b.1 ≠ letter k f.deep) : (leaves (n + 1) f).any (mayBe keep k) = false := by
  show ((bs f).flatMap _).any _ = false
  rw [any_flatMap, List.any_eq_false]
  intro b hb
  rw [other_branch h hb (fun e => hl b hb e.symm)]
  simp
/-- a branch has a key's letter: it is there if it is behind that branch -/
theorem found {f : Fork} (h : WF f) (n : Nat) (k : Str) (keep : Nat) {b : Br} (hb : b ∈ bs f) (hl : b.1 = letter k f.deep) :
    (leaves (n + 1) f).any (mayBe keep k) = (if goes b = true then leaves n ⟨b.2, f.deep + 1⟩ else b.2.map fun k => (k, f.deep + 1)).any (mayBe keep k) := by
  show ((bs f).flatMap _).any _ = _
  rw [any_flatMap]
  rw [Bool.eq_iff_iff, List.any_eq_true]
  constructor
  · rintro ⟨b', hb', hm⟩
    by_cases e : b' = b
    · rw [e] at hm; exact hm
    · exfalso
      have ok := brs_ok h
      have hne : letter k f.deep ≠ b'.1 := by
        intro e2
        rw [← hl] at e2
        rcases pair_nth ok.letters hb hb' with e3 | e3 | e3
        · exact e e3.symm
        · rw [e2] at e3; omega
        · rw [e2] at e3; omega
      rw [other_branch h hb' hne] at hm
      cases hm
  · intro hm; exact ⟨b, hb, hm⟩
/-- behind a branch that goes on a key begins as those keys do -/
theorem found_alike {f : Fork} (h : WF f) {k : Str} (hk : isKey k) (hh : ∀ x ∈ f.keys, x.take f.deep = k.take f.deep) {b : Br} (hb : b ∈ bs f) (hl : b.1 = letter k f.deep) :
    ∀ x ∈ b.2, x.take (f.deep + 1) = k.take (f.deep + 1) := by
  intro x hx
  have hxk := branch_sub h hb hx
  have he := ((brs_ok h).each b hb).2 x hx
  rw [hl] at he
  have h1 := letter_key (h.key x hxk) f.deep
  have h2 := letter_key hk f.deep
  rw [List.take_add_one, List.take_add_one, hh x hxk]
  congr 1
  rcases h1 with ⟨e1, l1⟩ | ⟨e1, l1⟩
  · rcases h2 with ⟨e2, l2⟩ | ⟨e2, l2⟩
    · rw [List.getElem?_eq_none l1, List.getElem?_eq_none l2]
    · rw [← he, e1] at e2; exact absurd e2 (by decide)
  · rcases h2 with ⟨e2, l2⟩ | ⟨e2, l2⟩
    · rw [he, e2] at e1; exact absurd e1 (by decide)
    · unfold letter at he
      rw [List.getElem?_eq_getElem l1, List.getElem?_eq_getElem l2] at he ⊢
      simp only [Option.getD_some] at he
      rw [he]

/-- at the end of the way: the letters behind it, against what is kept -/
def endHas (keep d : Nat) (c : UInt8) (rest k : Str) : Bool :=
  if c = 45 ∨ rest.length < keep then k.drop (min (d + 1) k.length) == rest
  else decide (rest.length ≤ (k.drop (min (d + 1) k.length)).length) && ((k.drop (min (d + 1) k.length)).take rest.length == rest)
theorem end_is {f : Fork} (h : WF f) {k : Str} (hk : isKey k) (hh : ∀ x ∈ f.keys, x.take f.deep = k.take f.deep) {b : Br} (hb : b ∈ bs f) (hl : b.1 = letter k f.deep) {x : Str} (hx : b.2 = [x]) (keep : Nat) :
    endHas keep f.deep b.1 (restOf x (f.deep + 1) keep) k = mayBe keep k (x, f.deep + 1) := by
  have hxb : x ∈ b.2 := by rw [hx]; simp
  have hxk := branch_sub h hb hxb
  have hal := found_alike h hk hh hb hl x hxb
  have he := ((brs_ok h).each b hb).2 x hxb
  have hxl := h.long x hxk
  unfold endHas mayBe wholeK restOf
  simp only [decide_eq_true_eq]
  rw [hl]
  rcases letter_key hk f.deep with ⟨e2, l2⟩ | ⟨e2, l2⟩
  · -- the key ends here
    have hx45 : letter x f.deep = 45 := by rw [he, hl, e2]
    have hxl2 : x.length ≤ f.deep := by
      rcases letter_key (h.key x hxk) f.deep with ⟨_, l⟩ | ⟨e, _⟩
      · exact l
      · rw [hx45] at e; exact absurd e (by decide)
    have hkx : x = k := ended (hh x hxk) hxl2 l2
    subst hkx
    rw [if_pos (.inl e2), if_pos (by omega)]
    rw [show min (f.deep + 1) x.length = x.length by omega, List.drop_length, List.drop_eq_nil_of_le (by omega)]
    simp
  · have hkl : f.deep + 1 ≤ k.length := l2
    have hxl3 : f.deep + 1 ≤ x.length := by
      have := congrArg List.length hal
      rw [List.length_take, List.length_take] at this
      omega
    have hne : ¬ letter k f.deep = 45 := fun e => by rw [e] at e2; exact absurd e2 (by decide)
    rw [show min (f.deep + 1) k.length = f.deep + 1 by omega]
    have hrl : ((x.drop (f.deep + 1)).take keep).length = min keep (x.length - (f.deep + 1)) := by rw [List.length_take, List.length_drop]
    by_cases hw : x.length < f.deep + 1 + keep
    · rw [if_pos (.inr (by omega)), if_pos hw]
      rw [List.take_of_length_le (by rw [List.length_drop]; omega)]
      rw [Bool.eq_iff_iff, beq_iff_eq, beq_iff_eq]
      constructor
      · intro e
        rw [← List.take_append_drop (f.deep + 1) k, ← List.take_append_drop (f.deep + 1) x, e, hal]
      · intro e; rw [e]
    · rw [if_neg (by rintro (e | e); exact hne e; omega), if_neg hw]
      have hr : ((x.drop (f.deep + 1)).take keep).length = keep := by omega
      rw [hr, Bool.eq_iff_iff]
      simp only [Bool.and_eq_true, decide_eq_true_eq, beq_iff_eq]
      have t1 : k.take (f.deep + 1 + keep) = k.take (f.deep + 1) ++ (k.drop (f.deep + 1)).take keep := List.take_add
      have t2 : x.take (f.deep + 1 + keep) = x.take (f.deep + 1) ++ (x.drop (f.deep + 1)).take keep := List.take_add
      rw [t1, t2, hal]
      constructor
      · rintro ⟨_, e⟩; rw [e]
      · intro e
        have e' := List.append_cancel_left e
        refine ⟨?_, e'⟩
        have := congrArg List.length e'
        rw [hr, List.length_take] at this
        omega

end Go.Proofs.YtfhpkcamigkmdaaGreatDoor.T

namespace Go.Proofs.YtfhpkcamigkmdaaGreatDoor.T
open M

/-- two strings in order: where they part -/
theorem part_of {x y : Str} (h : x < y) : ∃ p s t, x = p ++ s ∧ y = p ++ t ∧ (s = [] ∧ t ≠ [] ∨ ∃ a b u v, s = a :: u ∧ t = b :: v ∧ a < b) := by
  induction x generalizing y with
  | nil =>
    cases y with
    | nil => exact absurd h (by simp)
    | cons b t => exact ⟨[], [], b :: t, rfl, rfl, .inl ⟨rfl, by simp⟩⟩
  | cons a s ih =>
    cases y with
    | nil => exact absurd h (by simp)
    | cons b t =>
      rw [List.cons_lt_cons_iff] at h
      rcases h with h | ⟨rfl, h⟩
      · exact ⟨[], a :: s, b :: t, rfl, rfl, .inr ⟨a, b, s, t, rfl, rfl, h⟩⟩
      · obtain ⟨p, s', t', e1, e2, e3⟩ := ih h
        exact ⟨a :: p, s', t', by rw [e1]; rfl, by rw [e2]; rfl, e3⟩

/-- strings cut behind where they part stay in order -/
theorem cut_lt {x y : Str} (h : x < y) {m n : Nat} (hm : ∀ d, x.take d = y.take d → d < m) (hn : ∀ d, x.take d = y.take d → d < n) : x.take m < y.take n := by
  obtain ⟨p, s, t, rfl, rfl, hst⟩ := part_of h
  have hp : (p ++ s).take p.length = (p ++ t).take p.length := by rw [List.take_left, List.take_left]
  have h1 := hm _ hp
  have h2 := hn _ hp
  rw [List.take_append, List.take_append, List.take_of_length_le (by omega : p.length ≤ m), List.take_of_length_le (by omega : p.length ≤ n), lt_append]
  rcases hst with ⟨rfl, hne⟩ | ⟨a, b, u, v, rfl, rfl, hab⟩
  · cases t with
    | nil => exact absurd rfl hne
    | cons b t =>
      obtain ⟨q, hq⟩ : ∃ q, n - p.length = q + 1 := ⟨n - p.length - 1, by omega⟩
      rw [hq]
      simp
  · obtain ⟨q, hq⟩ : ∃ q, n - p.length = q + 1 := ⟨n - p.length - 1, by omega⟩
    obtain ⟨r, hr⟩ : ∃ r, m - p.length = r + 1 := ⟨m - p.length - 1, by omega⟩
    rw [hq, hr, List.take_succ_cons, List.take_succ_cons, List.cons_lt_cons_iff]
    exact .inl hab

section
variable (g : Str → Str)
/-- a fork, each key cut -/
def mapF (f : Fork) : Fork := ⟨f.keys.map g, f.deep⟩
/-- cutting leaves the letter of each key of a fork -/
def Inv (f : Fork) : Prop := ∀ k ∈ f.keys, letter (g k) f.deep = letter k f.deep

theorem brs_map (d : Nat) : ∀ (n : Nat) (l : List Str), l.length ≤ n → (∀ k ∈ l, letter (g k) d = letter k d) → brs d (l.map g) = (brs d l).map fun b => (b.1, b.2.map g) := by
  intro n
  induction n with
  | zero =>
    intro l hl _
    have : l = [] := List.eq_nil_of_length_eq_zero (by omega)
    subst this
    rw [List.map_nil, brs_nil]; rfl
  | succ n ih =>
    intro l hl h
    cases l with
    | nil => rw [List.map_nil, brs_nil]; rfl
    | cons k t =>
      have hk := h k (by simp)
      have hg : group (g k) (t.map g) d = (group k t d).map g := by
        unfold group
        rw [← List.map_cons, List.filter_map, hk]
        congr 1
        refine List.filter_congr fun x hx => ?_
        simp only [Function.comp]
        rw [h x hx]
      rw [List.map_cons, brs_cons, brs_cons, hg, hk, List.length_map, ← List.map_cons, ← List.map_drop, List.map_cons]
      congr 1
      have hpos := group_pos k t d
      refine ih _ (by rw [List.length_drop]; simp at hl ⊢; omega) fun x hx => h x (List.mem_of_mem_drop hx)
theorem bs_map {f : Fork} (h : Inv g f) : bs (mapF g f) = (bs f).map fun b => (b.1, b.2.map g) := brs_map g f.deep _ f.keys (Nat.le_refl _) h
theorem goes_map (b : Br) : goes (b.1, b.2.map g) = goes b := by unfold goes; simp
theorem kids_map {f : Fork} (h : Inv g f) : kids (mapF g f) = (kids f).map (mapF g) := by
  rw [kids_eq, kids_eq, bs_map g h, List.filter_map]
  have e : (goes ∘ fun b : Br => (b.1, b.2.map g)) = goes := by funext b; exact goes_map g b
  rw [e, List.map_map, List.map_map]
  rfl
theorem nodes_map (n : Nat) (q : List Fork) (h : ∀ f ∈ nodes n q, Inv g f) : nodes n (q.map (mapF g)) = (nodes n q).map (mapF g) := by
  induction n generalizing q with
  | zero => rfl
  | succ n ih =>
    cases q with
    | nil => rfl
    | cons f q =>
      have hn : nodes (n + 1) (f :: q) = f :: nodes n (q ++ kids f) := rfl
      rw [hn] at h ⊢
      show mapF g f :: nodes n (q.map (mapF g) ++ kids (mapF g f)) = _
      rw [kids_map g (h f (by simp)), ← List.map_append, ih (q ++ kids f) (fun x hx => h x (by simp [hx])), List.map_cons]
theorem load_map (f : Fork) : load (mapF g f) = load f := by unfold load mapF; simp
theorem loads_map (q : List Fork) : loads (q.map (mapF g)) = loads q := by
  unfold loads
  rw [List.map_map]
  congr 1
  exact List.map_congr_left fun f _ => load_map g f

/-- what is cut off is not kept -/
def RestInv (keep : Nat) (f : Fork) : Prop := ∀ b ∈ bs f, ∀ x, b.2 = [x] → restOf (g x) (f.deep + 1) keep = restOf x (f.deep + 1) keep
theorem enc_map (keep : Nat) (N : List Fork) (h : ∀ f ∈ N, Inv g f) (hr : ∀ f ∈ N, RestInv g keep f) (hne : ∀ f ∈ N, ∀ b ∈ bs f, b.2 ≠ []) : enc keep (N.map (mapF g)) = enc keep N := by
  have e1 : letters (N.map (mapF g)) = letters N := by
    unfold letters
    rw [List.flatMap_map]
    rw [List.flatMap_def, List.flatMap_def]
    congr 1
    refine List.map_congr_left fun f hf => ?_
    rw [bs_map g (h f hf), List.map_map]
    rfl
  have e2 : more (N.map (mapF g)) = more N := by
    unfold more
    rw [List.flatMap_map, List.flatMap_def, List.flatMap_def]
    congr 1
    refine List.map_congr_left fun f hf => ?_
    unfold moreF
    rw [bs_map g (h f hf), List.map_map]
    refine List.map_congr_left fun b _ => ?_
    simp only [Function.comp, goes_map]
  have e3 : firsts (N.map (mapF g)) = firsts N := by
    unfold firsts
    rw [List.flatMap_map, List.flatMap_def, List.flatMap_def]
    congr 1
    refine List.map_congr_left fun f hf => ?_
    rw [bs_map g (h f hf), List.length_map]
  have e4 : rests keep (N.map (mapF g)) = rests keep N := by
    unfold rests
    rw [List.flatMap_map, List.flatMap_def, List.flatMap_def]
    congr 1
    refine List.map_congr_left fun f hf => ?_
    unfold restsF
    rw [bs_map g (h f hf), List.filter_map]
    have e : ((fun b => !goes b) ∘ fun b : Br => (b.1, b.2.map g)) = fun b => !goes b := by funext b; simp only [Function.comp, goes_map]
    rw [e, List.map_map]
    refine List.map_congr_left fun b hb => ?_
    obtain ⟨hb1, hb2⟩ := List.mem_filter.mp hb
    obtain ⟨x, hx⟩ := single_of (hne f hf b hb1) (by simpa using hb2)
    simp only [Function.comp]
    unfold restB
    simp only [hx, List.map_cons, List.map_nil, List.headD_cons]
    exact hr f hf b hb1 x hx
  unfold enc
  rw [e1, e2, e3, e4]
end

end Go.Proofs.YtfhpkcamigkmdaaGreatDoor.T

namespace Go.Proofs.YtfhpkcamigkmdaaGreatDoor.T
open M

/-- a key list (its length is not asked) -/
abbrev KeyL (keys : List Str) : Prop := WF (rootF keys)
theorem keyL_mk {keys : List Str} (h1 : ∀ k ∈ keys, isKey k) (h2 : ascS keys) : KeyL keys := ⟨h1, h2, fun _ _ => Nat.zero_le _, fun _ _ _ _ => rfl⟩
/-- the forks of a key list -/
def forks (keys : List Str) : List Fork := nodes (loads [rootF keys]) [rootF keys]
/-- the filter of a key list -/
def sieve (keep : Nat) (keys : List Str) : Sv := enc keep (forks keys)
/-- how many letters set a key apart -/
def dOf (keys : List Str) (k : Str) : Nat := ((sepL keys).lookup k).getD 0
/-- what is kept of a key -/
def kept (keep : Nat) (keys : List Str) (k : Str) : Str := k.take (dOf keys k + keep)
def heads (keep : Nat) (keys : List Str) : List Str := keys.map (kept keep keys)

theorem lookup_mem : ∀ {l : List (Str × Nat)} {k : Str} {d : Nat}, l.lookup k = some d → (k, d) ∈ l
  | [], _, _, h => by simp at h
  | (a, e) :: t, k, d, h => by
    rw [List.lookup_cons] at h
    by_cases hk : (k == a) = true
    · rw [hk] at h
      simp at h
      rw [beq_iff_eq] at hk
      rw [hk, h]; simp
    · have hk' : (k == a) = false := by simpa using hk
      rw [hk'] at h
      exact List.mem_cons_of_mem _ (lookup_mem h)
theorem lookup_some : ∀ {l : List (Str × Nat)} {k : Str}, k ∈ l.map (·.1) → ∃ d, l.lookup k = some d
  | [], _, h => by simp at h
  | (a, e) :: t, k, h => by
    rw [List.lookup_cons]
    by_cases hk : (k == a) = true
    · rw [hk]; exact ⟨e, rfl⟩
    · have hk' : (k == a) = false := by simpa using hk
      rw [hk']
      rw [List.map_cons] at h
      rcases List.mem_cons.mp h with e2 | h
      · have e3 : k = a := e2
        rw [e3] at hk; simp at hk
      · exact lookup_some h
theorem dOf_mem {keys : List Str} (h : KeyL keys) {k : Str} (hk : k ∈ keys) : (k, dOf keys k) ∈ sepL keys := by
  have hk' : k ∈ (sepL keys).map (·.1) := by rw [sepL_keys h]; exact hk
  obtain ⟨d, hd⟩ := lookup_some hk'
  unfold dOf
  rw [hd]
  exact lookup_mem hd
theorem dOf_apart {keys : List Str} (h : KeyL keys) {k : Str} (hk : k ∈ keys) : Apart (rootF keys) k (dOf keys k) := sepL_apart h _ (dOf_mem h hk)
theorem dOf_is {keys : List Str} (h : KeyL keys) {k : Str} {d : Nat} (ha : Apart (rootF keys) k d) : dOf keys k = d := (dOf_apart h ha.mem).one ha
theorem sepL_eq {keys : List Str} (h : KeyL keys) : sepL keys = keys.map fun k => (k, dOf keys k) := by
  have e := congrArg (List.map fun k => (k, dOf keys k)) (sepL_keys h)
  rw [← e, List.map_map]
  have : ∀ x ∈ sepL keys, ((fun k => (k, dOf keys k)) ∘ fun x : Str × Nat => x.1) x = id x := by
    intro x hx
    simp only [Function.comp, id]
    rw [dOf_is h (sepL_apart h x hx)]
  rw [List.map_congr_left this]
  simp
theorem heads_eq {keys : List Str} (h : KeyL keys) (keep : Nat) : (sepL keys).map (keptK keep) = heads keep keys := by
  rw [sepL_eq h, List.map_map]
  rfl

theorem nodes_all (P : Fork → Prop) (hk : ∀ f, P f → ∀ g ∈ kids f, P g) (n : Nat) (q : List Fork) (hq : ∀ f ∈ q, P f) : ∀ f ∈ nodes n q, P f := by
  induction n generalizing q with
  | zero => intro f hf; simp [nodes] at hf
  | succ n ih =>
    cases q with
    | nil => intro f hf; simp [nodes] at hf
    | cons f q =>
      have hn : nodes (n + 1) (f :: q) = f :: nodes n (q ++ kids f) := rfl
      rw [hn]
      intro g hg
      rcases List.mem_cons.mp hg with rfl | hg
      · exact hq _ (by simp)
      · refine ih (q ++ kids f) (fun x hx => ?_) g hg
        rcases List.mem_append.mp hx with hx | hx
        · exact hq x (by simp [hx])
        · exact hk f (hq f (by simp)) x hx

/-- what holds of every fork of a key list -/
structure In (keys : List Str) (f : Fork) : Prop where
  wf : WF f
  deep : f.deep ≤ 5
  sub : ∀ k ∈ f.keys, k ∈ keys
  full : ∀ k ∈ keys, ∀ x ∈ f.keys, k.take f.deep = x.take f.deep → k ∈ f.keys
  two : f.deep = 0 ∨ 1 < f.keys.length
theorem in_root {keys : List Str} (h : KeyL keys) : In keys (rootF keys) := ⟨h, Nat.zero_le _, fun _ hk => hk, fun _ hk _ _ _ => hk, .inl rfl⟩
theorem in_kids {keys : List Str} {f : Fork} (h : In keys f) : ∀ g ∈ kids f, In keys g := by
  intro g hg
  rw [kids_eq] at hg
  obtain ⟨b, hb, rfl⟩ := List.mem_map.mp hg
  obtain ⟨hb1, hb2⟩ := List.mem_filter.mp hb
  have hl : 1 < b.2.length := by simpa [goes] using hb2
  have hk := h.wf.kid hb1 hl
  refine ⟨hk.1, hk.2, fun k hk' => h.sub k (branch_sub h.wf hb1 hk'), fun k hk' x hx e => ?_, .inr hl⟩
  have e' : k.take (f.deep + 1) = x.take (f.deep + 1) := e
  have hkf := h.full k hk' x (branch_sub h.wf hb1 hx) (take_le (by omega) e')
  exact branch_of h.wf hb1 hkf (by rw [letter_take e']; exact ((brs_ok h.wf).each b hb1).2 x hx)
theorem in_all {keys : List Str} (h : KeyL keys) : ∀ f ∈ forks keys, In keys f :=
  nodes_all (In keys) (fun _ hf => in_kids hf) _ _ fun f hf => by rw [List.mem_singleton.mp hf]; exact in_root h
/-- in a fork more letters set a key apart than lead there -/
theorem In.low {keys : List Str} (hK : KeyL keys) {f : Fork} (h : In keys f) {k : Str} (hk : k ∈ f.keys) : f.deep + 1 ≤ dOf keys k := by
  have ha := dOf_apart hK (h.sub k hk)
  rcases h.two with e | e
  · have : 0 + 1 ≤ dOf keys k := ha.low
    omega
  · obtain ⟨k', hk', hne⟩ := two_of h.wf.asc e k
    have h1 := ha.apart k' (h.sub k' hk') hne
    rcases Nat.lt_or_ge f.deep (dOf keys k) with hlt | hge
    · exact hlt
    · exact absurd (take_le hge (h.wf.alike k' hk' k hk)) h1
/-- a key alone behind a branch is set apart by that letter -/
theorem In.leaf {keys : List Str} (hK : KeyL keys) {f : Fork} (h : In keys f) {b : Br} (hb : b ∈ bs f) {x : Str} (hx : b.2 = [x]) : dOf keys x = f.deep + 1 := by
  have hxb : x ∈ b.2 := by rw [hx]; simp
  have hxf := branch_sub h.wf hb hxb
  refine dOf_is hK ⟨h.sub x hxf, by show 0 + 1 ≤ f.deep + 1; omega, by have := h.wf.long x hxf; omega, fun k' hk' hne e => ?_, ?_⟩
  · have hkf := h.full k' hk' x hxf (take_le (by omega) e)
    have := branch_of h.wf hb hkf (by rw [letter_take e]; exact ((brs_ok h.wf).each b hb).2 x hxb)
    rw [hx] at this
    exact hne (by simpa using this)
  · rcases h.two with e | e
    · left; rw [e]; rfl
    · right
      obtain ⟨k', hk', hne⟩ := two_of h.wf.asc e x
      exact ⟨k', h.sub k' hk', hne, by rw [Nat.add_sub_cancel]; exact h.wf.alike k' hk' x hxf⟩

/-- what is kept of keys is keys, in order -/
theorem heads_key {keys : List Str} (h : KeyL keys) (keep : Nat) : KeyL (heads keep keys) := by
  refine keyL_mk (fun k hk => ?_) ?_
  · obtain ⟨x, hx, rfl⟩ := List.mem_map.mp hk
    have hxk := h.key x hx
    exact ⟨by unfold kept; rw [List.length_take]; have := hxk.1; omega, fun c hc => hxk.2 c (List.mem_of_mem_take hc)⟩
  · unfold ascS heads
    rw [List.pairwise_map]
    have ha : keys.Pairwise (· < ·) := h.asc
    refine List.Pairwise.imp_of_mem ?_ ha
    intro a b hma hmb hlt
    have hab : a ≠ b := fun e => by rw [e] at hlt; exact absurd hlt (List.lt_irrefl _)
    refine cut_lt hlt (fun d e => ?_) (fun d e => ?_)
    · rcases Nat.lt_or_ge d (dOf keys a + keep) with hd | hd
      · exact hd
      · exact absurd (take_le (by omega) e.symm) ((dOf_apart h hma).apart b hmb (fun e2 => hab e2.symm))
    · rcases Nat.lt_or_ge d (dOf keys b + keep) with hd | hd
      · exact hd
      · exact absurd (take_le (by omega) e) ((dOf_apart h hmb).apart a hma hab)

/-- THE FILTER OF WHAT IS KEPT IS THE FILTER ITSELF -/
theorem sieve_heads {keys : List Str} (h : KeyL keys) (keep : Nat) : sieve keep (heads keep keys) = sieve keep keys := by
  have hinv : ∀ f ∈ forks keys, Inv (kept keep keys) f := by
    intro f hf k hk
    have hlow := (in_all h f hf).low h hk
    unfold letter kept
    rw [List.getElem?_take_of_lt (by omega)]
  have hrest : ∀ f ∈ forks keys, RestInv (kept keep keys) keep f := by
    intro f hf b hb x hx
    have hleaf := (in_all h f hf).leaf h hb hx
    unfold restOf kept
    rw [hleaf, List.drop_take, Nat.add_sub_cancel_left, List.take_take, Nat.min_self]
  have hne : ∀ f ∈ forks keys, ∀ b ∈ bs f, b.2 ≠ [] := fun f hf b hb => ((brs_ok (in_all h f hf).wf).each b hb).1
  have e : [rootF (heads keep keys)] = [rootF keys].map (mapF (kept keep keys)) := rfl
  unfold sieve
  have ef : forks (heads keep keys) = (forks keys).map (mapF (kept keep keys)) := by
    unfold forks
    rw [e, loads_map, nodes_map _ _ _ hinv]
  rw [ef]
  exact enc_map _ keep _ hinv hrest hne

/-- what is kept, read off the filter -/
theorem sieve_add {keys : List Str} (h : KeyL keys) (keep : Nat) : (sieve keep keys).add 0 ((sieve keep keys).sel 1) [] = heads keep keys := by
  by_cases hne : keys = []
  · subst hne
    have hl : loads [rootF []] = 1 := by simp [loads, rootF, load]
    have hf : forks [] = [rootF []] := by unfold forks; rw [hl]; rfl
    have hb : bs (rootF []) = [] := by unfold bs rootF; rw [brs_nil]
    have : (sieve keep []).letters = [] := by unfold sieve; rw [hf]; unfold enc letters; simp [hb]
    unfold Sv.add
    rw [dif_neg (by rw [this]; simp)]
    rfl
  · obtain ⟨T, h0⟩ := tree_of h hne
    have e2 : nodes (loads [⟨keys, 0⟩]) [⟨keys, 0⟩] = forks keys := rfl
    rw [e2] at T h0
    have hadd := add_fork T keep 6 0 ⟨keys, 0⟩ [] h0 (by show 6 - 0 ≤ 6; omega) (fun _ _ => rfl)
    have hsel : (sieve keep keys).sel 1 = start (forks keys) 1 := by
      show ((oneIdx (firsts (forks keys)) 1).getD (firsts (forks keys)).length) = start (forks keys) 1
      have hl : 0 < (forks keys).length := (List.getElem?_eq_some_iff.mp h0).1
      rcases Nat.lt_or_ge 1 (forks keys).length with hlt | hge
      · rw [first_one _ T.some_ 1 hlt]; rfl
      · have hl1 : (forks keys).length = 1 := by omega
        have := first_end _ T.some_
        rw [hl1] at this
        rw [this, len_firsts, hl1]; rfl
    rw [hsel]
    have e3 : start (forks keys) 0 = 0 := by cases forks keys <;> rfl
    have e4 : (sieve keep keys).add (start (forks keys) 0) (start (forks keys) 1) [] = (sepL keys).map (keptK keep) := hadd
    rw [e3] at e4
    rw [e4, heads_eq h]

end Go.Proofs.YtfhpkcamigkmdaaGreatDoor.T

namespace Go.Proofs.YtfhpkcamigkmdaaGreatDoor.T
open M

/-- what is kept of a key is all of it -/
def whole (keep : Nat) (keys : List Str) (x : Str) : Bool := decide (x.length < dOf keys x + keep)
/-- a key may be there -/
def hasK (keep : Nat) (keys : List Str) (k : Str) : Bool := keys.any fun x => mayBe keep k (x, dOf keys x)
theorem hasK_eq {keys : List Str} (h : KeyL keys) (keep : Nat) (k : Str) : (sepL keys).any (mayBe keep k) = hasK keep keys k := by
  rw [sepL_eq h, List.any_map]; rfl
end Go.Proofs.YtfhpkcamigkmdaaGreatDoor.T

namespace Go.Proofs.YtfhpkcamigkmdaaGreatDoor.T
open M

/-- the branches of forks, counted -/
def cnt (N : List Fork) : Nat := (N.map fun f => (bs f).length).sum
theorem cnt_cons (f : Fork) (N : List Fork) : cnt (f :: N) = (bs f).length + cnt N := by unfold cnt; rw [List.map_cons, List.sum_cons]
theorem len_cnt (N : List Fork) : (letters N).length = cnt N := by
  induction N with
  | nil => rfl
  | cons f N ih =>
    have : letters (f :: N) = (bs f).map (·.1) ++ letters N := rfl
    rw [this, List.length_append, List.length_map, ih, cnt_cons]
theorem ones_firsts (N : List Fork) (h : ∀ f ∈ N, bs f ≠ []) : ones (firsts N) = N.length := by
  induction N with
  | nil => rfl
  | cons f N ih =>
    have e : firsts (f :: N) = firstN (bs f).length ++ firsts N := rfl
    have hne := h f (by simp)
    obtain ⟨m, hm⟩ : ∃ m, (bs f).length = m + 1 := by
      cases hb : bs f with
      | nil => exact absurd hb hne
      | cons b t => exact ⟨t.length, rfl⟩
    rw [e, ones_append, hm, ones_firstN, ih (fun g hg => h g (by simp [hg])), List.length_cons]
    omega
/-- the branches behind a fork, counted -/
def sz : Nat → Fork → Nat
  | 0, _ => 0
  | n + 1, f => ((bs f).map fun b => 1 + if goes b = true then sz n ⟨b.2, f.deep + 1⟩ else 0).sum
theorem sum_goes (w : Br → Nat) (l : List Br) : (l.map fun b => 1 + if goes b = true then w b else 0).sum = l.length + ((l.filter goes).map w).sum := by
  induction l with
  | nil => rfl
  | cons b t ih =>
    rw [List.map_cons, List.sum_cons, ih, List.filter_cons, List.length_cons]
    cases goes b <;> simp <;> omega
theorem sz_step {f : Fork} (hd : f.deep ≤ 5) : sz (6 - f.deep) f = (bs f).length + ((kids f).map fun g => sz (6 - g.deep) g).sum := by
  obtain ⟨m, hm⟩ : ∃ m, 6 - f.deep = m + 1 := ⟨5 - f.deep, by omega⟩
  rw [hm]
  have e : sz (m + 1) f = ((bs f).map fun b => 1 + if goes b = true then sz m ⟨b.2, f.deep + 1⟩ else 0).sum := rfl
  rw [e, sum_goes (fun b => sz m ⟨b.2, f.deep + 1⟩), kids_eq, List.map_map]
  congr 2
  refine List.map_congr_left fun b hb => ?_
  show sz m ⟨b.2, f.deep + 1⟩ = sz (6 - (f.deep + 1)) ⟨b.2, f.deep + 1⟩
  rw [show 6 - (f.deep + 1) = m by omega]
theorem cnt_nodes (n : Nat) (q : List Fork) (hn : loads q ≤ n) (hw : ∀ f ∈ q, WF f ∧ f.deep ≤ 5) : cnt (nodes n q) = (q.map fun f => sz (6 - f.deep) f).sum := by
  induction n generalizing q with
  | zero =>
    cases q with
    | nil => rfl
    | cons f q => unfold loads load at hn; simp at hn
  | succ n ih =>
    cases q with
    | nil => rfl
    | cons f q =>
      have hf := hw f (by simp)
      have hk := kids_load f (by omega)
      have hl : loads (q ++ kids f) ≤ n := by
        rw [loads_append]
        have : loads (f :: q) = load f + loads q := by unfold loads; rw [List.map_cons, List.sum_cons]
        omega
      have hw' : ∀ g ∈ q ++ kids f, WF g ∧ g.deep ≤ 5 := by
        intro g hg
        rcases List.mem_append.mp hg with h | h
        · exact hw g (by simp [h])
        · exact kids_wf hf.1 g h
      have hn : nodes (n + 1) (f :: q) = f :: nodes n (q ++ kids f) := rfl
      rw [hn, cnt_cons, ih _ hl hw', List.map_append, List.sum_append, List.map_cons, List.sum_cons, sz_step hf.2]
      omega
theorem size_is {keys : List Str} (h : KeyL keys) (keep : Nat) : (sieve keep keys).letters.length = sz 6 (rootF keys) := by
  show (letters (forks keys)).length = _
  rw [len_cnt]
  unfold forks
  rw [cnt_nodes _ _ (Nat.le_refl _) (fun f hf => by rw [List.mem_singleton.mp hf]; exact ⟨h, Nat.zero_le _⟩)]
  simp [rootF]

theorem sum_le {α : Type} {l : List α} {v w : α → Nat} (h : ∀ x ∈ l, v x ≤ w x) : (l.map v).sum ≤ (l.map w).sum := by
  induction l with
  | nil => exact Nat.le_refl _
  | cons a t ih =>
    rw [List.map_cons, List.map_cons, List.sum_cons, List.sum_cons]
    have := h a (by simp)
    have := ih fun x hx => h x (by simp [hx])
    omega
theorem sum_flat {α β : Type} (l : List α) (g : α → List β) (w : β → Nat) : ((l.flatMap g).map w).sum = (l.map fun a => ((g a).map w).sum).sum := by
  induction l with
  | nil => rfl
  | cons a t ih => rw [List.flatMap_cons, List.map_append, List.sum_append, ih, List.map_cons, List.sum_cons]
/-- for each key no more branches than letters set it apart -/
theorem sz_high : ∀ (n : Nat) (f : Fork), WF f → f.deep ≤ 5 → 6 - f.deep ≤ n → sz n f ≤ ((leaves n f).map fun x => x.2 - f.deep).sum
  | 0, _, _, _, _ => by simp [sz]
  | n + 1, f, h, hd, hn => by
    have e : sz (n + 1) f = ((bs f).map fun b => 1 + if goes b = true then sz n ⟨b.2, f.deep + 1⟩ else 0).sum := rfl
    have e2 : leaves (n + 1) f = (bs f).flatMap fun b => if goes b = true then leaves n ⟨b.2, f.deep + 1⟩ else b.2.map fun k => (k, f.deep + 1) := rfl
    rw [e, e2, sum_flat]
    refine sum_le fun b hb => ?_
    have hne := ((brs_ok h).each b hb).1
    cases hg : goes b with
    | true =>
      rw [if_pos rfl, if_pos rfl]
      have hl : 1 < b.2.length := by simpa [goes] using hg
      have hk := h.kid hb hl
      have ih := sz_high n ⟨b.2, f.deep + 1⟩ hk.1 hk.2 (by show 6 - (f.deep + 1) ≤ n; omega)
      have hlen : 0 < (leaves n ⟨b.2, f.deep + 1⟩).length := by
        have := congrArg List.length (leaves_keys n ⟨b.2, f.deep + 1⟩ hk.1 hk.2 (by show 6 - (f.deep + 1) ≤ n; omega))
        rw [List.length_map] at this
        rw [this]; show 0 < b.2.length; omega
      have hap := leaves_apart n ⟨b.2, f.deep + 1⟩ hk.1
      generalize leaves n ⟨b.2, f.deep + 1⟩ = L at ih hlen hap
      have ih' : sz n ⟨b.2, f.deep + 1⟩ ≤ (L.map fun x => x.2 - (f.deep + 1)).sum := ih
      have hsum : (L.map fun x => x.2 - (f.deep + 1)).sum + L.length ≤ (L.map fun x => x.2 - f.deep).sum := by
        clear ih ih' hlen
        induction L with
        | nil => exact Nat.le_refl _
        | cons x t iht =>
          have h1 := (hap x (by simp)).low
          have h1' : f.deep + 1 + 1 ≤ x.2 := h1
          have h2 := iht fun y hy => hap y (by simp [hy])
          simp only [List.map_cons, List.sum_cons, List.length_cons]
          omega
      omega
    | false =>
      obtain ⟨x, hx⟩ := single_of hne hg
      rw [hx]
      simp
theorem size_high {keys : List Str} (h : KeyL keys) (keep : Nat) : (sieve keep keys).letters.length ≤ ((heads keep keys).map fun k => k.length + 1).sum := by
  rw [size_is h]
  refine Nat.le_trans (sz_high 6 (rootF keys) h (Nat.zero_le _) (by show 6 - 0 ≤ 6; omega)) ?_
  have e : leaves 6 (rootF keys) = keys.map fun k => (k, dOf keys k) := sepL_eq h
  rw [e, List.map_map]
  unfold heads
  rw [List.map_map]
  refine sum_le fun k hk => ?_
  have := (dOf_apart h hk).high
  show dOf keys k - 0 ≤ (kept keep keys k).length + 1
  unfold kept
  rw [List.length_take]
  omega

end Go.Proofs.YtfhpkcamigkmdaaGreatDoor.T

namespace Go.Proofs.YtfhpkcamigkmdaaGreatDoor.T
open M

/-- a branch that does not go on is a key's: all of the key is kept if its end is, or fewer letters than may be -/
theorem whole_at {f : Fork} (h : WF f) {b : Br} (hb : b ∈ bs f) {x : Str} (hx : b.2 = [x]) (keep : Nat) :
    (b.1 = 45 ∨ (restOf x (f.deep + 1) keep).length < keep) ↔ wholeK keep (x, f.deep + 1) = true := by
  have hxb : x ∈ b.2 := by rw [hx]; simp
  have hxk := branch_sub h hb hxb
  have he := ((brs_ok h).each b hb).2 x hxb
  have hxl := h.long x hxk
  unfold wholeK restOf
  rw [decide_eq_true_eq, List.length_take, List.length_drop]
  show _ ↔ x.length < f.deep + 1 + keep
  rcases letter_key (h.key x hxk) f.deep with ⟨e, l⟩ | ⟨e, l⟩
  · rw [he] at e
    constructor
    · intro _; omega
    · intro _; exact .inl e
  · rw [he] at e
    have hne : ¬ b.1 = 45 := fun e' => by rw [e'] at e; exact absurd e (by decide)
    constructor
    · rintro (e' | e')
      · exact absurd e' hne
      · omega
    · intro _; right; omega
/-- what is read at a branch that does not go on -/
theorem leaf_at {N : List Fork} (T : Tree N) (keep : Nat) {j p : Nat} {f : Fork} {b : Br} (hj : N[j]? = some f) (hp : (bs f)[p]? = some b) (hg : goes b = false) :
    ∃ x, b.2 = [x] ∧ (letters N)[start N j + p]? = some b.1 ∧ (more N)[start N j + p]? = some 48 ∧ (rests keep N)[start N j + p - ones ((more N).take (start N j + p))]? = some (restOf x (f.deep + 1) keep) := by
  have hf := T.wf f (List.mem_of_getElem? hj)
  have hb : b ∈ bs f := List.mem_of_getElem? hp
  obtain ⟨x, hx⟩ := single_of ((brs_ok hf.1).each b hb).1 hg
  obtain ⟨h1, h2⟩ := more_at N j p f b hj hp
  have h3 := rests_at keep N j p f b hj hp hg
  rw [hg] at h1
  refine ⟨x, hx, h2, h1, ?_⟩
  rw [h3]
  unfold restB
  rw [hx]
  rfl
/-- what a filter keeps, read off it -/
def Sv.heads (s : Sv) : List Str := s.add 0 (s.sel 1) []
/-- a filter is one: it is that of what it keeps -/
def isSv (s : Sv) : Prop := KeyL s.heads ∧ s.heads.length ≤ 24 ∧ s.keep ≤ 5 ∧ s = sieve s.keep s.heads
theorem isSv_iff {s : Sv} : isSv s ↔ ∃ keys keep, KeyL keys ∧ keys.length ≤ 24 ∧ keep ≤ 5 ∧ s = sieve keep keys := by
  constructor
  · rintro ⟨h1, h2, h3, h4⟩
    exact ⟨s.heads, s.keep, h1, h2, h3, h4⟩
  · rintro ⟨keys, keep, h1, h2, h3, rfl⟩
    have e : (sieve keep keys).heads = T.heads keep keys := sieve_add h1 keep
    have ek : (sieve keep keys).keep = keep := rfl
    unfold isSv
    rw [e, ek]
    exact ⟨heads_key h1 keep, by unfold T.heads; rw [List.length_map]; exact h2, h3, (sieve_heads h1 keep).symm⟩
theorem heads_of {keys : List Str} (h : KeyL keys) (keep : Nat) : (sieve keep keys).heads = heads keep keys := sieve_add h keep

end Go.Proofs.YtfhpkcamigkmdaaGreatDoor.T

namespace Go.Proofs.YtfhpkcamigkmdaaGreatDoor.T
open M

/-- how many branches are looked at -/
def Sv.cnt (s : Sv) (i to : Nat) : Nat :=
  if _h : i < to ∧ i < s.letters.length then
    (if _ha : s.more.getD i 0 = 49 ∧ i < (s.kids i).1 then s.cnt (s.kids i).1 (s.kids i).2 else 0) + 1 + s.cnt (i + 1) to
  else 0
termination_by s.letters.length - i
decreasing_by all_goals omega

theorem add_le (s : Sv) : ∀ (n i to : Nat) (head : Str), s.letters.length - i ≤ n → (s.add i to head).length ≤ s.cnt i to
  | 0, i, to, head, hn => by
    unfold Sv.add
    rw [dif_neg (by omega)]
    exact Nat.zero_le _
  | n + 1, i, to, head, hn => by
    unfold Sv.add Sv.cnt
    by_cases h : i < to ∧ i < s.letters.length
    · rw [dif_pos h]
      by_cases hh : i < to ∧ i < s.letters.length ∧ head.length ≤ 5
      · rw [dif_pos hh]
        have ih := add_le s n (i + 1) to head (by omega)
        by_cases hm : s.more.getD i 0 = 49
        · rw [if_pos hm]
          by_cases ha : (s.kids i).1 ≤ i
          · rw [dif_pos ha]; exact Nat.zero_le _
          · rw [dif_neg ha, dif_pos ⟨hm, by omega⟩, List.length_append]
            have ih2 := add_le s n (s.kids i).1 (s.kids i).2 (s.now head i) (by omega)
            omega
        · rw [if_neg hm, dif_neg (fun e => hm e.1), List.length_append]
          have : (if i - s.rank i < s.rests.length then [s.now head i ++ s.rests.getD (i - s.rank i) []] else []).length ≤ 1 := by split <;> simp
          omega
      · rw [dif_neg hh]; exact Nat.zero_le _
    · rw [dif_neg h, dif_neg (fun e => h ⟨e.1, e.2.1⟩)]
      exact Nat.le_refl _
theorem cnt_split (s : Sv) : ∀ (n i m t : Nat), s.letters.length - i ≤ n → i ≤ m → m ≤ t → s.cnt i m + s.cnt m t = s.cnt i t
  | 0, i, m, t, hn, h1, h2 => by
    unfold Sv.cnt
    rw [dif_neg (by omega), dif_neg (by omega), dif_neg (by omega)]
  | n + 1, i, m, t, hn, h1, h2 => by
    rcases Nat.lt_or_ge i s.letters.length with hl | hl
    · rcases Nat.lt_or_ge i m with him | him
      · have ih := cnt_split s n (i + 1) m t (by omega) him h2
        have e1 : s.cnt i m = (if _ha : s.more.getD i 0 = 49 ∧ i < (s.kids i).1 then s.cnt (s.kids i).1 (s.kids i).2 else 0) + 1 + s.cnt (i + 1) m := by
          rw [Sv.cnt, dif_pos ⟨him, hl⟩]
        have e2 : s.cnt i t = (if _ha : s.more.getD i 0 = 49 ∧ i < (s.kids i).1 then s.cnt (s.kids i).1 (s.kids i).2 else 0) + 1 + s.cnt (i + 1) t := by
          rw [Sv.cnt, dif_pos ⟨by omega, hl⟩]
        omega
      · have e : i = m := by omega
        subst e
        have : s.cnt i i = 0 := by rw [Sv.cnt, dif_neg (by omega)]
        omega
    · have e1 : s.cnt i m = 0 := by rw [Sv.cnt, dif_neg (by omega)]
      have e2 : s.cnt m t = 0 := by rw [Sv.cnt, dif_neg (by omega)]
      have e3 : s.cnt i t = 0 := by rw [Sv.cnt, dif_neg (by omega)]
      omega
theorem oneIdx_mono : ∀ (l : Str) (n : Nat), (oneIdx l n).getD l.length ≤ (oneIdx l (n + 1)).getD l.length
  | [], n => Nat.le_refl _
  | c :: t, n => by
    by_cases hc : c = 49
    · cases n with
      | zero => simp [oneIdx, hc]
      | succ n =>
        have ih := oneIdx_mono t n
        simp only [oneIdx, hc, if_true, List.length_cons]
        cases h1 : oneIdx t n <;> cases h2 : oneIdx t (n + 1) <;> simp [h1, h2] at ih ⊢ <;> omega
    · have ih := oneIdx_mono t n
      simp only [oneIdx, if_neg hc, List.length_cons]
      cases h1 : oneIdx t n <;> cases h2 : oneIdx t (n + 1) <;> simp [h1, h2] at ih ⊢ <;> omega
theorem sel_mono (s : Sv) (n : Nat) : s.sel n ≤ s.sel (n + 1) := oneIdx_mono s.first n
/-- no branch is looked at twice -/
theorem cnt_le (s : Sv) (hm : s.more.length = s.letters.length) : ∀ (n i : Nat), s.letters.length - i ≤ n → s.cnt i (s.sel (s.rank i + 1)) ≤ s.letters.length - i
  | 0, i, hn => by
    rw [Sv.cnt, dif_neg (by omega)]; omega
  | n + 1, i, hn => by
    rcases Nat.lt_or_ge i s.letters.length with hl | hl
    · have ih := cnt_le s hm n (i + 1) (by omega)
      have hg : s.more[i]? = some (s.more.getD i 0) := by
        rw [List.getD_eq_getElem?_getD, List.getElem?_eq_getElem (by omega)]; rfl
      have hrank : s.rank (i + 1) = s.rank i + if s.more.getD i 0 = 49 then 1 else 0 := by
        unfold Sv.rank
        rw [ones_take_succ _ _ _ hg]
      rw [Sv.cnt]
      by_cases h : i < s.sel (s.rank i + 1)
      · rw [dif_pos ⟨h, hl⟩]
        by_cases hone : s.more.getD i 0 = 49
        · rw [if_pos hone] at hrank
          have e1 : (s.kids i).1 = s.sel (s.rank i + 1) := by unfold Sv.kids; rw [hrank]
          have e2 : (s.kids i).2 = s.sel (s.rank (i + 1) + 1) := by unfold Sv.kids; rfl
          rw [dif_pos ⟨hone, by rw [e1]; exact h⟩, e1, e2]
          have hmono := sel_mono s (s.rank (i + 1))
          rw [hrank] at hmono ih
          have hs := cnt_split s n (i + 1) (s.sel (s.rank i + 1)) (s.sel (s.rank i + 1 + 1)) (by omega) h hmono
          rw [hrank]
          omega
        · have hrank2 : s.rank (i + 1) = s.rank i := by rw [hrank, if_neg hone]; rfl
          rw [dif_neg (fun e => hone e.1)]
          rw [hrank2] at ih
          omega
      · rw [dif_neg (fun e => h e.1)]; omega
    · rw [Sv.cnt, dif_neg (by omega)]; omega
theorem cnt_root (s : Sv) (hm : s.more.length = s.letters.length) : s.cnt 0 (s.sel 1) ≤ s.letters.length := cnt_le s hm s.letters.length 0 (by omega)

end Go.Proofs.YtfhpkcamigkmdaaGreatDoor.T

namespace Go.Proofs.YtfhpkcamigkmdaaGreatDoor.T
open M

/-- branches laid behind a filter's -/
def Sv.lay (s : Sv) (d : Nat) (done : List Br) : Sv :=
  ⟨s.letters ++ done.map (·.1), s.more ++ done.map (fun b => bit (goes b)), s.first ++ firstN done.length, s.rests ++ (done.filter (fun b => !goes b)).map (restB d s.keep), s.keep⟩
theorem lay_nil (s : Sv) (d : Nat) : s.lay d [] = s := by
  unfold Sv.lay firstN; simp
theorem enc_snoc (keep : Nat) (N : List Fork) (f : Fork) : enc keep (N ++ [f]) = (enc keep N).lay f.deep (bs f) := by
  unfold enc Sv.lay letters more firsts rests moreF restsF
  simp only [List.flatMap_append, List.flatMap_cons, List.flatMap_nil, List.append_nil]
theorem firstN_snoc (n : Nat) : firstN (n + 1) = firstN n ++ [if n = 0 then 49 else 48] := by
  cases n with
  | zero => rfl
  | succ n =>
    rw [if_neg (by omega)]
    show 49 :: List.replicate (n + 1) 48 = (49 :: List.replicate n 48) ++ [48]
    rw [List.cons_append, List.replicate_succ']
theorem lay_snoc (s : Sv) (d : Nat) (done : List Br) (b : Br) : s.lay d (done ++ [b]) =
    ⟨(s.lay d done).letters ++ [b.1], (s.lay d done).more ++ [bit (goes b)], (s.lay d done).first ++ [if done.length = 0 then 49 else 48], (s.lay d done).rests ++ (if goes b = true then [] else [restB d s.keep b]), s.keep⟩ := by
  unfold Sv.lay
  simp only [List.map_append, List.map_cons, List.map_nil, List.length_append, List.length_singleton, List.filter_append, ← List.append_assoc, firstN_snoc]
  congr 2
  by_cases h : goes b = true
  · simp [h]
  · simp [h]
theorem leads_snoc (d : Nat) (done : List Br) (b : Br) : leads d (done ++ [b]) = leads d done ++ (if goes b = true then [⟨b.2, d + 1⟩] else []) := by
  unfold leads
  rw [List.filter_append, List.map_append]
  by_cases h : goes b = true
  · simp [h]
  · simp [h]
/-- so far: of the fork's branches these are done, and these keys are left -/
def Half (d : Nat) (keys : List Str) (done : List Br) (r : List Str) : Prop := brs d keys = done ++ brs d r ∧ (∃ n, r = keys.drop n)
theorem half_zero (d : Nat) (keys : List Str) : Half d keys [] keys := ⟨rfl, 0, rfl⟩
theorem half_end {d : Nat} {keys : List Str} {done : List Br} (h : Half d keys done []) : done = brs d keys := by
  have := h.1
  rw [brs_nil, List.append_nil] at this
  exact this.symm
theorem half_next {d : Nat} {keys : List Str} {done : List Br} {k : Str} {t : List Str} (h : Half d keys done (k :: t)) :
    Half d keys (done ++ [(letter k d, group k t d)]) ((k :: t).drop (group k t d).length) := by
  refine ⟨?_, ?_⟩
  · rw [h.1, brs_cons, List.append_assoc]; rfl
  · obtain ⟨n, hn⟩ := h.2
    exact ⟨n + (group k t d).length, by rw [hn, List.drop_drop]⟩
theorem brs_len (d : Nat) : ∀ (n : Nat) (l : List Str), l.length ≤ n → (brs d l).length ≤ l.length
  | _, [], _ => by rw [brs_nil]; exact Nat.le_refl _
  | 0, k :: t, h => by simp at h
  | n + 1, k :: t, h => by
    rw [brs_cons]
    have hp := group_pos k t d
    have hl : ((k :: t).drop (group k t d).length).length ≤ t.length := by rw [List.length_drop]; simp only [List.length_cons]; omega
    have := brs_len d n _ (Nat.le_trans hl (by simpa using h))
    simp only [List.length_cons]
    omega
theorem half_len {d : Nat} {keys : List Str} {done : List Br} {r : List Str} (h : Half d keys done r) : done.length + (brs d r).length ≤ keys.length := by
  have h1 := brs_len d keys.length keys (Nat.le_refl _)
  rw [h.1, List.length_append] at h1
  exact h1

/-- with enough fuel the forks are the same -/
theorem nodes_fuel : ∀ (n m : Nat) (q : List Fork), (∀ f ∈ q, WF f ∧ f.deep ≤ 5) → loads q ≤ n → loads q ≤ m → nodes n q = nodes m q
  | 0, 0, _, _, _, _ => rfl
  | 0, m + 1, q, _, hn, _ => by
    cases q with
    | nil => rfl
    | cons f q =>
      exfalso
      have : loads (f :: q) = load f + loads q := by unfold loads; rw [List.map_cons, List.sum_cons]
      have h2 : 0 < load f := by unfold load; omega
      omega
  | n + 1, 0, q, _, _, hm => by
    cases q with
    | nil => rfl
    | cons f q =>
      exfalso
      have : loads (f :: q) = load f + loads q := by unfold loads; rw [List.map_cons, List.sum_cons]
      have h2 : 0 < load f := by unfold load; omega
      omega
  | n + 1, m + 1, q, hw, hn, hm => by
    cases q with
    | nil => rfl
    | cons f q =>
      have e1 : nodes (n + 1) (f :: q) = f :: nodes n (q ++ kids f) := rfl
      have e2 : nodes (m + 1) (f :: q) = f :: nodes m (q ++ kids f) := rfl
      have hf := hw f (by simp)
      have hl : loads (f :: q) = load f + loads q := by unfold loads; rw [List.map_cons, List.sum_cons]
      have hk := kids_load f (by omega)
      have hs : loads (q ++ kids f) < loads (f :: q) := by rw [loads_append, hl]; omega
      rw [e1, e2, nodes_fuel n m (q ++ kids f) (fun g hg => ?_) (by omega) (by omega)]
      rcases List.mem_append.mp hg with hg | hg
      · exact hw g (by simp [hg])
      · exact kids_wf hf.1 g hg
/-- these forks are done, and these wait -/
structure Going (keys : List Str) (N q : List Fork) : Prop where
  all : forks keys = N ++ nodes (loads q) q
  ok : ∀ f ∈ q, WF f ∧ f.deep ≤ 5
  sub : ∀ f ∈ q, f.keys.length ≤ keys.length
theorem going_zero {keys : List Str} (h : KeyL keys) : Going keys [] [rootF keys] :=
  ⟨rfl, fun f hf => by rw [List.mem_singleton.mp hf]; exact ⟨h, Nat.zero_le _⟩, fun f hf => by rw [List.mem_singleton.mp hf]; exact Nat.le_refl _⟩
theorem going_end {keys : List Str} {N : List Fork} (h : Going keys N []) : forks keys = N := by
  have := h.all
  have e : nodes (loads []) [] = [] := rfl
  rw [e, List.append_nil] at this
  exact this
theorem branch_le {f : Fork} {b : Br} (hb : b ∈ bs f) : b.2.length ≤ f.keys.length := by
  have ht := brs_total f.deep f.keys
  have hm : b.2.length ≤ ((brs f.deep f.keys).map fun b => b.2.length).sum := by
    have : b.2.length ∈ (brs f.deep f.keys).map fun b => b.2.length := List.mem_map.mpr ⟨b, hb, rfl⟩
    have aux : ∀ (l : List Nat) (x : Nat), x ∈ l → x ≤ l.sum := by
      intro l
      induction l with
      | nil => intro x hx; simp at hx
      | cons a t ih =>
        intro x hx
        rw [List.sum_cons]
        rcases List.mem_cons.mp hx with rfl | hx
        · omega
        · have := ih x hx; omega
    exact aux _ _ this
  omega
theorem going_next {keys : List Str} {N q : List Fork} {f : Fork} (h : Going keys N (f :: q)) : Going keys (N ++ [f]) (q ++ kids f) ∧ loads (q ++ kids f) < loads (f :: q) := by
  have hf := h.ok f (by simp)
  have hl : loads (f :: q) = load f + loads q := by unfold loads; rw [List.map_cons, List.sum_cons]
  have hk := kids_load f (by omega)
  have hs : loads (q ++ kids f) < loads (f :: q) := by rw [loads_append, hl]; omega
  have hw : ∀ g ∈ q ++ kids f, WF g ∧ g.deep ≤ 5 := by
    intro g hg
    rcases List.mem_append.mp hg with hg | hg
    · exact h.ok g (by simp [hg])
    · exact kids_wf hf.1 g hg
  refine ⟨⟨?_, hw, fun g hg => ?_⟩, hs⟩
  · obtain ⟨m, hm⟩ : ∃ m, loads (f :: q) = m + 1 := ⟨loads (f :: q) - 1, by omega⟩
    have e1 : nodes (m + 1) (f :: q) = f :: nodes m (q ++ kids f) := rfl
    rw [h.all, hm, e1, nodes_fuel m (loads (q ++ kids f)) (q ++ kids f) hw (by omega) (Nat.le_refl _), List.append_assoc]
    rfl
  · rcases List.mem_append.mp hg with hg | hg
    · exact h.sub g (by simp [hg])
    · rw [kids_eq] at hg
      obtain ⟨b, hb, rfl⟩ := List.mem_map.mp hg
      have h1 := branch_le (List.mem_filter.mp hb).1
      have h2 := h.sub f (by simp)
      show b.2.length ≤ keys.length
      omega
theorem going_len {keys : List Str} (hK : KeyL keys) (hn : keys.length ≤ 24) (keep : Nat) {N q : List Fork} (h : Going keys N q) :
    (enc keep N).letters.length ≤ 144 ∧ (enc keep N).more.length ≤ 144 ∧ (enc keep N).first.length ≤ 144 ∧ (enc keep N).rests.length ≤ 144 := by
  have hall : (letters (forks keys)).length ≤ 144 := by
    have h1 : (letters (forks keys)).length ≤ ((heads keep keys).map fun k => k.length + 1).sum := size_high hK keep
    have h2 : ((heads keep keys).map fun k => k.length + 1).sum ≤ (heads keep keys).length * 6 := by
      have hk := (heads_key hK keep).key
      generalize heads keep keys = l at hk
      have : ∀ l : List Str, (∀ k ∈ l, isKey k) → (l.map fun k => k.length + 1).sum ≤ l.length * 6 := by
        intro l
        induction l with
        | nil => intro _; exact Nat.le_refl _
        | cons k t ih =>
          intro hk
          have h1 := (hk k (by simp)).1
          have h2 := ih fun x hx => hk x (by simp [hx])
          rw [List.map_cons, List.sum_cons, List.length_cons]
          omega
      exact this l hk
    have h3 : (heads keep keys).length = keys.length := by unfold heads; rw [List.length_map]
    rw [h3] at h2
    omega
  have hN : (letters N).length ≤ 144 := by
    have e : letters (forks keys) = letters N ++ letters (nodes (loads q) q) := by rw [h.all]; unfold letters; rw [List.flatMap_append]
    rw [e, List.length_append] at hall
    omega
  refine ⟨hN, ?_, ?_, ?_⟩
  · show (more N).length ≤ 144
    rw [len_more, ← len_letters]; exact hN
  · show (firsts N).length ≤ 144
    rw [len_firsts, ← len_letters]; exact hN
  · show (rests keep N).length ≤ 144
    refine Nat.le_trans ?_ hN
    unfold rests letters
    clear h hN
    induction N with
    | nil => exact Nat.le_refl _
    | cons f N ih =>
      rw [List.flatMap_cons, List.flatMap_cons, List.length_append, List.length_append]
      have : (restsF keep f).length ≤ ((bs f).map (·.1)).length := by
        unfold restsF
        rw [List.length_map, List.length_map]
        exact List.length_filter_le _ _
      omega

end Go.Proofs.YtfhpkcamigkmdaaGreatDoor.T

namespace Go.Proofs.YtfhpkcamigkmdaaGreatDoor.T
open M

/-- a branch: it goes on, to a node, or ends, with a rest that is all or not -/
inductive TB where
  | on (c : UInt8) (n : Nat)
  | en (c : UInt8) (r : Str) (w : Bool)
def TB.lab : TB → UInt8
  | .on c _ => c
  | .en c _ _ => c
abbrev Tr := List (List TB)
def wayL (c : UInt8) : Str := if c = 45 then [] else [c]
/-- what is kept below a node, with so much fuel -/
def hdT (t : Tr) : Nat → Nat → Str → List (Str × Bool)
  | 0, _, _ => []
  | n + 1, j, way => (t.getD j []).flatMap fun b => match b with
    | .on c m => hdT t n m (way ++ wayL c)
    | .en c r w => [(way ++ wayL c ++ r, w)]
/-- branches lead to nodes behind -/
def Ahead (t : Tr) : Prop := ∀ j c m, TB.on c m ∈ t.getD j [] → j < m ∧ m < t.length

/-- the branches of a fork, the first that goes on leading to node n -/
def nodeT (keep d : Nat) : Nat → List Br → List TB
  | _, [] => []
  | n, b :: l => if goes b = true then .on b.1 n :: nodeT keep d (n + 1) l else .en b.1 (restB d keep b) (decide (b.1 = 45 ∨ (restB d keep b).length < keep)) :: nodeT keep d n l
/-- the trie of forks -/
def trN (keep : Nat) : Nat → List Fork → Tr
  | _, [] => []
  | n, f :: N => nodeT keep f.deep n (bs f) :: trN keep (n + (kids f).length) N
theorem nodeT_len (keep d : Nat) : ∀ (n : Nat) (l : List Br), (nodeT keep d n l).length = l.length
  | _, [] => rfl
  | n, b :: l => by
    unfold nodeT
    split
    · rw [List.length_cons, List.length_cons, nodeT_len keep d (n + 1) l]
    · rw [List.length_cons, List.length_cons, nodeT_len keep d n l]
theorem trN_len (keep : Nat) : ∀ (n : Nat) (N : List Fork), (trN keep n N).length = N.length
  | _, [] => rfl
  | n, f :: N => by unfold trN; rw [List.length_cons, List.length_cons, trN_len keep _ N]
theorem nodeT_get (keep d : Nat) : ∀ (n : Nat) (l : List Br) (p : Nat) (b : Br), l[p]? = some b →
    (nodeT keep d n l)[p]? = some (if goes b = true then .on b.1 (n + ((l.take p).filter goes).length) else .en b.1 (restB d keep b) (decide (b.1 = 45 ∨ (restB d keep b).length < keep)))
  | n, a :: l, 0, b, h => by
    simp at h; subst h
    unfold nodeT
    split <;> simp
  | n, a :: l, p + 1, b, h => by
    have h' : l[p]? = some b := by simpa using h
    unfold nodeT
    by_cases hg : goes a = true
    · rw [if_pos hg, List.getElem?_cons_succ, nodeT_get keep d (n + 1) l p b h', List.take_succ_cons, List.filter_cons, if_pos hg, List.length_cons]
      split
      · congr 2; omega
      · rfl
    · rw [if_neg hg, List.getElem?_cons_succ, nodeT_get keep d n l p b h', List.take_succ_cons, List.filter_cons, if_neg hg]
theorem nodeT_snoc (keep d : Nat) : ∀ (n : Nat) (l : List Br) (b : Br), nodeT keep d n (l ++ [b]) = nodeT keep d n l ++ nodeT keep d (n + (l.filter goes).length) [b]
  | n, [], b => rfl
  | n, a :: l, b => by
    rw [List.cons_append]
    unfold nodeT
    by_cases hg : goes a = true
    · rw [if_pos hg, if_pos hg, nodeT_snoc keep d (n + 1) l b, List.filter_cons, if_pos hg, List.length_cons, List.cons_append]
      rw [show n + 1 + (l.filter goes).length = n + ((l.filter goes).length + 1) by omega]
      rfl
    · rw [if_neg hg, if_neg hg, nodeT_snoc keep d n l b, List.filter_cons, if_neg hg, List.cons_append]
      rfl
theorem trN_get (keep : Nat) : ∀ (n : Nat) (N : List Fork) (j : Nat) (f : Fork), N[j]? = some f → (trN keep n N)[j]? = some (nodeT keep f.deep (n + kidsTo N j) (bs f))
  | n, g :: N, 0, f, h => by simp at h; subst h; rfl
  | n, g :: N, j + 1, f, h => by
    have h' : N[j]? = some f := by simpa using h
    unfold trN
    rw [List.getElem?_cons_succ, trN_get keep _ N j f h']
    show some (nodeT keep f.deep (n + (kids g).length + kidsTo N j) (bs f)) = some (nodeT keep f.deep (n + ((kids g).length + kidsTo N j)) (bs f))
    rw [Nat.add_assoc]
theorem trN_snoc (keep : Nat) : ∀ (n : Nat) (N : List Fork) (f : Fork), trN keep n (N ++ [f]) = trN keep n N ++ [nodeT keep f.deep (n + (N.flatMap kids).length) (bs f)]
  | n, [], f => rfl
  | n, g :: N, f => by
    rw [List.cons_append]
    unfold trN
    rw [trN_snoc keep _ N f, List.flatMap_cons, List.length_append, Nat.add_assoc, List.cons_append]

/-- the trie of a tree: where a branch that goes on leads -/
theorem tree_on {N : List Fork} (T : Tree N) {j p : Nat} {f : Fork} {b : Br} (hj : N[j]? = some f) (hp : (bs f)[p]? = some b) (hg : goes b = true) :
    N[1 + kidsTo N j + (((bs f).take p).filter goes).length]? = some ⟨b.2, f.deep + 1⟩ ∧ j < 1 + kidsTo N j + (((bs f).take p).filter goes).length := by
  have h1 := leads_to N j p f b hj hp hg
  have h2 := T.next _ _ h1
  have hjl : j < N.length := (List.getElem?_eq_some_iff.mp hj).1
  have hpl : p < (bs f).length := (List.getElem?_eq_some_iff.mp hp).1
  have e : ones ((more N).take (start N j + p)) = kidsTo N j + (((bs f).take p).filter goes).length := by
    rw [List.take_add, ones_append, rank_start N j (by omega)]
    congr 1
    have hd : ((more N).drop (start N j)).take p = (moreF f).take p := by
      apply List.ext_getElem?
      intro i
      rcases Nat.lt_or_ge i p with hi | hi
      · rw [List.getElem?_take_of_lt hi, List.getElem?_take_of_lt hi, List.getElem?_drop]
        obtain ⟨b', hb'⟩ : ∃ b', (bs f)[i]? = some b' := ⟨_, List.getElem?_eq_getElem (by omega)⟩
        rw [(more_at N j i f b' hj hb').1]
        unfold moreF
        rw [List.getElem?_map, hb']; rfl
      · rw [List.getElem?_eq_none (by rw [List.length_take]; omega), List.getElem?_eq_none (by rw [List.length_take]; omega)]
    rw [hd]
    unfold moreF
    rw [← List.map_take, ones_bits]
  rw [e] at h2
  have h3 := T.behind j hjl
  refine ⟨?_, by omega⟩
  rw [← h2]
  congr 1
  omega
/-- what is kept, read off the trie of a tree -/
theorem hd_fork {N : List Fork} (T : Tree N) (keep : Nat) : ∀ (n m j : Nat) (f : Fork) (way : Str), N[j]? = some f → 6 - f.deep ≤ n → n ≤ m → (∀ k ∈ f.keys, k.take f.deep = way) →
    hdT (trN keep 1 N) m j way = (leaves n f).map fun x => (keptK keep x, wholeK keep x) := by
  intro n
  induction n with
  | zero =>
    intro m j f way hj hn
    have := (T.wf f (List.mem_of_getElem? hj)).2
    omega
  | succ n ih =>
    intro m j f way hj hn hm hh
    obtain ⟨m, rfl⟩ : ∃ m', m = m' + 1 := ⟨m - 1, by omega⟩
    have hf := (T.wf f (List.mem_of_getElem? hj)).1
    have ok := brs_ok hf
    have hnode : (trN keep 1 N).getD j [] = nodeT keep f.deep (1 + kidsTo N j) (bs f) := by
      rw [List.getD_eq_getElem?_getD, trN_get keep 1 N j f hj]; rfl
    show ((trN keep 1 N).getD j []).flatMap _ = ((bs f).flatMap _).map _
    rw [hnode, List.map_flatMap]
    -- branch by branch
    have key : ∀ (l : List Br) (q : Nat), (bs f).drop q = l →
        (nodeT keep f.deep (1 + kidsTo N j + (((bs f).take q).filter goes).length) l).flatMap (fun b => match b with | .on c m' => hdT (trN keep 1 N) m m' (way ++ wayL c) | .en c r w => [(way ++ wayL c ++ r, w)]) =
        l.flatMap fun b => (if goes b = true then leaves n ⟨b.2, f.deep + 1⟩ else b.2.map fun k => (k, f.deep + 1)).map fun x => (keptK keep x, wholeK keep x) := by
      intro l
      induction l with
      | nil => intro q _; rfl
      | cons b l ihl =>
        intro q hq
        have hp : (bs f)[q]? = some b := by
          have := congrArg (·[0]?) hq
          simpa [List.getElem?_drop] using this
        have hql : q < (bs f).length := (List.getElem?_eq_some_iff.mp hp).1
        have hdl : (bs f).drop (q + 1) = l := by
          have := congrArg (List.drop 1) hq
          rw [List.drop_drop] at this
          simpa using this
        have htk : (bs f).take (q + 1) = (bs f).take q ++ [b] := by rw [List.take_add_one, hp]; rfl
        have hrest := ihl (q + 1) hdl
        rw [htk, List.filter_append] at hrest
        have hbm : b ∈ brs f.deep f.keys := List.mem_of_getElem? hp
        obtain ⟨hne, heach⟩ := ok.each b hbm
        have hnow : ∀ x ∈ b.2, way ++ wayL b.1 = x.take (f.deep + 1) := by
          intro x hx
          have hxk := branch_sub hf hbm hx
          unfold wayL
          rw [← heach x hx, ← hh x hxk]
          rcases letter_key (hf.key x hxk) f.deep with ⟨h45, hle⟩ | ⟨h97, hlt⟩
          · rw [if_pos h45, List.append_nil, List.take_of_length_le hle, List.take_of_length_le (by omega)]
          · rw [if_neg (fun e => by rw [e] at h97; exact absurd h97 (by decide)), List.take_add_one]
            congr 1
            unfold letter
            rw [List.getElem?_eq_getElem hlt]; rfl
        by_cases hg : goes b = true
        · obtain ⟨t1, t2⟩ := tree_on T hj hp hg
          have e1 : nodeT keep f.deep (1 + kidsTo N j + (((bs f).take q).filter goes).length) (b :: l) = .on b.1 (1 + kidsTo N j + (((bs f).take q).filter goes).length) :: nodeT keep f.deep (1 + kidsTo N j + (((bs f).take q).filter goes).length + 1) l := by
            conv => lhs; unfold nodeT
            rw [if_pos hg]
          have e2 : ([b].filter goes).length = 1 := by rw [List.filter_cons, if_pos hg]; rfl
          rw [List.length_append, e2] at hrest
          rw [e1, List.flatMap_cons, List.flatMap_cons, if_pos hg]
          congr 1
          rw [← ih m _ ⟨b.2, f.deep + 1⟩ (way ++ wayL b.1) t1 (by show 6 - (f.deep + 1) ≤ n; omega) (by omega) (fun k hk => (hnow k hk).symm)]
        · have hgf : goes b = false := by simpa using hg
          have e1 : nodeT keep f.deep (1 + kidsTo N j + (((bs f).take q).filter goes).length) (b :: l) = .en b.1 (restB f.deep keep b) (decide (b.1 = 45 ∨ (restB f.deep keep b).length < keep)) :: nodeT keep f.deep (1 + kidsTo N j + (((bs f).take q).filter goes).length) l := by
            conv => lhs; unfold nodeT
            rw [if_neg hg]
          have e2 : ([b].filter goes).length = 0 := by rw [List.filter_cons, if_neg hg]; rfl
          rw [List.length_append, e2, Nat.add_zero] at hrest
          rw [e1, List.flatMap_cons, List.flatMap_cons, if_neg hg, hrest]
          congr 1
          obtain ⟨x, hx⟩ := single_of hne hgf
          show [(way ++ wayL b.1 ++ restB f.deep keep b, decide (b.1 = 45 ∨ (restB f.deep keep b).length < keep))] = _
          rw [hnow x (by rw [hx]; simp)]
          have hrb : restB f.deep keep b = restOf x (f.deep + 1) keep := by unfold restB; rw [hx]; rfl
          rw [hrb, hx]
          have hw := whole_at hf hbm hx keep
          simp only [List.map_cons, List.map_nil]
          have hwd : decide (b.1 = 45 ∨ (restOf x (f.deep + 1) keep).length < keep) = wholeK keep (x, f.deep + 1) := by
            rw [Bool.eq_iff_iff, decide_eq_true_eq]; exact hw
          rw [hwd]
          congr 2
          unfold restOf keptK
          rw [← List.take_add]
    have := key (bs f) 0 rfl
    simpa using this

end Go.Proofs.YtfhpkcamigkmdaaGreatDoor.T

namespace Go.Proofs.YtfhpkcamigkmdaaGreatDoor.T
open M

/-- the nodes that branches lead to -/
def onsN (l : List TB) : List Nat := l.filterMap fun b => match b with | .on _ m => some m | .en .. => none
/-- nodes one behind the other -/
def Seq (t : Tr) : Prop := ∃ k, t.flatMap onsN = List.range' 1 k
/-- with enough fuel it is the same -/
theorem hd_fuel {t : Tr} (ha : Ahead t) : ∀ (n m j : Nat) (way : Str), t.length - j ≤ n → t.length - j ≤ m → hdT t n j way = hdT t m j way
  | 0, 0, _, _, _, _ => rfl
  | 0, m + 1, j, way, h, _ => by
    have : t.getD j [] = [] := by rw [List.getD_eq_getElem?_getD, List.getElem?_eq_none (by omega)]; rfl
    unfold hdT
    rw [this]; rfl
  | n + 1, 0, j, way, _, h => by
    have : t.getD j [] = [] := by rw [List.getD_eq_getElem?_getD, List.getElem?_eq_none (by omega)]; rfl
    unfold hdT
    rw [this]; rfl
  | n + 1, m + 1, j, way, h1, h2 => by
    unfold hdT
    rw [List.flatMap_def, List.flatMap_def]
    congr 1
    apply List.map_congr_left
    intro b hb
    cases b with
    | on c k =>
      have := ha j c k hb
      exact hd_fuel ha n m k _ (by omega) (by omega)
    | en c r w => rfl
/-- how many are kept below a node -/
def cnT (t : Tr) (j : Nat) : Nat := (hdT t t.length j []).length
theorem cn_way {t : Tr} : ∀ (n j : Nat) (way way' : Str), (hdT t n j way).length = (hdT t n j way').length
  | 0, _, _, _ => rfl
  | n + 1, j, way, way' => by
    unfold hdT
    rw [List.length_flatMap, List.length_flatMap]
    congr 1
    apply List.map_congr_left
    intro b _
    cases b with
    | on c k => exact cn_way n k _ _
    | en c r w => rfl
/-- below a node: the branches that end, and what is below those that go on -/
theorem cn_step {t : Tr} (ha : Ahead t) (j : Nat) : cnT t j ≤ (t.getD j []).length + ((onsN (t.getD j [])).map (cnT t)).sum := by
  unfold cnT
  rcases Nat.lt_or_ge j t.length with hj | hj
  · obtain ⟨n, hn⟩ : ∃ n, t.length = n + 1 := ⟨t.length - 1, by omega⟩
    have hin : ∀ c m, TB.on c m ∈ t.getD j [] → j < m ∧ m < t.length := fun c m h => ha j c m h
    rw [hn]
    conv => lhs; unfold hdT
    rw [List.length_flatMap]
    generalize t.getD j [] = l at hin
    induction l with
    | nil => simp
    | cons b l ih =>
      have h2 := ih fun c m h => hin c m (List.mem_cons_of_mem _ h)
      rw [List.map_cons, List.sum_cons, List.length_cons]
      cases b with
      | on c m =>
        have e : onsN (TB.on c m :: l) = m :: onsN l := rfl
        have h3 := hin c m (by simp)
        rw [e, List.map_cons, List.sum_cons]
        have h4 : (hdT t n m ([] ++ wayL c)).length = (hdT t (n + 1) m []).length := by
          rw [cn_way n m _ [], hd_fuel ha n (n + 1) m [] (by omega) (by omega)]
        show (hdT t n m ([] ++ wayL c)).length + _ ≤ _
        omega
      | en c r w =>
        have e : onsN (TB.en c r w :: l) = onsN l := rfl
        rw [e]
        show 1 + _ ≤ _
        omega
  · have : t.getD j [] = [] := by rw [List.getD_eq_getElem?_getD, List.getElem?_eq_none (by omega)]; rfl
    rw [hd_fuel ha t.length 0 j [] (by omega) (by omega)]
    exact Nat.zero_le _
theorem cn_out {t : Tr} (ha : Ahead t) {j : Nat} (h : t.length ≤ j) : cnT t j = 0 := by
  unfold cnT
  rw [hd_fuel ha t.length 0 j [] (by omega) (by omega)]
  rfl
theorem sum_zero {l : List Nat} (h : ∀ x ∈ l, x = 0) : l.sum = 0 := by
  induction l with
  | nil => rfl
  | cons a t ih => rw [List.sum_cons, h a (by simp), ih fun x hx => h x (by simp [hx])]
theorem take_range (s n m : Nat) : (List.range' s n).take m = List.range' s (min m n) := by
  apply List.ext_getElem
  · simp
  · intro i h1 h2; simp
/-- the nodes that are waited for -/
theorem cn_seq {t : Tr} (ha : Ahead t) {k : Nat} (hs : t.flatMap onsN = List.range' 1 k) : ∀ (r i : Nat), t.length - i ≤ r →
    ((List.range' i (((t.take i).flatMap onsN).length + 1 - i)).map (cnT t)).sum ≤ ((t.drop i).map List.length).sum := by
  intro r
  induction r with
  | zero =>
    intro i hi
    have : ∀ x ∈ (List.range' i (((t.take i).flatMap onsN).length + 1 - i)).map (cnT t), x = 0 := by
      intro x hx
      obtain ⟨y, hy, rfl⟩ := List.mem_map.mp hx
      exact cn_out ha (by have := (List.mem_range'_1.mp hy).1; omega)
    rw [sum_zero this]
    exact Nat.zero_le _
  | succ r ih =>
    intro i hi
    rcases Nat.lt_or_ge i t.length with hlt | hge
    · have h1 := ih (i + 1) (by omega)
      have hget : t.getD i [] = t[i] := by rw [List.getD_eq_getElem?_getD, List.getElem?_eq_getElem hlt]; rfl
      have htk : t.take (i + 1) = t.take i ++ [t[i]] := by rw [List.take_add_one, List.getElem?_eq_getElem hlt]; rfl
      have hdr : t.drop i = t[i] :: t.drop (i + 1) := List.drop_eq_getElem_cons hlt
      have ha2 : ((t.take (i + 1)).flatMap onsN).length = ((t.take i).flatMap onsN).length + (onsN t[i]).length := by
        rw [htk, List.flatMap_append, List.length_append]; simp
      rw [ha2] at h1
      have hons : onsN t[i] = List.range' (1 + ((t.take i).flatMap onsN).length) (onsN t[i]).length := by
        have e : t.flatMap onsN = (t.take i).flatMap onsN ++ (onsN t[i] ++ (t.drop (i + 1)).flatMap onsN) := by
          conv => lhs; rw [← List.take_append_drop i t, hdr]
          rw [List.flatMap_append, List.flatMap_cons]
        rw [hs] at e
        have hl := congrArg List.length e
        rw [List.length_range', List.length_append, List.length_append] at hl
        have e2 := congrArg (fun l => (l.drop ((t.take i).flatMap onsN).length).take (onsN t[i]).length) e
        simp only [List.drop_left, List.take_left] at e2
        have hmin : min (onsN t[i]).length (k - ((t.take i).flatMap onsN).length) = (onsN t[i]).length := by omega
        rw [List.drop_range', take_range, hmin, Nat.mul_one] at e2
        exact e2.symm
      generalize ((t.take i).flatMap onsN).length = a at h1 hons ⊢
      rw [hdr, List.map_cons, List.sum_cons]
      have h2 := cn_step ha i
      rw [hget] at h2
      rcases Nat.lt_or_ge a i with hai | hai
      · rw [show a + 1 - i = 0 by omega]
        exact Nat.zero_le _
      · obtain ⟨d, hd⟩ : ∃ d, a + 1 - i = d + 1 := ⟨a - i, by omega⟩
        rw [hd, List.range'_succ, List.map_cons, List.sum_cons]
        have e3 : List.range' (i + 1) (a + (onsN t[i]).length + 1 - (i + 1)) = List.range' (i + 1) d ++ List.range' (1 + a) (onsN t[i]).length := by
          rw [show a + (onsN t[i]).length + 1 - (i + 1) = d + (onsN t[i]).length by omega]
          rw [← List.range'_append_1, show i + 1 + d = 1 + a by omega]
        rw [e3, List.map_append, List.sum_append, ← hons] at h1
        omega
    · have : ∀ x ∈ (List.range' i (((t.take i).flatMap onsN).length + 1 - i)).map (cnT t), x = 0 := by
        intro x hx
        obtain ⟨y, hy, rfl⟩ := List.mem_map.mp hx
        exact cn_out ha (by have := (List.mem_range'_1.mp hy).1; omega)
      rw [sum_zero this]
      exact Nat.zero_le _
theorem cn_root {t : Tr} (ha : Ahead t) (hs : Seq t) (way : Str) : (hdT t t.length 0 way).length ≤ (t.map List.length).sum := by
  obtain ⟨k, hk⟩ := hs
  have h := cn_seq ha hk t.length 0 (by omega)
  rw [cn_way _ _ way []]
  simpa [cnT] using h

/-- a branch of a filter, by its number -/
def Sv.br (s : Sv) (i : Nat) : TB :=
  if s.more.getD i 0 = 48 then .en (s.letters.getD i 0) (s.rests.getD (i - s.rank i) []) (decide (s.letters.getD i 0 = 45 ∨ (s.rests.getD (i - s.rank i) []).length < s.keep))
  else .on (s.letters.getD i 0) (s.rank (i + 1))
/-- a branch more in the last node -/
def snocL (t : Tr) (b : TB) : Tr := t.dropLast ++ [t.getLastD [] ++ [b]]
/-- the nodes of the first branches -/
def Sv.grp (s : Sv) : Nat → Tr
  | 0 => []
  | i + 1 => if s.first.getD i 0 = 49 then s.grp i ++ [[s.br i]] else snocL (s.grp i) (s.br i)
def Sv.nds (s : Sv) (i : Nat) : Nat := ones (s.first.take i)
def Sv.top (s : Sv) : Nat := max 1 (ones s.first)
/-- a branch that cannot be read -/
def Sv.bad (s : Sv) (i : Nat) : Prop := s.nds (i + 1) = 0 ∨ (s.more.getD i 0 ≠ 48 ∧ (s.rank (i + 1) + 1 ≤ s.nds (i + 1) ∨ s.top ≤ s.rank (i + 1)))
/-- all can be read -/
def Sv.rdOk (s : Sv) : Prop := ∀ i, i < s.letters.length → ¬ s.bad i
def Sv.rd (s : Sv) : Tr := if s.letters.length = 0 then [[]] else s.grp s.letters.length

end Go.Proofs.YtfhpkcamigkmdaaGreatDoor.T

namespace Go.Proofs.YtfhpkcamigkmdaaGreatDoor.T
open M

theorem ones_take_mono (l : Str) {i j : Nat} (h : i ≤ j) : ones (l.take i) ≤ ones (l.take j) := by
  obtain ⟨d, rfl⟩ := Nat.le.dest h
  rw [List.take_add, ones_append]; omega
theorem ones_next (l : Str) (i : Nat) (h : i < l.length) : ones (l.take (i + 1)) = ones (l.take i) + if l.getD i 0 = 49 then 1 else 0 := by
  have hg : l[i]? = some (l.getD i 0) := by rw [List.getD_eq_getElem?_getD, List.getElem?_eq_getElem h]; rfl
  rw [ones_take_succ _ _ _ hg]
theorem snocL_len {t : Tr} (h : t ≠ []) (b : TB) : (snocL t b).length = t.length := by
  unfold snocL
  have : 0 < t.length := List.length_pos_iff.mpr h
  rw [List.length_append, List.length_dropLast]; simp; omega
theorem snocL_eq (D : Tr) (c : List TB) (b : TB) : snocL (D ++ [c]) b = D ++ [c ++ [b]] := by
  unfold snocL
  rw [List.dropLast_concat, List.getLastD_concat]
theorem last_split {t : Tr} (h : t ≠ []) : ∃ D c, t = D ++ [c] := ⟨t.dropLast, t.getLast h, (List.dropLast_concat_getLast h).symm⟩

section
variable (s : Sv)
/-- as many nodes as ones -/
theorem grp_len (hf : s.first.length = s.letters.length) : ∀ i, i ≤ s.letters.length → (∀ k, k < i → ¬ s.bad k) → (s.grp i).length = s.nds i
  | 0, _, _ => rfl
  | i + 1, hi, hb => by
    have ih := grp_len hf i (by omega) fun k hk => hb k (by omega)
    have hn : s.nds (i + 1) = s.nds i + if s.first.getD i 0 = 49 then 1 else 0 := ones_next s.first i (by omega)
    have hz : s.nds (i + 1) ≠ 0 := fun e => hb i (by omega) (.inl e)
    unfold Sv.grp
    by_cases h : s.first.getD i 0 = 49
    · rw [if_pos h] at hn ⊢
      rw [List.length_append, ih, hn]; rfl
    · rw [if_neg h] at hn ⊢
      rw [snocL_len (fun e => by rw [e] at ih; simp at ih; omega), ih, hn, Nat.add_zero]
/-- where a branch that goes on is, and where it leads -/
theorem grp_on (hf : s.first.length = s.letters.length) : ∀ i, i ≤ s.letters.length → (∀ k, k < i → ¬ s.bad k) → ∀ j c m, TB.on c m ∈ (s.grp i).getD j [] → j < m ∧ m < s.top
  | 0, _, _, j, c, m, h => by
    have : (s.grp 0).getD j [] = [] := by show ([] : Tr).getD j [] = []; simp
    rw [this] at h; cases h
  | i + 1, hi, hb, j, c, m, h => by
    have ih := grp_on hf i (by omega) (fun k hk => hb k (by omega)) j c m
    have hl := grp_len s hf i (by omega) fun k hk => hb k (by omega)
    have hn : s.nds (i + 1) = s.nds i + if s.first.getD i 0 = 49 then 1 else 0 := ones_next s.first i (by omega)
    have hnb := hb i (by omega)
    have hbr : TB.on c m = s.br i → j + 1 = s.nds (i + 1) → j < m ∧ m < s.top := by
      intro e hj
      unfold Sv.br at e
      by_cases hm : s.more.getD i 0 = 48
      · rw [if_pos hm] at e; cases e
      · rw [if_neg hm] at e
        injection e with e1 e2
        have : ¬ (s.rank (i + 1) + 1 ≤ s.nds (i + 1) ∨ s.top ≤ s.rank (i + 1)) := fun h => hnb (.inr ⟨hm, h⟩)
        omega
    have hz : s.nds (i + 1) ≠ 0 := fun e => hnb (.inl e)
    unfold Sv.grp at h
    by_cases hfi : s.first.getD i 0 = 49
    · rw [if_pos hfi] at h hn
      rw [List.getD_eq_getElem?_getD] at h
      rcases Nat.lt_trichotomy j (s.grp i).length with hlt | heq | hgt
      · rw [List.getElem?_append_left hlt, ← List.getD_eq_getElem?_getD] at h
        exact ih h
      · rw [List.getElem?_append_right (by omega), heq, Nat.sub_self] at h
        have h' : TB.on c m ∈ [s.br i] := h
        exact hbr (List.mem_singleton.mp h') (by omega)
      · rw [List.getElem?_eq_none (by rw [List.length_append]; simp; omega)] at h
        cases h
    · rw [if_neg hfi] at h hn
      have hne : s.grp i ≠ [] := fun e => by rw [e] at hl; simp at hl; omega
      obtain ⟨D, cc, hD⟩ := last_split hne
      rw [hD] at h ih hl
      rw [snocL_eq, List.getD_eq_getElem?_getD] at h
      rw [List.getD_eq_getElem?_getD] at ih
      rw [List.length_append] at hl
      rcases Nat.lt_trichotomy j D.length with hlt | heq | hgt
      · rw [List.getElem?_append_left hlt] at h ih
        exact ih h
      · rw [List.getElem?_append_right (by omega), heq, Nat.sub_self] at h
        rw [List.getElem?_append_right (by omega), heq, Nat.sub_self] at ih
        have h' : TB.on c m ∈ cc ++ [s.br i] := h
        rcases List.mem_append.mp h' with h2 | h2
        · have := ih h2; omega
        · exact hbr (List.mem_singleton.mp h2) (by simp at hl; omega)
      · rw [List.getElem?_eq_none (by rw [List.length_append]; simp; omega)] at h
        cases h
theorem onsN_append (a b : List TB) : onsN (a ++ b) = onsN a ++ onsN b := by unfold onsN; rw [List.filterMap_append]
theorem snocL_ons {t : Tr} (h : t ≠ []) (b : TB) : (snocL t b).flatMap onsN = t.flatMap onsN ++ onsN [b] := by
  obtain ⟨D, c, rfl⟩ := last_split h
  rw [snocL_eq, List.flatMap_append, List.flatMap_append, List.append_assoc]
  congr 1
  simp [onsN_append]
theorem snocL_sum {t : Tr} (h : t ≠ []) (b : TB) : ((snocL t b).map List.length).sum = (t.map List.length).sum + 1 := by
  obtain ⟨D, c, rfl⟩ := last_split h
  rw [snocL_eq, List.map_append, List.map_append, List.sum_append, List.sum_append]
  simp
  omega
theorem grp_seq (hm : s.more.length = s.letters.length) (hf : s.first.length = s.letters.length) (hbit : ∀ i, i < s.more.length → s.more.getD i 0 = 48 ∨ s.more.getD i 0 = 49) : ∀ i, i ≤ s.letters.length → (∀ k, k < i → ¬ s.bad k) →
    (s.grp i).flatMap onsN = List.range' 1 (s.rank i) ∧ ((s.grp i).map List.length).sum = i
  | 0, _, _ => ⟨rfl, rfl⟩
  | i + 1, hi, hb => by
    have ih := grp_seq hm hf hbit i (by omega) fun k hk => hb k (by omega)
    have hl := grp_len s hf i (by omega) fun k hk => hb k (by omega)
    have hn : s.nds (i + 1) = s.nds i + if s.first.getD i 0 = 49 then 1 else 0 := ones_next s.first i (by omega)
    have hz : s.nds (i + 1) ≠ 0 := fun e => hb i (by omega) (.inl e)
    have hr : s.rank (i + 1) = s.rank i + if s.more.getD i 0 = 49 then 1 else 0 := ones_next s.more i (by omega)
    have hbr : onsN [s.br i] = List.range' (1 + s.rank i) (if s.more.getD i 0 = 49 then 1 else 0) := by
      unfold Sv.br
      rcases hbit i (by omega) with h | h
      · rw [if_pos h, if_neg (by rw [h]; decide)]; rfl
      · rw [if_neg (by rw [h]; decide), if_pos h, hr, if_pos h, Nat.add_comm 1]; rfl
    have hcat : List.range' 1 (s.rank i) ++ List.range' (1 + s.rank i) (if s.more.getD i 0 = 49 then 1 else 0) = List.range' 1 (s.rank (i + 1)) := by
      rw [List.range'_append_1, hr]
    unfold Sv.grp
    by_cases h : s.first.getD i 0 = 49
    · rw [if_pos h]
      rw [List.flatMap_append, ih.1, List.map_append, List.sum_append, ih.2]
      refine ⟨?_, rfl⟩
      rw [← hcat, ← hbr]; simp
    · rw [if_neg h] at hn ⊢
      have hne : s.grp i ≠ [] := fun e => by rw [e] at hl; simp at hl; omega
      rw [snocL_ons hne, snocL_sum hne, ih.1, ih.2, hbr, hcat]
      exact ⟨rfl, rfl⟩
/-- a filter that can be read -/
theorem rd_ok (hm : s.more.length = s.letters.length) (hf : s.first.length = s.letters.length) (hbit : ∀ i, i < s.more.length → s.more.getD i 0 = 48 ∨ s.more.getD i 0 = 49) (h : s.rdOk) :
    Ahead s.rd ∧ s.rd.length = s.top ∧ (∀ way, (hdT s.rd s.rd.length 0 way).length ≤ s.letters.length) := by
  unfold Sv.rd
  by_cases h0 : s.letters.length = 0
  · rw [if_pos h0]
    have hff : s.first = [] := List.eq_nil_of_length_eq_zero (by omega)
    refine ⟨fun j c m hm => ?_, ?_, fun way => ?_⟩
    · have : ([[]] : Tr).getD j [] = [] := by
        cases j with
        | zero => rfl
        | succ j => rfl
      rw [this] at hm; cases hm
    · unfold Sv.top; rw [hff]; rfl
    · exact Nat.zero_le _
  · rw [if_neg h0]
    have hl := grp_len s hf _ (Nat.le_refl _) h
    have hnz : s.nds s.letters.length ≠ 0 := by
      obtain ⟨n, hn⟩ : ∃ n, s.letters.length = n + 1 := ⟨s.letters.length - 1, by omega⟩
      rw [hn]
      exact fun e => h n (by omega) (.inl e)
    have htop : s.nds s.letters.length = s.top := by
      have e : s.nds s.letters.length = ones s.first := by unfold Sv.nds; rw [← hf, List.take_length]
      unfold Sv.top
      rw [e] at hnz ⊢
      omega
    have hseq := grp_seq s hm hf hbit _ (Nat.le_refl _) h
    have hah : Ahead (s.grp s.letters.length) := fun j c m hj => by
      have := grp_on s hf _ (Nat.le_refl _) h j c m hj
      omega
    refine ⟨hah, by rw [hl, htop], fun way => ?_⟩
    have := cn_root hah ⟨_, hseq.1⟩ way
    rw [hseq.2] at this
    exact this
end

theorem grp_add (s : Sv) {i : Nat} {t : Tr} (ht : s.grp i = t) (b : TB) (hb : s.br i = b) : s.grp (i + 1) = if s.first.getD i 0 = 49 then t ++ [[b]] else snocL t b := by
  rw [← ht, ← hb]; rfl

theorem firstN_get (n p : Nat) (h : p < n) : (firstN n)[p]? = some (if p = 0 then 49 else 48) := by
  cases n with
  | zero => omega
  | succ n =>
    unfold firstN
    cases p with
    | zero => rfl
    | succ p => simp [List.getElem?_replicate]; omega
theorem firsts_at : ∀ (N : List Fork) (j p : Nat) (f : Fork), N[j]? = some f → p < (bs f).length → (firsts N)[start N j + p]? = some (if p = 0 then 49 else 48)
  | g :: N, 0, p, f, h, hp => by
    simp at h; subst h
    show (firstN (bs g).length ++ firsts N)[0 + p]? = _
    rw [Nat.zero_add, List.getElem?_append_left (by rw [firstN_len]; exact hp), firstN_get _ _ hp]
  | g :: N, j + 1, p, f, h, hp => by
    have h' : N[j]? = some f := by simpa using h
    show (firstN (bs g).length ++ firsts N)[(bs g).length + start N j + p]? = _
    rw [List.getElem?_append_right (by rw [firstN_len]; omega), firstN_len, show (bs g).length + start N j + p - (bs g).length = start N j + p by omega]
    exact firsts_at N j p f h' hp
theorem ones_start : ∀ (N : List Fork) (j : Nat), j ≤ N.length → (∀ f ∈ N, bs f ≠ []) → ones ((firsts N).take (start N j)) = j
  | _, 0, _, _ => by unfold start; simp; rfl
  | g :: N, j + 1, h, hne => by
    show ones ((firstN (bs g).length ++ firsts N).take ((bs g).length + start N j)) = j + 1
    have hl := firstN_len (bs g).length
    rw [List.take_append, List.take_of_length_le (by omega), hl, Nat.add_sub_cancel_left, ones_append, ones_start N j (by simpa using h) fun f hf => hne f (by simp [hf])]
    obtain ⟨n, hn⟩ : ∃ n, (bs g).length = n + 1 := ⟨(bs g).length - 1, by have := List.length_pos_iff.mpr (hne g (by simp)); omega⟩
    rw [hn, ones_firstN]; omega

/-- the filter of forks is read as their trie -/
theorem rd_tree {N : List Fork} (T : Tree N) (keep : Nat) (hne : N ≠ []) : (enc keep N).rdOk ∧ (enc keep N).rd = trN keep 1 N := by
  have hL : (enc keep N).letters.length = start N N.length := len_letters N
  have htop : (enc keep N).top = N.length := by
    unfold Sv.top
    have : ones (enc keep N).first = N.length := ones_firsts N T.some_
    rw [this]
    have := List.length_pos_iff.mpr hne
    omega
  -- a branch of a node
  have hat : ∀ j p f b, N[j]? = some f → (bs f)[p]? = some b →
      (enc keep N).nds (start N j + p + 1) = j + 1 ∧ ((enc keep N).first.getD (start N j + p) 0 = 49 ↔ p = 0) ∧ ¬ (enc keep N).bad (start N j + p) ∧
      (nodeT keep f.deep (1 + kidsTo N j) (bs f))[p]? = some ((enc keep N).br (start N j + p)) := by
    intro j p f b hj hp
    have hjl : j < N.length := (List.getElem?_eq_some_iff.mp hj).1
    have hpl : p < (bs f).length := (List.getElem?_eq_some_iff.mp hp).1
    have hf0 := firsts_at N j p f hj hpl
    have hstart := ones_start N j (by omega) T.some_
    have hnds : (enc keep N).nds (start N j + p + 1) = j + 1 := by
      show ones ((firsts N).take (start N j + p + 1)) = j + 1
      rw [show start N j + p + 1 = start N j + (p + 1) by omega, List.take_add, ones_append, hstart]
      congr 1
      have : ((firsts N).drop (start N j)).take (p + 1) = (firstN (bs f).length).take (p + 1) := by
        apply List.ext_getElem?
        intro i
        rcases Nat.lt_or_ge i (p + 1) with hi | hi
        · rw [List.getElem?_take_of_lt hi, List.getElem?_take_of_lt hi, List.getElem?_drop, firsts_at N j i f hj (by omega), firstN_get _ _ (by omega)]
        · rw [List.getElem?_eq_none (by rw [List.length_take]; omega), List.getElem?_eq_none (by rw [List.length_take]; omega)]
      rw [this]
      obtain ⟨n, hn⟩ : ∃ n, (bs f).length = n + 1 := ⟨(bs f).length - 1, by omega⟩
      rw [hn]
      unfold firstN
      rw [List.take_succ_cons, List.take_replicate]
      have hz : ∀ m : Nat, ones (List.replicate m (48 : UInt8)) = 0 := by
        intro m
        induction m with
        | zero => rfl
        | succ m ih => rw [List.replicate_succ, show (48 : UInt8) :: List.replicate m 48 = [48] ++ List.replicate m 48 from rfl, ones_append, ih]; rfl
      rw [show (49 : UInt8) :: List.replicate (min p n) 48 = [49] ++ List.replicate (min p n) 48 from rfl, ones_append, hz]; rfl
    have hfg : (enc keep N).first.getD (start N j + p) 0 = if p = 0 then 49 else 48 := by
      show (firsts N).getD (start N j + p) 0 = _
      rw [List.getD_eq_getElem?_getD, hf0]; rfl
    have hmo := (more_at N j p f b hj hp).1
    have hle := (more_at N j p f b hj hp).2
    have hmg : (enc keep N).more.getD (start N j + p) 0 = bit (goes b) := by
      show (more N).getD (start N j + p) 0 = _
      rw [List.getD_eq_getElem?_getD, hmo]; rfl
    have hlg : (enc keep N).letters.getD (start N j + p) 0 = b.1 := by
      show (letters N).getD (start N j + p) 0 = _
      rw [List.getD_eq_getElem?_getD, hle]; rfl
    have hrk : (enc keep N).rank (start N j + p) = kidsTo N j + (((bs f).take p).filter goes).length := by
      show ones ((more N).take (start N j + p)) = _
      rw [List.take_add, ones_append, rank_start N j (by omega)]
      congr 1
      have hd : ((more N).drop (start N j)).take p = (moreF f).take p := by
        apply List.ext_getElem?
        intro i
        rcases Nat.lt_or_ge i p with hi | hi
        · rw [List.getElem?_take_of_lt hi, List.getElem?_take_of_lt hi, List.getElem?_drop]
          obtain ⟨b', hb'⟩ : ∃ b', (bs f)[i]? = some b' := ⟨_, List.getElem?_eq_getElem (by omega)⟩
          rw [(more_at N j i f b' hj hb').1]
          unfold moreF
          rw [List.getElem?_map, hb']; rfl
        · rw [List.getElem?_eq_none (by rw [List.length_take]; omega), List.getElem?_eq_none (by rw [List.length_take]; omega)]
      rw [hd]
      unfold moreF
      rw [← List.map_take, ones_bits]
    have hrk1 : (enc keep N).rank (start N j + p + 1) = (enc keep N).rank (start N j + p) + if goes b = true then 1 else 0 := by
      show ones ((more N).take (start N j + p + 1)) = ones ((more N).take (start N j + p)) + _
      rw [ones_take_succ _ _ _ hmo]
      cases goes b <;> rfl
    refine ⟨hnds, ?_, ?_, ?_⟩
    · rw [hfg]
      constructor
      · intro h
        by_cases h0 : p = 0
        · exact h0
        · rw [if_neg h0] at h; exact absurd h (by decide)
      · intro h; rw [if_pos h]
    · rintro (h | ⟨h1, h2⟩)
      · omega
      · rw [hmg] at h1
        have hg : goes b = true := by
          cases hgb : goes b with
          | true => rfl
          | false => rw [hgb] at h1; exact absurd rfl h1
        obtain ⟨t1, t2⟩ := tree_on T hj hp hg
        have t3 := (List.getElem?_eq_some_iff.mp t1).1
        rw [hrk1, hrk, if_pos hg, hnds, htop] at h2
        omega
    · rw [nodeT_get keep f.deep _ (bs f) p b hp]
      unfold Sv.br
      rw [hmg, hlg, hrk1, hrk]
      cases hg : goes b with
      | true =>
        rw [if_neg (show ¬ bit true = 48 by decide)]
        simp only [if_true]
        congr 2
        omega
      | false =>
        rw [if_pos (show bit false = 48 from rfl)]
        simp only [Bool.false_eq_true, if_false]
        have hr := rests_at keep N j p f b hj hp hg
        have e : (enc keep N).rests.getD (start N j + p - (kidsTo N j + (((bs f).take p).filter goes).length)) [] = restB f.deep keep b := by
          rw [← hrk, List.getD_eq_getElem?_getD]
          show ((rests keep N)[start N j + p - ones ((more N).take (start N j + p))]?).getD [] = _
          rw [hr]; rfl
        rw [e]
        rfl
  -- node by node
  have hgrp : ∀ j, j ≤ N.length → (enc keep N).grp (start N j) = (trN keep 1 N).take j := by
    intro j
    induction j with
    | zero => intro _; cases N <;> rfl
    | succ j ih =>
      intro hj
      obtain ⟨f, hf⟩ : ∃ f, N[j]? = some f := ⟨_, List.getElem?_eq_getElem (by omega)⟩
      have ih := ih (by omega)
      have hnode := trN_get keep 1 N j f hf
      have hin : ∀ p, p < (bs f).length → (enc keep N).grp (start N j + (p + 1)) = (trN keep 1 N).take j ++ [(nodeT keep f.deep (1 + kidsTo N j) (bs f)).take (p + 1)] := by
        intro p
        induction p with
        | zero =>
          intro hp
          obtain ⟨b, hb⟩ : ∃ b, (bs f)[0]? = some b := ⟨_, List.getElem?_eq_getElem hp⟩
          obtain ⟨-, h2, -, h4⟩ := hat j 0 f b hf hb
          rw [Nat.add_zero] at h2 h4
          rw [Nat.zero_add, grp_add _ ih _ rfl, if_pos (h2.mpr rfl), List.take_add_one, h4]
          rfl
        | succ p ihp =>
          intro hp
          obtain ⟨b, hb⟩ : ∃ b, (bs f)[p + 1]? = some b := ⟨_, List.getElem?_eq_getElem hp⟩
          obtain ⟨-, h2, -, h4⟩ := hat j (p + 1) f b hf hb
          have ih2 := ihp (by omega)
          have hstep := grp_add _ ih2 _ rfl
          rw [if_neg (fun e => by have := h2.mp e; omega), snocL_eq] at hstep
          rw [show start N j + (p + 1 + 1) = start N j + (p + 1) + 1 by omega, hstep]
          congr 2
          rw [List.take_add_one (i := p + 1), h4]
          rfl
      have hpos : 0 < (bs f).length := List.length_pos_iff.mpr (T.some_ f (List.mem_of_getElem? hf))
      have hall := hin ((bs f).length - 1) (by omega)
      rw [show (bs f).length - 1 + 1 = (bs f).length by omega, ← start_mono N j f hf] at hall
      rw [hall, List.take_add_one, hnode]
      congr 2
      exact List.take_of_length_le (by rw [nodeT_len]; omega)
  -- which node a branch is in
  have hwhere : ∀ (M : List Fork) (i : Nat), i < start M M.length → ∃ j p f b, M[j]? = some f ∧ (bs f)[p]? = some b ∧ i = start M j + p := by
    intro M
    induction M with
    | nil => intro i hi; exact absurd hi (Nat.not_lt_zero _)
    | cons g M ih =>
      intro i hi
      have e : start (g :: M) (g :: M).length = (bs g).length + start M M.length := rfl
      rw [e] at hi
      rcases Nat.lt_or_ge i (bs g).length with h | h
      · exact ⟨0, i, g, (bs g)[i], rfl, List.getElem?_eq_getElem h, (Nat.zero_add _).symm⟩
      · obtain ⟨j, p, f, b, h1, h2, h3⟩ := ih (i - (bs g).length) (by omega)
        refine ⟨j + 1, p, f, b, by simpa using h1, h2, ?_⟩
        show i = (bs g).length + start M j + p
        omega
  refine ⟨fun i hi => ?_, ?_⟩
  · rw [hL] at hi
    obtain ⟨j, p, f, b, h1, h2, rfl⟩ := hwhere N i hi
    exact (hat j p f b h1 h2).2.2.1
  · unfold Sv.rd
    have hpos : 0 < start N N.length := by
      cases N with
      | nil => exact absurd rfl hne
      | cons g N =>
        show 0 < (bs g).length + start N N.length
        have := List.length_pos_iff.mpr (T.some_ g (by simp))
        omega
    rw [hL, if_neg (by omega), hgrp _ (Nat.le_refl _)]
    exact List.take_of_length_le (by rw [trN_len]; exact Nat.le_refl _)

/-- no keys -/
theorem forks_nil : forks [] = [rootF []] := by
  have hl : loads [rootF []] = 1 := by simp [loads, rootF, load]
  unfold forks; rw [hl]; rfl
/-- the filter of a key list is read as its trie -/
theorem rd_sieve {keys : List Str} (h : KeyL keys) (keep : Nat) : (sieve keep keys).rdOk ∧ (sieve keep keys).rd = trN keep 1 (forks keys) := by
  by_cases hne : keys = []
  · subst hne
    have e : sieve keep [] = enc keep [rootF []] := by unfold sieve; rw [forks_nil]
    have hb : bs (rootF []) = [] := by unfold bs rootF; exact brs_nil _
    have hl : (enc keep [rootF []]).letters = [] := by show letters [rootF []] = []; unfold letters; simp [hb]
    refine ⟨fun i hi => ?_, ?_⟩
    · rw [e, hl] at hi; simp at hi
    · rw [e, forks_nil]
      unfold Sv.rd
      rw [hl, if_pos (show ([] : Str).length = 0 from rfl)]
      unfold trN trN
      rw [hb]; rfl
  · obtain ⟨Tt, h0⟩ := tree_of h hne
    exact rd_tree Tt keep (fun e => by rw [e] at h0; simp at h0)
/-- what is kept, in order, and whether it is all -/
theorem hd_sieve {keys : List Str} (h : KeyL keys) (keep : Nat) {m : Nat} (hm : 6 ≤ m) : hdT (trN keep 1 (forks keys)) m 0 [] = keys.map fun k => (kept keep keys k, whole keep keys k) := by
  by_cases hne : keys = []
  · subst hne
    obtain ⟨m, rfl⟩ : ∃ m', m = m' + 1 := ⟨m - 1, by omega⟩
    have hb : bs (rootF []) = [] := by unfold bs rootF; exact brs_nil _
    rw [forks_nil]
    unfold trN trN
    rw [hb]; rfl
  · obtain ⟨Tt, h0⟩ := tree_of h hne
    have := hd_fork Tt keep 6 m 0 ⟨keys, 0⟩ [] h0 (by show 6 - 0 ≤ 6; omega) hm (fun k _ => rfl)
    show hdT (trN keep 1 (nodes (loads [⟨keys, 0⟩]) [⟨keys, 0⟩])) m 0 [] = _
    rw [this]
    have e : leaves 6 ⟨keys, 0⟩ = keys.map fun k => (k, dOf keys k) := sepL_eq h
    rw [e, List.map_map]
    rfl

end Go.Proofs.YtfhpkcamigkmdaaGreatDoor.T

namespace Go.Proofs.YtfhpkcamigkmdaaGreatDoor.T
open M

/-- a branch that ends takes the letters that are left -/
def takesB (w : Bool) (r left : Str) : Bool := if w = true then left == r else r.isPrefixOf left
/-- the letters of a key lead to a branch that takes it: so many steps, from a node -/
def hasT (t : Tr) (k : Str) : Nat → Nat → Nat → Bool
  | 0, _, _ => false
  | n + 1, d, j => match (t.getD j []).find? fun b => b.lab == letter k d with
    | none => false
    | some (.on _ m) => hasT t k n (d + 1) m
    | some (.en _ r w) => takesB w r (k.drop (d + 1))

theorem find_node (keep d : Nat) (c : UInt8) : ∀ (n : Nat) (l : List Br),
    ((nodeT keep d n l).find? fun b => b.lab == c) = none ∧ (∀ b ∈ l, b.1 ≠ c) ∨
    ∃ (p : Nat) (b : Br), l[p]? = some b ∧ b.1 = c ∧ ((nodeT keep d n l).find? fun b => b.lab == c) = (nodeT keep d n l)[p]?
  | n, [] => .inl ⟨rfl, fun b hb => by cases hb⟩
  | n, b :: l => by
    by_cases hc : b.1 = c
    · right
      refine ⟨0, b, rfl, hc, ?_⟩
      unfold nodeT
      split
      · rw [List.find?_cons]
        have : ((TB.on b.1 n).lab == c) = true := by show (b.1 == c) = true; rw [hc]; simp
        rw [this]; rfl
      · rw [List.find?_cons]
        have : ((TB.en b.1 (restB d keep b) (decide (b.1 = 45 ∨ (restB d keep b).length < keep))).lab == c) = true := by show (b.1 == c) = true; rw [hc]; simp
        rw [this]; rfl
    · have hne : (b.1 == c) = false := by simpa using hc
      have key : ∀ m, ((nodeT keep d m l).find? fun b => b.lab == c) = none ∧ (∀ b ∈ l, b.1 ≠ c) ∨
          ∃ (p : Nat) (b : Br), l[p]? = some b ∧ b.1 = c ∧ ((nodeT keep d m l).find? fun b => b.lab == c) = (nodeT keep d m l)[p]? := fun m => find_node keep d c m l
      unfold nodeT
      split
      · rw [List.find?_cons]
        have : ((TB.on b.1 n).lab == c) = false := hne
        rw [this]
        rcases key (n + 1) with ⟨h1, h2⟩ | ⟨p, b', h1, h2, h3⟩
        · exact .inl ⟨h1, fun x hx => by rcases List.mem_cons.mp hx with rfl | hx; exact hc; exact h2 x hx⟩
        · exact .inr ⟨p + 1, b', by simpa using h1, h2, by simpa using h3⟩
      · rw [List.find?_cons]
        have : ((TB.en b.1 (restB d keep b) (decide (b.1 = 45 ∨ (restB d keep b).length < keep))).lab == c) = false := hne
        rw [this]
        rcases key n with ⟨h1, h2⟩ | ⟨p, b', h1, h2, h3⟩
        · exact .inl ⟨h1, fun x hx => by rcases List.mem_cons.mp hx with rfl | hx; exact hc; exact h2 x hx⟩
        · exact .inr ⟨p + 1, b', by simpa using h1, h2, by simpa using h3⟩

theorem endHas_takes (keep d : Nat) (c : UInt8) (r k : Str) : endHas keep d c r k = takesB (decide (c = 45 ∨ r.length < keep)) r (k.drop (d + 1)) := by
  have e : k.drop (min (d + 1) k.length) = k.drop (d + 1) := by
    rcases Nat.le_total (d + 1) k.length with h | h
    · rw [Nat.min_eq_left h]
    · rw [Nat.min_eq_right h, List.drop_length, List.drop_eq_nil_of_le h]
  unfold endHas takesB
  rw [e]
  by_cases h : c = 45 ∨ r.length < keep
  · rw [if_pos h, if_pos (by simpa using h)]
  · rw [if_neg h, if_neg (by simpa using h), Bool.eq_iff_iff, List.isPrefixOf_iff_prefix, List.prefix_iff_eq_take]
    simp only [Bool.and_eq_true, decide_eq_true_eq, beq_iff_eq]
    constructor
    · rintro ⟨-, h2⟩; exact h2.symm
    · intro h2
      refine ⟨?_, h2.symm⟩
      have := congrArg List.length h2
      rw [List.length_take] at this
      omega

theorem has_fork {N : List Fork} (T : Tree N) (keep : Nat) {k : Str} (hk : isKey k) : ∀ (n m j : Nat) (f : Fork), N[j]? = some f → 6 - f.deep ≤ n → k.length + 1 - f.deep = m → f.deep ≤ k.length → (∀ x ∈ f.keys, x.take f.deep = k.take f.deep) →
    hasT (trN keep 1 N) k m f.deep j = (leaves n f).any (mayBe keep k) := by
  intro n
  induction n with
  | zero =>
    intro m j f hj hn
    have := (T.wf f (List.mem_of_getElem? hj)).2
    omega
  | succ n ih =>
    intro m j f hj hn hm hd hh
    obtain ⟨m, rfl⟩ : ∃ m', m = m' + 1 := ⟨m - 1, by omega⟩
    have hf := (T.wf f (List.mem_of_getElem? hj)).1
    have hnode : (trN keep 1 N).getD j [] = nodeT keep f.deep (1 + kidsTo N j) (bs f) := by
      rw [List.getD_eq_getElem?_getD, trN_get keep 1 N j f hj]; rfl
    unfold hasT
    rw [hnode]
    rcases find_node keep f.deep (letter k f.deep) (1 + kidsTo N j) (bs f) with ⟨h1, h2⟩ | ⟨p, b, h1, h2, h3⟩
    · rw [h1, lost hf n k keep h2]
    · rw [h3, nodeT_get keep f.deep _ (bs f) p b h1]
      have hbm : b ∈ bs f := List.mem_of_getElem? h1
      have ok := brs_ok hf
      rw [found hf n k keep hbm h2]
      by_cases hg : goes b = true
      · rw [if_pos hg, if_pos hg]
        obtain ⟨t1, t2⟩ := tree_on T hj h1 hg
        have hl : 1 < b.2.length := by simpa [goes] using hg
        have hw := hf.kid hbm hl
        have hal := found_alike hf hk hh hbm h2
        obtain ⟨x, hx⟩ : ∃ x, x ∈ b.2 := by
          cases hb2 : b.2 with
          | nil => rw [hb2] at hl; simp at hl
          | cons y t => exact ⟨y, by simp⟩
        have hxl : f.deep + 1 ≤ x.length := hw.1.long x hx
        have hdk : f.deep + 1 ≤ k.length := by
          have := congrArg List.length (hal x hx)
          rw [List.length_take, List.length_take] at this
          omega
        have := ih m _ ⟨b.2, f.deep + 1⟩ t1 (by show 6 - (f.deep + 1) ≤ n; omega) (by show k.length + 1 - (f.deep + 1) = m; omega) hdk hal
        exact this
      · have hgf : goes b = false := by simpa using hg
        rw [if_neg hg, if_neg hg]
        obtain ⟨x, hx⟩ := single_of (ok.each b hbm).1 hgf
        have he := end_is hf hk hh hbm h2 hx keep
        have hrb : restB f.deep keep b = restOf x (f.deep + 1) keep := by unfold restB; rw [hx]; rfl
        rw [hrb, hx]
        simp only [List.map_cons, List.map_nil, List.any_cons, List.any_nil, Bool.or_false]
        rw [← he, endHas_takes]
/-- a key may be there, in the trie of a key list -/
theorem has_sieve {keys : List Str} (h : KeyL keys) (keep : Nat) {k : Str} (hk : isKey k) : hasT (trN keep 1 (forks keys)) k (k.length + 1) 0 0 = hasK keep keys k := by
  by_cases hne : keys = []
  · subst hne
    have hb : bs (rootF []) = [] := by unfold bs rootF; exact brs_nil _
    rw [forks_nil]
    unfold trN trN
    rw [hb]; rfl
  · obtain ⟨Tt, h0⟩ := tree_of h hne
    have := has_fork Tt keep hk 6 (k.length + 1) 0 ⟨keys, 0⟩ h0 (by show 6 - 0 ≤ 6; omega) rfl (Nat.zero_le _) (fun x _ => rfl)
    rw [← hasK_eq h]
    exact this

/-- a branch more in a filter's strings -/
def layT (s : Sv) (i : Nat) (b : TB) : Sv :=
  { s with letters := s.letters ++ [b.lab], more := s.more ++ [match b with | .on .. => 49 | .en .. => 48], first := s.first ++ [if i = 0 then 49 else 48],
           rests := s.rests ++ (match b with | .on .. => [] | .en _ r _ => [r]) }
/-- some branches of a node more, the first with number i -/
def layN (s : Sv) : Nat → List TB → Sv
  | _, [] => s
  | i, b :: l => layN (layT s i b) (i + 1) l
/-- a trie's strings -/
def layA (s : Sv) : Tr → Sv
  | [] => s
  | n :: t => layA (layN s 0 n) t
theorem layN_snoc (b : TB) : ∀ (s : Sv) (i : Nat) (l : List TB), layN s i (l ++ [b]) = layT (layN s i l) (i + l.length) b
  | s, i, [] => rfl
  | s, i, a :: l => by
    rw [List.cons_append]
    unfold layN
    rw [layN_snoc b (layT s i a) (i + 1) l, List.length_cons, show i + 1 + l.length = i + (l.length + 1) by omega]
theorem layA_snoc (n : List TB) : ∀ (s : Sv) (t : Tr), layA s (t ++ [n]) = layN (layA s t) 0 n
  | s, [] => rfl
  | s, m :: t => by
    rw [List.cons_append]
    unfold layA
    exact layA_snoc n _ t
/-- the branches of a node, as they are laid -/
theorem layN_node (keep d : Nat) : ∀ (l : List Br) (s : Sv) (i n : Nat), layN s i (nodeT keep d n l) =
    { s with letters := s.letters ++ l.map (·.1), more := s.more ++ l.map (fun b => bit (goes b)), first := s.first ++ (List.range' i l.length).map (fun x => if x = 0 then 49 else 48), rests := s.rests ++ ((l.filter fun b => !goes b).map (restB d keep)) }
  | [], s, i, n => by simp [nodeT, layN]
  | b :: l, s, i, n => by
    unfold nodeT
    by_cases hg : goes b = true
    · rw [if_pos hg]
      unfold layN
      rw [layN_node keep d l, List.filter_cons, if_neg (by rw [hg]; decide)]
      simp [layT, TB.lab, List.range'_succ, hg, bit]
    · have hgf : goes b = false := by simpa using hg
      rw [if_neg hg]
      unfold layN
      rw [layN_node keep d l, List.filter_cons, if_pos (by rw [hgf]; decide)]
      simp [layT, TB.lab, List.range'_succ, hgf, bit]
theorem firstN_range : ∀ n, firstN n = (List.range' 0 n).map (fun x => if x = 0 then 49 else 48)
  | 0 => rfl
  | n + 1 => by
    rw [List.range'_succ, List.map_cons, show firstN (n + 1) = 49 :: List.replicate n 48 from rfl]
    congr 1
    symm
    rw [List.eq_replicate_iff]
    refine ⟨by simp, fun x hx => ?_⟩
    obtain ⟨y, hy, rfl⟩ := List.mem_map.mp hx
    have := (List.mem_range'_1.mp hy).1
    rw [if_neg (by omega)]
/-- the strings of the trie of forks are the filter's -/
theorem layA_enc (keep : Nat) : ∀ (N : List Fork) (s : Sv) (n : Nat), layA s (trN keep n N) =
    { s with letters := s.letters ++ letters N, more := s.more ++ more N, first := s.first ++ firsts N, rests := s.rests ++ rests keep N }
  | [], s, n => by simp [trN, layA, letters, more, firsts, rests]
  | f :: N, s, n => by
    unfold trN layA
    rw [layA_enc keep N, layN_node]
    simp [letters, more, firsts, rests, moreF, restsF, firstN_range, List.append_assoc]
/-- no string yet -/
def svNil (keep : Nat) : Sv := ⟨[], [], [], [], keep⟩
theorem lay_sieve (keep : Nat) (keys : List Str) : layA (svNil keep) (trN keep 1 (forks keys)) = sieve keep keys := by
  rw [layA_enc]
  simp [svNil, sieve, enc]

end Go.Proofs.YtfhpkcamigkmdaaGreatDoor.T
