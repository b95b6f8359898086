/-
  Plain mathematics of bit strings: how many ones a list of bytes has, where the one with a number is, and the number that up to 64 bits make. No condition; nothing of the program is named here.
  Plain mathematics of tries in level order: forks, their branches, the forks that they lead to, the list of all forks level by level, and how ones of the two bit strings lead from a branch to its fork. No condition; nothing of the program is named here.
  Plain mathematics of tries in level order, the second part: what holds of the forks of a key list, and of their branches.
  Plain mathematics of tries in level order, the third part: the strings that encode the forks, and how counting ones leads from a branch to the branches of its fork.
  Plain mathematics of tries in level order, the fourth part: what is kept of each key, read off the strings that encode the forks.
  Plain mathematics of tries in level order, the fifth part: the filter of a key list tells what is kept of each key, in order.
  Plain mathematics of tries, the sixth part: how many letters set a key apart from the others of its list.
  Plain mathematics of tries, the seventh part: where a key's letters lead, and what that says of the key.
  Plain mathematics of tries, the eighth part: the filter of what is kept is the filter itself.
  Plain mathematics of tries, the ninth part: filters of key lists. What is kept of the keys is a key list in order, and its filter is the same one.
  Plain mathematics of tries, the tenth part: what a filter of a key list tells (may a key be there, may one be between, what may be first), and the promises about it.
  Plain mathematics of tries, the eleventh part: how many branches and forks a filter has.
  Plain mathematics of tries, the twelfth part: what is read off a filter at a branch that does not go on, the wholes of the keys in order, and when a filter is one.
  Plain mathematics of tries, the thirteenth part: at every filter of the right form, of some keys or not, what is kept is no more than there are branches.
  Plain mathematics of tries, the fourteenth part: building a filter fork by fork, branch by branch.
  Plain mathematics of the tries that the program builds: nodes of branches that go on, to a node behind, or end. No condition; nothing of the program is named here.
  Plain mathematics of the tries that the program builds, the second part: no branch is looked at twice where branches lead to nodes one behind the other. No condition.
  Plain mathematics of the tries that the program builds, the third part: what is read of a filter, of some keys or not. No condition.
  Plain mathematics of the tries that the program builds, the fourth part: where the letters of a key lead. No condition.
-/
import Derived.Laws.BitsAllLaws
namespace Go.Proofs.YtfhpkcamigkmdaaDoor.M

/-- how many ones there are -/
def ones : List UInt8 → Nat
  | [] => 0
  | c :: t => (if c = 49 then 1 else 0) + ones t
/-- where the one with a number is -/
def oneIdx : List UInt8 → Nat → Option Nat
  | [], _ => none
  | c :: t, n => if c = 49 then (match n with | 0 => some 0 | m + 1 => (oneIdx t m).map (· + 1)) else (oneIdx t n).map (· + 1)
theorem ones_append (a b : List UInt8) : ones (a ++ b) = ones a + ones b := by
  induction a with
  | nil => simp [ones]
  | cons c t ih => simp only [List.cons_append, ones, ih]; omega

theorem ones_le (l : List UInt8) : ones l ≤ l.length := by
  induction l with
  | nil => simp [ones]
  | cons c t ih => simp only [ones, List.length_cons]; split <;> omega

end Go.Proofs.YtfhpkcamigkmdaaDoor.M

namespace Go.Proofs.YtfhpkcamigkmdaaDoor.T
open M

/-- a string, byte by byte -/
abbrev Str := List UInt8
/-- keys that begin alike, and with how many letters -/
structure Fork where
  keys : List Str
  deep : Nat
/-- a key's letter at a place, - at its end -/
def letter (k : Str) (d : Nat) : UInt8 := (k[d]?).getD 45
/-- the keys with the same letter as the first one -/
def group (k : Str) (t : List Str) (d : Nat) : List Str := (k :: t).filter fun x => letter x d == letter k d
theorem group_pos (k : Str) (t : List Str) (d : Nat) : 0 < (group k t d).length := by
  unfold group
  rw [List.filter_cons]
  simp
theorem group_le (k : Str) (t : List Str) (d : Nat) : (group k t d).length ≤ t.length + 1 := by
  unfold group
  exact Nat.le_trans (List.length_filter_le _ _) (by simp)
/-- the branches of keys: letter and keys -/
def brs (d : Nat) : List Str → List (UInt8 × List Str)
  | [] => []
  | k :: t => (letter k d, group k t d) :: brs d ((k :: t).drop (group k t d).length)
termination_by l => l.length
decreasing_by
  have := group_pos k t d
  simp only [List.length_drop, List.length_cons]
  omega
theorem brs_nil (d : Nat) : brs d [] = [] := by unfold brs; rfl
theorem brs_cons (d : Nat) (k : Str) (t : List Str) : brs d (k :: t) = (letter k d, group k t d) :: brs d ((k :: t).drop (group k t d).length) := by
  conv => lhs; unfold brs
/-- a branch goes on -/
def goes (b : UInt8 × List Str) : Bool := decide (1 < b.2.length)
/-- the forks that branches lead to -/
def leads (d : Nat) (bs : List (UInt8 × List Str)) : List Fork := (bs.filter goes).map fun b => ⟨b.2, d + 1⟩
def kids (f : Fork) : List Fork := leads f.deep (brs f.deep f.keys)

/-- all forks, level by level: a queue is worked off -/
def nodes : Nat → List Fork → List Fork
  | 0, _ => []
  | _ + 1, [] => []
  | n + 1, f :: q => f :: nodes n (q ++ kids f)
/-- so much work a fork is -/
def load (f : Fork) : Nat := 2 * f.keys.length * (7 - f.deep) + 1
def loads (q : List Fork) : Nat := (q.map load).sum

theorem brs_total (d : Nat) (l : List Str) : ((brs d l).map fun b => b.2.length).sum ≤ l.length := by
  induction l using List.rec with
  | nil => simp [brs_nil]
  | cons k t _ =>
    have : ∀ (n : Nat) (l : List Str), l.length ≤ n → ((brs d l).map fun b => b.2.length).sum ≤ l.length := by
      intro n
      induction n with
      | zero => intro l hl; have : l = [] := List.eq_nil_of_length_eq_zero (by omega); subst this; simp [brs_nil]
      | succ n ih =>
        intro l hl
        cases l with
        | nil => simp [brs_nil]
        | cons k t =>
          rw [brs_cons]
          have h1 := group_pos k t d
          have h2 := group_le k t d
          have h3 := ih ((k :: t).drop (group k t d).length) (by rw [List.length_drop]; simp at hl ⊢; omega)
          simp only [List.map_cons, List.sum_cons]
          rw [List.length_drop] at h3
          simp at h3 ⊢
          omega
    exact this _ _ (Nat.le_refl _)

/-- the forks that some branches lead to are at most half as many as their keys, and have no more keys -/
theorem leads_load (d : Nat) (bs : List (UInt8 × List Str)) (hd : d ≤ 6) : loads (leads d bs) ≤ ((bs.map fun b => b.2.length).sum) * (2 * (6 - d)) + (bs.map fun b => b.2.length).sum := by
  unfold loads leads
  induction bs with
  | nil => simp
  | cons b t ih =>
    simp only [List.map_cons, List.sum_cons]
    rw [List.filter_cons]
    by_cases h : goes b = true
    · rw [if_pos h]
      simp only [List.map_cons, List.sum_cons]
      have hl : 1 < b.2.length := by simpa [goes] using h
      have e : load ⟨b.2, d + 1⟩ = b.2.length * (2 * (6 - d)) + 1 := by
        unfold load
        simp only
        rw [show 7 - (d + 1) = 6 - d by omega, Nat.mul_comm 2, Nat.mul_assoc]
      rw [e, Nat.add_mul]
      omega
    · rw [if_neg h, Nat.add_mul]
      omega

theorem kids_load (f : Fork) (hd : f.deep ≤ 6) : loads (kids f) < load f := by
  have h1 := leads_load f.deep (brs f.deep f.keys) hd
  have h2 := brs_total f.deep f.keys
  unfold kids
  unfold load
  generalize ((brs f.deep f.keys).map fun b => b.2.length).sum = s at *
  have h3 : s * (2 * (6 - f.deep)) + s ≤ f.keys.length * (2 * (6 - f.deep)) + f.keys.length := Nat.add_le_add (Nat.mul_le_mul_right _ h2) h2
  have h4 : 2 * f.keys.length * (7 - f.deep) = f.keys.length * (2 * (6 - f.deep)) + 2 * f.keys.length := by
    rw [show 7 - f.deep = (6 - f.deep) + 1 by omega, Nat.mul_add, Nat.mul_one, Nat.mul_comm 2, Nat.mul_assoc]
  omega

end Go.Proofs.YtfhpkcamigkmdaaDoor.T

namespace Go.Proofs.YtfhpkcamigkmdaaDoor.T
open M

/-- a string is a key -/
def isKey (k : Str) : Prop := k.length ≤ 5 ∧ ∀ c ∈ k, 97 ≤ c.toNat ∧ c.toNat ≤ 100
/-- strictly ascending -/
def ascS (l : List Str) : Prop := l.Pairwise (· < ·)
/-- keys in order that begin alike -/
structure WF (f : Fork) : Prop where
  key : ∀ k ∈ f.keys, isKey k
  asc : ascS f.keys
  long : ∀ k ∈ f.keys, f.deep ≤ k.length
  alike : ∀ k ∈ f.keys, ∀ k' ∈ f.keys, k.take f.deep = k'.take f.deep

theorem lt_append (p a b : Str) : p ++ a < p ++ b ↔ a < b := by
  induction p with
  | nil => simp
  | cons c p ih => simp [ih]
theorem lt_drop {x y : Str} {d : Nat} (h : x.take d = y.take d) : x < y ↔ x.drop d < y.drop d := by
  conv => lhs; rw [← List.take_append_drop d x, ← List.take_append_drop d y, h]
  exact lt_append _ _ _
theorem letter_drop (k : Str) (d : Nat) : letter k d = ((k.drop d).head?).getD 45 := by
  unfold letter; rw [List.head?_drop]
theorem letter_key {k : Str} (hk : isKey k) (d : Nat) : letter k d = 45 ∧ k.length ≤ d ∨ 97 ≤ (letter k d).toNat ∧ d < k.length := by
  unfold letter
  rcases Nat.lt_or_ge d k.length with h | h
  · right
    rw [List.getElem?_eq_getElem h]
    exact ⟨(hk.2 _ (List.getElem_mem h)).1, h⟩
  · left
    rw [List.getElem?_eq_none h]
    exact ⟨rfl, h⟩

/-- of keys that begin alike the later one has the later letter, or the same -/
theorem letter_mono {x y : Str} {d : Nat} (hy : isKey y) (h : x.take d = y.take d) (hlt : x < y) : (letter x d).toNat ≤ (letter y d).toNat := by
  rw [lt_drop h] at hlt
  rw [letter_drop, letter_drop]
  cases hx : x.drop d with
  | nil =>
    rw [hx] at hlt
    cases hyd : y.drop d with
    | nil => rw [hyd] at hlt; exact absurd hlt (by simp)
    | cons b t =>
      have hb : b ∈ y := List.mem_of_mem_drop (by rw [hyd]; simp)
      have := (hy.2 b hb).1
      simp
      omega
  | cons a s =>
    rw [hx] at hlt
    cases hyd : y.drop d with
    | nil => rw [hyd] at hlt; exact absurd hlt (by simp)
    | cons b t =>
      rw [hyd, List.cons_lt_cons_iff] at hlt
      simp
      rcases hlt with h1 | ⟨h1, _⟩
      · have := UInt8.lt_iff_toNat_lt.mp h1; omega
      · rw [h1]; exact Nat.le_refl _
/-- two keys that begin alike and end there are one -/
theorem ended {x y : Str} {d : Nat} (h : x.take d = y.take d) (hx : x.length ≤ d) (hy : y.length ≤ d) : x = y := by
  rw [List.take_of_length_le hx, List.take_of_length_le hy] at h
  exact h

/-- of a list whose numbers do not go down those that equal the first come first -/
theorem filter_first {α : Type} (f : α → Nat) : ∀ (k : α) (t : List α), (k :: t).Pairwise (fun a b => f a ≤ f b) →
    ∃ r, k :: t = (k :: t).filter (fun x => f x == f k) ++ r ∧ ∀ x ∈ r, f k < f x := by
  intro k t h
  induction t with
  | nil => exact ⟨[], by simp, by simp⟩
  | cons a t ih =>
    rw [List.pairwise_cons] at h
    obtain ⟨h1, h2⟩ := h
    by_cases ha : f a = f k
    · have h3 : (k :: t).Pairwise (fun a b => f a ≤ f b) := by
        rw [List.pairwise_cons]
        rw [List.pairwise_cons] at h2
        exact ⟨fun x hx => h1 x (List.mem_cons_of_mem _ hx), h2.2⟩
      obtain ⟨r, hr, hr2⟩ := ih h3
      refine ⟨r, ?_, hr2⟩
      simp only [List.filter_cons, ha, beq_self_eq_true, if_true, List.cons_append] at hr ⊢
      congr 2
      exact (List.cons.inj hr).2
    · have hlt : ∀ x ∈ a :: t, f k < f x := by
        intro x hx
        have ha2 := h1 a (by simp)
        rcases List.mem_cons.mp hx with rfl | hx
        · omega
        · rw [List.pairwise_cons] at h2
          have := h2.1 x hx
          omega
      refine ⟨a :: t, ?_, hlt⟩
      have : (a :: t).filter (fun x => f x == f k) = [] := by
        rw [List.filter_eq_nil_iff]
        intro x hx
        have := hlt x hx
        simp; omega
      rw [List.filter_cons, this]
      simp

theorem beq_toNat (a b : UInt8) : (a == b) = (a.toNat == b.toNat) := by
  rw [Bool.eq_iff_iff]
  simp only [beq_iff_eq]
  exact ⟨fun h => by rw [h], fun h => UInt8.toNat_inj.mp h⟩

/-- the first group of a fork comes first in it; the letters behind are later -/
theorem group_first {k : Str} {t : List Str} {d : Nat} (h : WF ⟨k :: t, d⟩) : ∃ r, k :: t = group k t d ++ r ∧ (∀ x ∈ r, (letter k d).toNat < (letter x d).toNat) ∧ (k :: t).drop (group k t d).length = r := by
  have hp : (k :: t).Pairwise (fun a b => (letter a d).toNat ≤ (letter b d).toNat) := by
    have ha : (k :: t).Pairwise (· < ·) := h.asc
    refine List.Pairwise.imp_of_mem ?_ ha
    intro a b ha hb hlt
    exact letter_mono (h.key b hb) (h.alike a ha b hb) hlt
  obtain ⟨r, hr, hr2⟩ := filter_first (fun x => (letter x d).toNat) k t hp
  have hg : (k :: t).filter (fun x => (letter x d).toNat == (letter k d).toNat) = group k t d := by
    unfold group
    congr 1
    funext x
    exact (beq_toNat _ _).symm
  rw [hg] at hr
  refine ⟨r, hr, hr2, ?_⟩
  conv => lhs; rw [hr]
  simp

theorem WF.sub {f : Fork} {l : List Str} (h : WF f) (hs : l.Sublist f.keys) : WF ⟨l, f.deep⟩ :=
  ⟨fun k hk => h.key k (hs.subset hk), List.Pairwise.sublist hs h.asc, fun k hk => h.long k (hs.subset hk), fun k hk k' hk' => h.alike k (hs.subset hk) k' (hs.subset hk')⟩

/-- what holds of the branches of a fork: letters ascend, the groups are all keys in order, each is the keys with its letter -/
structure BrsOk (d : Nat) (l : List Str) (bs : List (UInt8 × List Str)) : Prop where
  all : (bs.map (·.2)).flatten = l
  letters : bs.Pairwise (fun a b => a.1.toNat < b.1.toNat)
  each : ∀ b ∈ bs, b.2 ≠ [] ∧ ∀ x ∈ b.2, letter x d = b.1

theorem brs_ok_aux (d : Nat) : ∀ (n : Nat) (l : List Str), l.length ≤ n → WF ⟨l, d⟩ → BrsOk d l (brs d l) := by
  intro n
  induction n with
  | zero =>
    intro l hl _
    have : l = [] := List.eq_nil_of_length_eq_zero (by omega)
    subst this
    rw [brs_nil]
    exact ⟨rfl, List.Pairwise.nil, by simp⟩
  | succ n ih =>
    intro l hl h
    cases l with
    | nil => rw [brs_nil]; exact ⟨rfl, List.Pairwise.nil, by simp⟩
    | cons k t =>
      rw [brs_cons]
      obtain ⟨r, hr, hlate, hdrop⟩ := group_first h
      rw [hdrop]
      have hpos := group_pos k t d
      have hrl : r.length ≤ n := by
        have := congrArg List.length hr
        simp at this hl
        omega
      have hsub : r.Sublist (k :: t) := by rw [hr]; exact List.sublist_append_right _ _
      have ih' := ih r hrl (h.sub hsub)
      refine ⟨?_, ?_, ?_⟩
      · simp only [List.map_cons, List.flatten_cons, ih'.all]
        exact hr.symm
      · rw [List.pairwise_cons]
        refine ⟨fun b hb => ?_, ih'.letters⟩
        obtain ⟨hne, heq⟩ := ih'.each b hb
        cases hb2 : b.2 with
        | nil => exact absurd hb2 hne
        | cons x s =>
          have hx : x ∈ b.2 := by rw [hb2]; simp
          have hxr : x ∈ r := by
            rw [← ih'.all]
            exact List.mem_flatten.mpr ⟨b.2, List.mem_map.mpr ⟨b, hb, rfl⟩, hx⟩
          rw [← heq x hx]
          exact hlate x hxr
      · intro b hb
        rcases List.mem_cons.mp hb with rfl | hb
        · refine ⟨fun e => by have e' : group k t d = [] := e; rw [e'] at hpos; simp at hpos, fun x hx => ?_⟩
          unfold group at hx
          exact by simpa using (List.mem_filter.mp hx).2
        · exact ih'.each b hb
theorem brs_ok {f : Fork} (h : WF f) : BrsOk f.deep f.keys (brs f.deep f.keys) := brs_ok_aux f.deep _ f.keys (Nat.le_refl _) h

/-- a group of more than one key is a fork one letter deeper -/
theorem WF.kid {f : Fork} (h : WF f) {b : UInt8 × List Str} (hb : b ∈ brs f.deep f.keys) (hg : 1 < b.2.length) : WF ⟨b.2, f.deep + 1⟩ ∧ f.deep + 1 ≤ 5 := by
  have ok := brs_ok h
  have hsub : b.2.Sublist f.keys := by
    rw [← ok.all]
    exact List.sublist_flatten_of_mem (List.mem_map.mpr ⟨b, hb, rfl⟩)
  have hw := h.sub hsub
  obtain ⟨hne, heq⟩ := ok.each b hb
  -- no key ends here: else two would be one
  have hlong : ∀ x ∈ b.2, f.deep < x.length := by
    intro x hx
    rcases letter_key (h.key x (hsub.subset hx)) f.deep with ⟨h45, hle⟩ | ⟨_, hlt⟩
    · exfalso
      have hall : ∀ y ∈ b.2, y = x := by
        intro y hy
        have hy45 : letter y f.deep = 45 := by rw [heq y hy, ← heq x hx, h45]
        rcases letter_key (h.key y (hsub.subset hy)) f.deep with ⟨_, hyl⟩ | ⟨h97, _⟩
        · exact ended (h.alike y (hsub.subset hy) x (hsub.subset hx)) hyl hle
        · rw [hy45] at h97; exact absurd h97 (by decide)
      cases hb2 : b.2 with
      | nil => rw [hb2] at hg; simp at hg
      | cons y s =>
        cases s with
        | nil => rw [hb2] at hg; simp at hg
        | cons z s =>
          have h1 := hall y (by rw [hb2]; simp)
          have h2 := hall z (by rw [hb2]; simp)
          have h3 : b.2.Pairwise (· < ·) := hw.asc
          rw [hb2, List.pairwise_cons] at h3
          have h4 := h3.1 z (by simp)
          rw [h1, h2] at h4
          exact absurd h4 (List.lt_irrefl _)
    · exact hlt
  refine ⟨⟨hw.key, hw.asc, fun x hx => hlong x hx, fun x hx y hy => ?_⟩, ?_⟩
  · show x.take (f.deep + 1) = y.take (f.deep + 1)
    have hx2 := hlong x hx
    have hy2 := hlong y hy
    have e1 := heq x hx
    have e2 := heq y hy
    unfold letter at e1 e2
    rw [List.getElem?_eq_getElem hx2] at e1
    rw [List.getElem?_eq_getElem hy2] at e2
    rw [List.take_add_one, List.take_add_one, List.getElem?_eq_getElem hx2, List.getElem?_eq_getElem hy2, h.alike x (hsub.subset hx) y (hsub.subset hy)]
    simp only [Option.getD_some] at e1 e2
    rw [e1, e2]
  · cases hb2 : b.2 with
    | nil => exact absurd hb2 hne
    | cons y s =>
      have hy : y ∈ b.2 := by rw [hb2]; simp
      have h1 := hlong y hy
      have h2 := (h.key y (hsub.subset hy)).1
      omega

end Go.Proofs.YtfhpkcamigkmdaaDoor.T

namespace Go.Proofs.YtfhpkcamigkmdaaDoor.T
open M

abbrev Br := UInt8 × List Str
/-- a fork's branches -/
def bs (f : Fork) : List Br := brs f.deep f.keys
def bit (b : Bool) : UInt8 := if b = true then 49 else 48
/-- the bits that tell which branches go on -/
def moreF (f : Fork) : Str := (bs f).map fun b => bit (goes b)
/-- the bits that tell where a fork begins -/
def firstN : Nat → Str
  | 0 => []
  | n + 1 => 49 :: List.replicate n 48
def letters (N : List Fork) : Str := N.flatMap fun f => (bs f).map (·.1)
def more (N : List Fork) : Str := N.flatMap moreF
def firsts (N : List Fork) : Str := N.flatMap fun f => firstN (bs f).length
/-- what is kept of a key behind so many letters -/
def restOf (k : Str) (d keep : Nat) : Str := (k.drop d).take keep
def restB (d keep : Nat) (b : Br) : Str := restOf (b.2.headD []) (d + 1) keep
def restsF (keep : Nat) (f : Fork) : List Str := ((bs f).filter (fun b => !goes b)).map (restB f.deep keep)
def rests (keep : Nat) (N : List Fork) : List Str := N.flatMap (restsF keep)
/-- where the branches of fork j begin -/
def start : List Fork → Nat → Nat
  | _, 0 => 0
  | [], _ + 1 => 0
  | f :: N, j + 1 => (bs f).length + start N j

theorem ones_firstN (n : Nat) : ones (firstN (n + 1)) = 1 := by
  unfold firstN
  have : ∀ n, ones (List.replicate n (48 : UInt8)) = 0 := by
    intro n
    induction n with
    | zero => rfl
    | succ n ih => rw [List.replicate_succ]; unfold ones; rw [ih]; rfl
  unfold ones
  rw [this]; rfl
theorem firstN_len (n : Nat) : (firstN n).length = n := by cases n <;> simp [firstN]

theorem len_letters (N : List Fork) : (letters N).length = start N N.length := by
  induction N with
  | nil => rfl
  | cons f N ih =>
    unfold letters at *
    rw [List.flatMap_cons, List.length_append, ih, List.length_map]
    rfl
theorem len_more (N : List Fork) : (more N).length = start N N.length := by
  induction N with
  | nil => rfl
  | cons f N ih =>
    unfold more at *
    rw [List.flatMap_cons, List.length_append, ih]
    unfold moreF
    rw [List.length_map]
    rfl
theorem len_firsts (N : List Fork) : (firsts N).length = start N N.length := by
  induction N with
  | nil => rfl
  | cons f N ih =>
    unfold firsts at *
    rw [List.flatMap_cons, List.length_append, ih, firstN_len]
    rfl

theorem kids_eq (f : Fork) : kids f = ((bs f).filter goes).map fun b => ⟨b.2, f.deep + 1⟩ := rfl

/-- how many forks the queue's work makes: it is worked off, all in all -/
theorem loads_append (a b : List Fork) : loads (a ++ b) = loads a + loads b := by unfold loads; rw [List.map_append, List.sum_append]
theorem kids_wf {f : Fork} (h : WF f) : ∀ g ∈ kids f, WF g ∧ g.deep ≤ 5 := by
  intro g hg
  rw [kids_eq] at hg
  obtain ⟨b, hb, rfl⟩ := List.mem_map.mp hg
  obtain ⟨hb1, hb2⟩ := List.mem_filter.mp hb
  exact h.kid hb1 (by simpa [goes] using hb2)
theorem nodes_eq (n : Nat) (q : List Fork) (hn : loads q ≤ n) (hw : ∀ f ∈ q, WF f ∧ f.deep ≤ 5) : nodes n q = q ++ (nodes n q).flatMap kids ∧ ∀ f ∈ nodes n q, WF f ∧ f.deep ≤ 5 := by
  induction n generalizing q with
  | zero =>
    cases q with
    | nil => exact ⟨rfl, by simp [nodes]⟩
    | cons f q => unfold loads load at hn; simp at hn
  | succ n ih =>
    cases q with
    | nil => exact ⟨rfl, by simp [nodes]⟩
    | cons f q =>
      have hf := hw f (by simp)
      have hk := kids_load f (by omega)
      have hl : loads (q ++ kids f) ≤ n := by
        rw [loads_append]
        have : loads (f :: q) = load f + loads q := by unfold loads; rw [List.map_cons, List.sum_cons]
        omega
      have hw' : ∀ g ∈ q ++ kids f, WF g ∧ g.deep ≤ 5 := by
        intro g hg
        rcases List.mem_append.mp hg with h | h
        · exact hw g (by simp [h])
        · exact kids_wf hf.1 g h
      obtain ⟨h1, h2⟩ := ih (q ++ kids f) hl hw'
      have hn : nodes (n + 1) (f :: q) = f :: nodes n (q ++ kids f) := rfl
      rw [hn]
      refine ⟨?_, fun g hg => ?_⟩
      · conv => lhs; rw [h1]
        rw [List.flatMap_cons, List.cons_append, List.append_assoc]
      · rcases List.mem_cons.mp hg with rfl | hg
        · exact hf
        · exact h2 g hg

end Go.Proofs.YtfhpkcamigkmdaaDoor.T

namespace Go.Proofs.YtfhpkcamigkmdaaDoor.T
open M

/-- a filter's strings -/
structure Sv where
  letters : Str
  more : Str
  first : Str
  rests : List Str
  keep : Nat
/-- the filter of forks -/
def enc (keep : Nat) (N : List Fork) : Sv := ⟨letters N, more N, firsts N, rests keep N, keep⟩
/-- the keys of a fork, each with how many letters lead to its branch -/
def leaves : Nat → Fork → List (Str × Nat)
  | 0, _ => []
  | n + 1, f => (bs f).flatMap fun b => if goes b = true then leaves n ⟨b.2, f.deep + 1⟩ else b.2.map fun k => (k, f.deep + 1)
/-- the kids of the first j forks -/
def kidsTo : List Fork → Nat → Nat
  | _, 0 => 0
  | [], _ + 1 => 0
  | f :: N, j + 1 => (kids f).length + kidsTo N j
/-- a fork is behind the one that leads to it -/
theorem kids_behind (n : Nat) (q : List Fork) (j : Nat) (hj : j < (nodes n q).length) : j < q.length + kidsTo (nodes n q) j := by
  induction n generalizing q j with
  | zero => simp [nodes] at hj
  | succ n ih =>
    cases q with
    | nil => simp [nodes] at hj
    | cons f q =>
      have hn : nodes (n + 1) (f :: q) = f :: nodes n (q ++ kids f) := rfl
      rw [hn] at hj ⊢
      cases j with
      | zero => simp; omega
      | succ j =>
        have := ih (q ++ kids f) j (by simpa using hj)
        rw [List.length_append] at this
        show j + 1 < (f :: q).length + ((kids f).length + kidsTo (nodes n (q ++ kids f)) j)
        simp
        omega

end Go.Proofs.YtfhpkcamigkmdaaDoor.T

namespace Go.Proofs.YtfhpkcamigkmdaaDoor.T
open M

/-- all forks of a key list, level by level -/
structure Tree (N : List Fork) : Prop where
  wf : ∀ f ∈ N, WF f ∧ f.deep ≤ 5
  some_ : ∀ f ∈ N, bs f ≠ []
  next : ∀ r g, (N.flatMap kids)[r]? = some g → N[r + 1]? = some g
  behind : ∀ j, j < N.length → j < 1 + kidsTo N j

theorem bs_some {f : Fork} (h : f.keys ≠ []) : bs f ≠ [] := by
  unfold bs
  cases hk : f.keys with
  | nil => exact absurd hk h
  | cons k t => rw [brs_cons]; simp
/-- the tree of a key list that is not empty -/
theorem tree_of {keys : List Str} (h : WF ⟨keys, 0⟩) (hne : keys ≠ []) : Tree (nodes (loads [⟨keys, 0⟩]) [⟨keys, 0⟩]) ∧ (nodes (loads [⟨keys, 0⟩]) [⟨keys, 0⟩])[0]? = some ⟨keys, 0⟩ := by
  have hw : ∀ f ∈ [(⟨keys, 0⟩ : Fork)], WF f ∧ f.deep ≤ 5 := by
    intro f hf
    rw [List.mem_singleton.mp hf]
    exact ⟨h, Nat.zero_le _⟩
  obtain ⟨h1, h2⟩ := nodes_eq _ [⟨keys, 0⟩] (Nat.le_refl _) hw
  have hb := kids_behind (loads [⟨keys, 0⟩]) [⟨keys, 0⟩]
  generalize nodes (loads [⟨keys, 0⟩]) [⟨keys, 0⟩] = N at *
  have h0 : N[0]? = some ⟨keys, 0⟩ := by rw [h1]; rfl
  refine ⟨⟨h2, ?_, ?_, fun j hj => by simpa using hb j hj⟩, h0⟩
  · intro f hf
    rw [h1] at hf
    rcases List.mem_append.mp hf with hf | hf
    · rw [List.mem_singleton.mp hf]; exact bs_some hne
    · obtain ⟨g, _, hk⟩ := List.mem_flatMap.mp hf
      rw [kids_eq] at hk
      obtain ⟨b, hb, rfl⟩ := List.mem_map.mp hk
      have hl : 1 < b.2.length := by simpa [goes] using (List.mem_filter.mp hb).2
      refine bs_some fun e => ?_
      have e' : b.2 = [] := e
      rw [e'] at hl; simp at hl
  · intro r g hr
    rw [h1]
    rw [List.getElem?_append_right (by simp)]
    simpa using hr

section
variable {N : List Fork} (T : Tree N) (keep : Nat)
include T

end

end Go.Proofs.YtfhpkcamigkmdaaDoor.T

namespace Go.Proofs.YtfhpkcamigkmdaaDoor.T
open M

theorem pair_nth {α : Type} {R : α → α → Prop} {l : List α} (h : l.Pairwise R) {a b : α} (ha : a ∈ l) (hb : b ∈ l) : a = b ∨ R a b ∨ R b a := by
  induction l with
  | nil => cases ha
  | cons x t ih =>
    rw [List.pairwise_cons] at h
    rcases List.mem_cons.mp ha with ea | ha2
    · rcases List.mem_cons.mp hb with eb | hb2
      · exact .inl (by rw [ea, eb])
      · rw [ea]; exact .inr (.inl (h.1 b hb2))
    · rcases List.mem_cons.mp hb with eb | hb2
      · rw [eb]; exact .inr (.inr (h.1 a ha2))
      · exact ih h.2 ha2 hb2
/-- a branch has just the keys with its letter -/
theorem branch_of {f : Fork} (h : WF f) {b : Br} (hb : b ∈ bs f) {x : Str} (hx : x ∈ f.keys) (hl : letter x f.deep = b.1) : x ∈ b.2 := by
  have ok := brs_ok h
  rw [← ok.all] at hx
  obtain ⟨g, hg, hxg⟩ := List.mem_flatten.mp hx
  obtain ⟨b', hb', rfl⟩ := List.mem_map.mp hg
  have he := (ok.each b' hb').2 x hxg
  rcases pair_nth ok.letters hb hb' with e | e | e
  · rw [e]; exact hxg
  · rw [← hl, he] at e; omega
  · rw [← hl, he] at e; omega
theorem branch_sub {f : Fork} (h : WF f) {b : Br} (hb : b ∈ bs f) {x : Str} (hx : x ∈ b.2) : x ∈ f.keys := by
  rw [← (brs_ok h).all]
  exact List.mem_flatten.mpr ⟨b.2, List.mem_map.mpr ⟨b, hb, rfl⟩, hx⟩
theorem letter_take {x y : Str} {d : Nat} (h : x.take (d + 1) = y.take (d + 1)) : letter x d = letter y d := by
  unfold letter
  have e : ∀ z : Str, z[d]? = (z.take (d + 1))[d]? := fun z => by rw [List.getElem?_take_of_lt (by omega)]
  rw [e x, e y, h]
theorem take_le {x y : Str} {d e : Nat} (hde : d ≤ e) (h : x.take e = y.take e) : x.take d = y.take d := by
  have := congrArg (List.take d) h
  rwa [List.take_take, List.take_take, Nat.min_eq_left hde] at this
theorem single_of {b : Br} (hne : b.2 ≠ []) (hg : goes b = false) : ∃ x, b.2 = [x] := by
  have hl : b.2.length ≤ 1 := by simpa [goes] using hg
  cases hb2 : b.2 with
  | nil => exact absurd hb2 hne
  | cons y s =>
    rw [hb2] at hl
    cases s with
    | nil => exact ⟨y, rfl⟩
    | cons z s => simp at hl
theorem two_of {l : List Str} (ha : ascS l) (h : 1 < l.length) (k : Str) : ∃ k' ∈ l, k' ≠ k := by
  cases l with
  | nil => simp at h
  | cons x t =>
    cases t with
    | nil => simp at h
    | cons y t =>
      by_cases hx : x = k
      · refine ⟨y, by simp, fun hy => ?_⟩
        have ha' : (x :: y :: t).Pairwise (· < ·) := ha
        rw [List.pairwise_cons] at ha'
        have := ha'.1 y (by simp)
        rw [hx, hy] at this
        exact absurd this (List.lt_irrefl _)
      · exact ⟨x, by simp, hx⟩

theorem leaves_keys : ∀ (n : Nat) (f : Fork), WF f → f.deep ≤ 5 → 6 - f.deep ≤ n → (leaves n f).map (·.1) = f.keys
  | 0, f, _, hd, hn => by omega
  | n + 1, f, h, hd, hn => by
    have ok := brs_ok h
    have e : ∀ b ∈ bs f, (if goes b = true then leaves n ⟨b.2, f.deep + 1⟩ else b.2.map fun k => (k, f.deep + 1)).map (·.1) = b.2 := by
      intro b hb
      by_cases hg : goes b = true
      · rw [if_pos hg]
        have hk := h.kid hb (by simpa [goes] using hg)
        exact leaves_keys n ⟨b.2, f.deep + 1⟩ hk.1 hk.2 (by show 6 - (f.deep + 1) ≤ n; omega)
      · rw [if_neg hg, List.map_map]
        have e1 : ((fun x : Str × Nat => x.1) ∘ fun k : Str => (k, f.deep + 1)) = id := rfl
        rw [e1, List.map_id]
    show ((bs f).flatMap fun b => if goes b = true then leaves n ⟨b.2, f.deep + 1⟩ else b.2.map fun k => (k, f.deep + 1)).map (fun x : Str × Nat => x.1) = f.keys
    rw [List.map_flatMap]
    have : (bs f).flatMap (fun b => (if goes b = true then leaves n ⟨b.2, f.deep + 1⟩ else b.2.map fun k => (k, f.deep + 1)).map (·.1)) = (bs f).flatMap (·.2) := by
      rw [List.flatMap_def, List.flatMap_def]
      congr 1
      exact List.map_congr_left e
    rw [this, List.flatMap_def]
    exact ok.all

/-- so many letters set a key of the list apart, and not fewer -/
structure Apart (f : Fork) (k : Str) (D : Nat) : Prop where
  mem : k ∈ f.keys
  low : f.deep + 1 ≤ D
  high : D ≤ k.length + 1
  apart : ∀ k' ∈ f.keys, k' ≠ k → k'.take D ≠ k.take D
  least : D = f.deep + 1 ∨ ∃ k' ∈ f.keys, k' ≠ k ∧ k'.take (D - 1) = k.take (D - 1)

theorem leaves_apart : ∀ (n : Nat) (f : Fork), WF f → ∀ x ∈ leaves n f, Apart f x.1 x.2
  | 0, f, _, x, hx => by simp [leaves] at hx
  | n + 1, f, h, x, hx => by
    have ok := brs_ok h
    obtain ⟨b, hb, hxb⟩ := List.mem_flatMap.mp hx
    have hsub := fun y hy => branch_sub h hb (x := y) hy
    have heq := (ok.each b hb).2
    have hout : ∀ k ∈ b.2, ∀ k' ∈ f.keys, k' ∉ b.2 → k'.take (f.deep + 1) ≠ k.take (f.deep + 1) := by
      intro k hk k' hk' hn e
      exact hn (branch_of h hb hk' (by rw [letter_take e]; exact heq k hk))
    by_cases hg : goes b = true
    · rw [if_pos hg] at hxb
      have hl : 1 < b.2.length := by simpa [goes] using hg
      have hk := h.kid hb hl
      have ih := leaves_apart n ⟨b.2, f.deep + 1⟩ hk.1 x hxb
      have hlow : f.deep + 1 + 1 ≤ x.2 := ih.low
      refine ⟨hsub _ ih.mem, by omega, ih.high, fun k' hk' hne => ?_, ?_⟩
      · by_cases hin : k' ∈ b.2
        · exact ih.apart k' hin hne
        · intro e
          exact hout x.1 ih.mem k' hk' hin (take_le (by omega) e)
      · right
        rcases ih.least with e | ⟨k', hk', hne, e⟩
        · obtain ⟨k', hk', hne⟩ := two_of hk.1.asc hl x.1
          refine ⟨k', hsub _ hk', hne, ?_⟩
          have e' : x.2 = f.deep + 1 + 1 := e
          rw [e']
          exact hk.1.alike k' hk' x.1 ih.mem
        · exact ⟨k', hsub _ hk', hne, e⟩
    · rw [if_neg hg] at hxb
      obtain ⟨y, hy⟩ := single_of (ok.each b hb).1 (by simpa using hg)
      rw [hy] at hxb
      simp at hxb
      subst hxb
      have hyb : y ∈ b.2 := by rw [hy]; simp
      refine ⟨hsub y hyb, Nat.le_refl _, by have := h.long y (hsub y hyb); show f.deep + 1 ≤ y.length + 1; omega, fun k' hk' hne => ?_, .inl rfl⟩
      refine hout y hyb k' hk' ?_
      rw [hy]
      simpa using hne
/-- it is one number -/
theorem Apart.one {f : Fork} {k : Str} {D E : Nat} (h : Apart f k D) (h' : Apart f k E) : D = E := by
  have aux : ∀ {D E : Nat}, Apart f k D → Apart f k E → ¬ D < E := by
    intro D E h h' hlt
    rcases h'.least with e | ⟨k', hk', hne, e⟩
    · have := h.low; omega
    · exact h.apart k' hk' hne (take_le (by omega) e)
  have h1 := aux h h'
  have h2 := aux h' h
  omega

/-- keys, as a fork without letters -/
def rootF (keys : List Str) : Fork := ⟨keys, 0⟩
/-- each key with how many letters set it apart -/
def sepL (keys : List Str) : List (Str × Nat) := leaves 6 (rootF keys)
theorem sepL_keys {keys : List Str} (h : WF (rootF keys)) : (sepL keys).map (·.1) = keys := leaves_keys 6 (rootF keys) h (Nat.zero_le _) (by show 6 - 0 ≤ 6; omega)
theorem sepL_apart {keys : List Str} (h : WF (rootF keys)) : ∀ x ∈ sepL keys, Apart (rootF keys) x.1 x.2 := leaves_apart 6 (rootF keys) h

end Go.Proofs.YtfhpkcamigkmdaaDoor.T

namespace Go.Proofs.YtfhpkcamigkmdaaDoor.T
open M

end Go.Proofs.YtfhpkcamigkmdaaDoor.T

namespace Go.Proofs.YtfhpkcamigkmdaaDoor.T
open M

/-- two strings in order: where they part -/
theorem part_of {x y : Str} (h : x < y) : ∃ p s t, x = p ++ s ∧ y = p ++ t ∧ (s = [] ∧ t ≠ [] ∨ ∃ a b u v, s = a :: u ∧ t = b :: v ∧ a < b) := by
  induction x generalizing y with
  | nil =>
    cases y with
    | nil => exact absurd h (by simp)
    | cons b t => exact ⟨[], [], b :: t, rfl, rfl, .inl ⟨rfl, by simp⟩⟩
  | cons a s ih =>
    cases y with
    | nil => exact absurd h (by simp)
    | cons b t =>
      rw [List.cons_lt_cons_iff] at h
      rcases h with h | ⟨rfl, h⟩
      · exact ⟨[], a :: s, b :: t, rfl, rfl, .inr ⟨a, b, s, t, rfl, rfl, h⟩⟩
      · obtain ⟨p, s', t', e1, e2, e3⟩ := ih h
        exact ⟨a :: p, s', t', by rw [e1]; rfl, by rw [e2]; rfl, e3⟩

/-- strings cut behind where they part stay in order -/
theorem cut_lt {x y : Str} (h : x < y) {m n : Nat} (hm : ∀ d, x.take d = y.take d → d < m) (hn : ∀ d, x.take d = y.take d → d < n) : x.take m < y.take n := by
  obtain ⟨p, s, t, rfl, rfl, hst⟩ := part_of h
  have hp : (p ++ s).take p.length = (p ++ t).take p.length := by rw [List.take_left, List.take_left]
  have h1 := hm _ hp
  have h2 := hn _ hp
  rw [List.take_append, List.take_append, List.take_of_length_le (by omega : p.length ≤ m), List.take_of_length_le (by omega : p.length ≤ n), lt_append]
  rcases hst with ⟨rfl, hne⟩ | ⟨a, b, u, v, rfl, rfl, hab⟩
  · cases t with
    | nil => exact absurd rfl hne
    | cons b t =>
      obtain ⟨q, hq⟩ : ∃ q, n - p.length = q + 1 := ⟨n - p.length - 1, by omega⟩
      rw [hq]
      simp
  · obtain ⟨q, hq⟩ : ∃ q, n - p.length = q + 1 := ⟨n - p.length - 1, by omega⟩
    obtain ⟨r, hr⟩ : ∃ r, m - p.length = r + 1 := ⟨m - p.length - 1, by omega⟩
    rw [hq, hr, List.take_succ_cons, List.take_succ_cons, List.cons_lt_cons_iff]
    exact .inl hab

section
variable (g : Str → Str)
end

end Go.Proofs.YtfhpkcamigkmdaaDoor.T

namespace Go.Proofs.YtfhpkcamigkmdaaDoor.T
open M

/-- a key list (its length is not asked) -/
abbrev KeyL (keys : List Str) : Prop := WF (rootF keys)
theorem keyL_mk {keys : List Str} (h1 : ∀ k ∈ keys, isKey k) (h2 : ascS keys) : KeyL keys := ⟨h1, h2, fun _ _ => Nat.zero_le _, fun _ _ _ _ => rfl⟩
/-- the forks of a key list -/
def forks (keys : List Str) : List Fork := nodes (loads [rootF keys]) [rootF keys]
/-- the filter of a key list -/
def sieve (keep : Nat) (keys : List Str) : Sv := enc keep (forks keys)
/-- how many letters set a key apart -/
def dOf (keys : List Str) (k : Str) : Nat := ((sepL keys).lookup k).getD 0
/-- what is kept of a key -/
def kept (keep : Nat) (keys : List Str) (k : Str) : Str := k.take (dOf keys k + keep)
def heads (keep : Nat) (keys : List Str) : List Str := keys.map (kept keep keys)

theorem lookup_mem : ∀ {l : List (Str × Nat)} {k : Str} {d : Nat}, l.lookup k = some d → (k, d) ∈ l
  | [], _, _, h => by simp at h
  | (a, e) :: t, k, d, h => by
    rw [List.lookup_cons] at h
    by_cases hk : (k == a) = true
    · rw [hk] at h
      simp at h
      rw [beq_iff_eq] at hk
      rw [hk, h]; simp
    · have hk' : (k == a) = false := by simpa using hk
      rw [hk'] at h
      exact List.mem_cons_of_mem _ (lookup_mem h)
theorem lookup_some : ∀ {l : List (Str × Nat)} {k : Str}, k ∈ l.map (·.1) → ∃ d, l.lookup k = some d
  | [], _, h => by simp at h
  | (a, e) :: t, k, h => by
    rw [List.lookup_cons]
    by_cases hk : (k == a) = true
    · rw [hk]; exact ⟨e, rfl⟩
    · have hk' : (k == a) = false := by simpa using hk
      rw [hk']
      rw [List.map_cons] at h
      rcases List.mem_cons.mp h with e2 | h
      · have e3 : k = a := e2
        rw [e3] at hk; simp at hk
      · exact lookup_some h
theorem dOf_mem {keys : List Str} (h : KeyL keys) {k : Str} (hk : k ∈ keys) : (k, dOf keys k) ∈ sepL keys := by
  have hk' : k ∈ (sepL keys).map (·.1) := by rw [sepL_keys h]; exact hk
  obtain ⟨d, hd⟩ := lookup_some hk'
  unfold dOf
  rw [hd]
  exact lookup_mem hd
theorem dOf_apart {keys : List Str} (h : KeyL keys) {k : Str} (hk : k ∈ keys) : Apart (rootF keys) k (dOf keys k) := sepL_apart h _ (dOf_mem h hk)
theorem dOf_is {keys : List Str} (h : KeyL keys) {k : Str} {d : Nat} (ha : Apart (rootF keys) k d) : dOf keys k = d := (dOf_apart h ha.mem).one ha
theorem sepL_eq {keys : List Str} (h : KeyL keys) : sepL keys = keys.map fun k => (k, dOf keys k) := by
  have e := congrArg (List.map fun k => (k, dOf keys k)) (sepL_keys h)
  rw [← e, List.map_map]
  have : ∀ x ∈ sepL keys, ((fun k => (k, dOf keys k)) ∘ fun x : Str × Nat => x.1) x = id x := by
    intro x hx
    simp only [Function.comp, id]
    rw [dOf_is h (sepL_apart h x hx)]
  rw [List.map_congr_left this]
  simp
/-- what is kept of keys is keys, in order -/
theorem heads_key {keys : List Str} (h : KeyL keys) (keep : Nat) : KeyL (heads keep keys) := by
  refine keyL_mk (fun k hk => ?_) ?_
  · obtain ⟨x, hx, rfl⟩ := List.mem_map.mp hk
    have hxk := h.key x hx
    exact ⟨by unfold kept; rw [List.length_take]; have := hxk.1; omega, fun c hc => hxk.2 c (List.mem_of_mem_take hc)⟩
  · unfold ascS heads
    rw [List.pairwise_map]
    have ha : keys.Pairwise (· < ·) := h.asc
    refine List.Pairwise.imp_of_mem ?_ ha
    intro a b hma hmb hlt
    have hab : a ≠ b := fun e => by rw [e] at hlt; exact absurd hlt (List.lt_irrefl _)
    refine cut_lt hlt (fun d e => ?_) (fun d e => ?_)
    · rcases Nat.lt_or_ge d (dOf keys a + keep) with hd | hd
      · exact hd
      · exact absurd (take_le (by omega) e.symm) ((dOf_apart h hma).apart b hmb (fun e2 => hab e2.symm))
    · rcases Nat.lt_or_ge d (dOf keys b + keep) with hd | hd
      · exact hd
      · exact absurd (take_le (by omega) e) ((dOf_apart h hmb).apart a hma hab)

end Go.Proofs.YtfhpkcamigkmdaaDoor.T

namespace Go.Proofs.YtfhpkcamigkmdaaDoor.T
open M

end Go.Proofs.YtfhpkcamigkmdaaDoor.T

namespace Go.Proofs.YtfhpkcamigkmdaaDoor.T
open M

/-- the branches of forks, counted -/
def cnt (N : List Fork) : Nat := (N.map fun f => (bs f).length).sum
theorem cnt_cons (f : Fork) (N : List Fork) : cnt (f :: N) = (bs f).length + cnt N := by unfold cnt; rw [List.map_cons, List.sum_cons]
theorem len_cnt (N : List Fork) : (letters N).length = cnt N := by
  induction N with
  | nil => rfl
  | cons f N ih =>
    have : letters (f :: N) = (bs f).map (·.1) ++ letters N := rfl
    rw [this, List.length_append, List.length_map, ih, cnt_cons]
theorem ones_firsts (N : List Fork) (h : ∀ f ∈ N, bs f ≠ []) : ones (firsts N) = N.length := by
  induction N with
  | nil => rfl
  | cons f N ih =>
    have e : firsts (f :: N) = firstN (bs f).length ++ firsts N := rfl
    have hne := h f (by simp)
    obtain ⟨m, hm⟩ : ∃ m, (bs f).length = m + 1 := by
      cases hb : bs f with
      | nil => exact absurd hb hne
      | cons b t => exact ⟨t.length, rfl⟩
    rw [e, ones_append, hm, ones_firstN, ih (fun g hg => h g (by simp [hg])), List.length_cons]
    omega
/-- the branches behind a fork, counted -/
def sz : Nat → Fork → Nat
  | 0, _ => 0
  | n + 1, f => ((bs f).map fun b => 1 + if goes b = true then sz n ⟨b.2, f.deep + 1⟩ else 0).sum
theorem sum_goes (w : Br → Nat) (l : List Br) : (l.map fun b => 1 + if goes b = true then w b else 0).sum = l.length + ((l.filter goes).map w).sum := by
  induction l with
  | nil => rfl
  | cons b t ih =>
    rw [List.map_cons, List.sum_cons, ih, List.filter_cons, List.length_cons]
    cases goes b <;> simp <;> omega
theorem sz_step {f : Fork} (hd : f.deep ≤ 5) : sz (6 - f.deep) f = (bs f).length + ((kids f).map fun g => sz (6 - g.deep) g).sum := by
  obtain ⟨m, hm⟩ : ∃ m, 6 - f.deep = m + 1 := ⟨5 - f.deep, by omega⟩
  rw [hm]
  have e : sz (m + 1) f = ((bs f).map fun b => 1 + if goes b = true then sz m ⟨b.2, f.deep + 1⟩ else 0).sum := rfl
  rw [e, sum_goes (fun b => sz m ⟨b.2, f.deep + 1⟩), kids_eq, List.map_map]
  congr 2
  refine List.map_congr_left fun b hb => ?_
  show sz m ⟨b.2, f.deep + 1⟩ = sz (6 - (f.deep + 1)) ⟨b.2, f.deep + 1⟩
  rw [show 6 - (f.deep + 1) = m by omega]
theorem cnt_nodes (n : Nat) (q : List Fork) (hn : loads q ≤ n) (hw : ∀ f ∈ q, WF f ∧ f.deep ≤ 5) : cnt (nodes n q) = (q.map fun f => sz (6 - f.deep) f).sum := by
  induction n generalizing q with
  | zero =>
    cases q with
    | nil => rfl
    | cons f q => unfold loads load at hn; simp at hn
  | succ n ih =>
    cases q with
    | nil => rfl
    | cons f q =>
      have hf := hw f (by simp)
      have hk := kids_load f (by omega)
      have hl : loads (q ++ kids f) ≤ n := by
        rw [loads_append]
        have : loads (f :: q) = load f + loads q := by unfold loads; rw [List.map_cons, List.sum_cons]
        omega
      have hw' : ∀ g ∈ q ++ kids f, WF g ∧ g.deep ≤ 5 := by
        intro g hg
        rcases List.mem_append.mp hg with h | h
        · exact hw g (by simp [h])
        · exact kids_wf hf.1 g h
      have hn : nodes (n + 1) (f :: q) = f :: nodes n (q ++ kids f) := rfl
      rw [hn, cnt_cons, ih _ hl hw', List.map_append, List.sum_append, List.map_cons, List.sum_cons, sz_step hf.2]
      omega
theorem size_is {keys : List Str} (h : KeyL keys) (keep : Nat) : (sieve keep keys).letters.length = sz 6 (rootF keys) := by
  show (letters (forks keys)).length = _
  rw [len_cnt]
  unfold forks
  rw [cnt_nodes _ _ (Nat.le_refl _) (fun f hf => by rw [List.mem_singleton.mp hf]; exact ⟨h, Nat.zero_le _⟩)]
  simp [rootF]

theorem sum_le {α : Type} {l : List α} {v w : α → Nat} (h : ∀ x ∈ l, v x ≤ w x) : (l.map v).sum ≤ (l.map w).sum := by
  induction l with
  | nil => exact Nat.le_refl _
  | cons a t ih =>
    rw [List.map_cons, List.map_cons, List.sum_cons, List.sum_cons]
    have := h a (by simp)
    have := ih fun x hx => h x (by simp [hx])
    omega
theorem sum_flat {α β : Type} (l : List α) (g : α → List β) (w : β → Nat) : ((l.flatMap g).map w).sum = (l.map fun a => ((g a).map w).sum).sum := by
  induction l with
  | nil => rfl
  | cons a t ih => rw [List.flatMap_cons, List.map_append, List.sum_append, ih, List.map_cons, List.sum_cons]
/-- for each key no more branches than letters set it apart -/
theorem sz_high : ∀ (n : Nat) (f : Fork), WF f → f.deep ≤ 5 → 6 - f.deep ≤ n → sz n f ≤ ((leaves n f).map fun x => x.2 - f.deep).sum
  | 0, _, _, _, _ => by simp [sz]
  | n + 1, f, h, hd, hn => by
    have e : sz (n + 1) f = ((bs f).map fun b => 1 + if goes b = true then sz n ⟨b.2, f.deep + 1⟩ else 0).sum := rfl
    have e2 : leaves (n + 1) f = (bs f).flatMap fun b => if goes b = true then leaves n ⟨b.2, f.deep + 1⟩ else b.2.map fun k => (k, f.deep + 1) := rfl
    rw [e, e2, sum_flat]
    refine sum_le fun b hb => ?_
    have hne := ((brs_ok h).each b hb).1
    cases hg : goes b with
    | true =>
      rw [if_pos rfl, if_pos rfl]
      have hl : 1 < b.2.length := by simpa [goes] using hg
      have hk := h.kid hb hl
      have ih := sz_high n ⟨b.2, f.deep + 1⟩ hk.1 hk.2 (by show 6 - (f.deep + 1) ≤ n; omega)
      have hlen : 0 < (leaves n ⟨b.2, f.deep + 1⟩).length := by
        have := congrArg List.length (leaves_keys n ⟨b.2, f.deep + 1⟩ hk.1 hk.2 (by show 6 - (f.deep + 1) ≤ n; omega))
        rw [List.length_map] at this
        rw [this]; show 0 < b.2.length; omega
      have hap := leaves_apart n ⟨b.2, f.deep + 1⟩ hk.1
      generalize leaves n ⟨b.2, f.deep + 1⟩ = L at ih hlen hap
      have ih' : sz n ⟨b.2, f.deep + 1⟩ ≤ (L.map fun x => x.2 - (f.deep + 1)).sum := ih
      have hsum : (L.map fun x => x.2 - (f.deep + 1)).sum + L.length ≤ (L.map fun x => x.2 - f.deep).sum := by
        clear ih ih' hlen
        induction L with
        | nil => exact Nat.le_refl _
        | cons x t iht =>
          have h1 := (hap x (by simp)).low
          have h1' : f.deep + 1 + 1 ≤ x.2 := h1
          have h2 := iht fun y hy => hap y (by simp [hy])
          simp only [List.map_cons, List.sum_cons, List.length_cons]
          omega
      omega
    | false =>
      obtain ⟨x, hx⟩ := single_of hne hg
      rw [hx]
      simp
theorem size_high {keys : List Str} (h : KeyL keys) (keep : Nat) : (sieve keep keys).letters.length ≤ ((heads keep keys).map fun k => k.length + 1).sum := by
  rw [size_is h]
  refine Nat.le_trans (sz_high 6 (rootF keys) h (Nat.zero_le _) (by show 6 - 0 ≤ 6; omega)) ?_
  have e : leaves 6 (rootF keys) = keys.map fun k => (k, dOf keys k) := sepL_eq h
  rw [e, List.map_map]
  unfold heads
  rw [List.map_map]
  refine sum_le fun k hk => ?_
  have := (dOf_apart h hk).high
  show dOf keys k - 0 ≤ (kept keep keys k).length + 1
  unfold kept
  rw [List.length_take]
  omega

end Go.Proofs.YtfhpkcamigkmdaaDoor.T

namespace Go.Proofs.YtfhpkcamigkmdaaDoor.T
open M

end Go.Proofs.YtfhpkcamigkmdaaDoor.T

namespace Go.Proofs.YtfhpkcamigkmdaaDoor.T
open M

end Go.Proofs.YtfhpkcamigkmdaaDoor.T

namespace Go.Proofs.YtfhpkcamigkmdaaDoor.T
open M

/-- branches laid behind a filter's -/
def Sv.lay (s : Sv) (d : Nat) (done : List Br) : Sv :=
  ⟨s.letters ++ done.map (·.1), s.more ++ done.map (fun b => bit (goes b)), s.first ++ firstN done.length, s.rests ++ (done.filter (fun b => !goes b)).map (restB d s.keep), s.keep⟩
theorem lay_nil (s : Sv) (d : Nat) : s.lay d [] = s := by
  unfold Sv.lay firstN; simp
theorem enc_snoc (keep : Nat) (N : List Fork) (f : Fork) : enc keep (N ++ [f]) = (enc keep N).lay f.deep (bs f) := by
  unfold enc Sv.lay letters more firsts rests moreF restsF
  simp only [List.flatMap_append, List.flatMap_cons, List.flatMap_nil, List.append_nil]
theorem firstN_snoc (n : Nat) : firstN (n + 1) = firstN n ++ [if n = 0 then 49 else 48] := by
  cases n with
  | zero => rfl
  | succ n =>
    rw [if_neg (by omega)]
    show 49 :: List.replicate (n + 1) 48 = (49 :: List.replicate n 48) ++ [48]
    rw [List.cons_append, List.replicate_succ']
theorem lay_snoc (s : Sv) (d : Nat) (done : List Br) (b : Br) : s.lay d (done ++ [b]) =
    ⟨(s.lay d done).letters ++ [b.1], (s.lay d done).more ++ [bit (goes b)], (s.lay d done).first ++ [if done.length = 0 then 49 else 48], (s.lay d done).rests ++ (if goes b = true then [] else [restB d s.keep b]), s.keep⟩ := by
  unfold Sv.lay
  simp only [List.map_append, List.map_cons, List.map_nil, List.length_append, List.length_singleton, List.filter_append, ← List.append_assoc, firstN_snoc]
  congr 2
  by_cases h : goes b = true
  · simp [h]
  · simp [h]
theorem leads_snoc (d : Nat) (done : List Br) (b : Br) : leads d (done ++ [b]) = leads d done ++ (if goes b = true then [⟨b.2, d + 1⟩] else []) := by
  unfold leads
  rw [List.filter_append, List.map_append]
  by_cases h : goes b = true
  · simp [h]
  · simp [h]
/-- so far: of the fork's branches these are done, and these keys are left -/
def Half (d : Nat) (keys : List Str) (done : List Br) (r : List Str) : Prop := brs d keys = done ++ brs d r ∧ (∃ n, r = keys.drop n)
theorem half_zero (d : Nat) (keys : List Str) : Half d keys [] keys := ⟨rfl, 0, rfl⟩
theorem half_end {d : Nat} {keys : List Str} {done : List Br} (h : Half d keys done []) : done = brs d keys := by
  have := h.1
  rw [brs_nil, List.append_nil] at this
  exact this.symm
theorem half_next {d : Nat} {keys : List Str} {done : List Br} {k : Str} {t : List Str} (h : Half d keys done (k :: t)) :
    Half d keys (done ++ [(letter k d, group k t d)]) ((k :: t).drop (group k t d).length) := by
  refine ⟨?_, ?_⟩
  · rw [h.1, brs_cons, List.append_assoc]; rfl
  · obtain ⟨n, hn⟩ := h.2
    exact ⟨n + (group k t d).length, by rw [hn, List.drop_drop]⟩
theorem brs_len (d : Nat) : ∀ (n : Nat) (l : List Str), l.length ≤ n → (brs d l).length ≤ l.length
  | _, [], _ => by rw [brs_nil]; exact Nat.le_refl _
  | 0, k :: t, h => by simp at h
  | n + 1, k :: t, h => by
    rw [brs_cons]
    have hp := group_pos k t d
    have hl : ((k :: t).drop (group k t d).length).length ≤ t.length := by rw [List.length_drop]; simp only [List.length_cons]; omega
    have := brs_len d n _ (Nat.le_trans hl (by simpa using h))
    simp only [List.length_cons]
    omega
theorem half_len {d : Nat} {keys : List Str} {done : List Br} {r : List Str} (h : Half d keys done r) : done.length + (brs d r).length ≤ keys.length := by
  have h1 := brs_len d keys.length keys (Nat.le_refl _)
  rw [h.1, List.length_append] at h1
  exact h1

/-- with enough fuel the forks are the same -/
theorem nodes_fuel : ∀ (n m : Nat) (q : List Fork), (∀ f ∈ q, WF f ∧ f.deep ≤ 5) → loads q ≤ n → loads q ≤ m → nodes n q = nodes m q
  | 0, 0, _, _, _, _ => rfl
  | 0, m + 1, q, _, hn, _ => by
    cases q with
    | nil => rfl
    | cons f q =>
      exfalso
      have : loads (f :: q) = load f + loads q := by unfold loads; rw [List.map_cons, List.sum_cons]
      have h2 : 0 < load f := by unfold load; omega
      omega
  | n + 1, 0, q, _, _, hm => by
    cases q with
    | nil => rfl
    | cons f q =>
      exfalso
      have : loads (f :: q) = load f + loads q := by unfold loads; rw [List.map_cons, List.sum_cons]
      have h2 : 0 < load f := by unfold load; omega
      omega
  | n + 1, m + 1, q, hw, hn, hm => by
    cases q with
    | nil => rfl
    | cons f q =>
      have e1 : nodes (n + 1) (f :: q) = f :: nodes n (q ++ kids f) := rfl
      have e2 : nodes (m + 1) (f :: q) = f :: nodes m (q ++ kids f) := rfl
      have hf := hw f (by simp)
      have hl : loads (f :: q) = load f + loads q := by unfold loads; rw [List.map_cons, List.sum_cons]
      have hk := kids_load f (by omega)
      have hs : loads (q ++ kids f) < loads (f :: q) := by rw [loads_append, hl]; omega
      rw [e1, e2, nodes_fuel n m (q ++ kids f) (fun g hg => ?_) (by omega) (by omega)]
      rcases List.mem_append.mp hg with hg | hg
      · exact hw g (by simp [hg])
      · exact kids_wf hf.1 g hg
/-- these forks are done, and these wait -/
structure Going (keys : List Str) (N q : List Fork) : Prop where
  all : forks keys = N ++ nodes (loads q) q
  ok : ∀ f ∈ q, WF f ∧ f.deep ≤ 5
  sub : ∀ f ∈ q, f.keys.length ≤ keys.length
theorem going_zero {keys : List Str} (h : KeyL keys) : Going keys [] [rootF keys] :=
  ⟨rfl, fun f hf => by rw [List.mem_singleton.mp hf]; exact ⟨h, Nat.zero_le _⟩, fun f hf => by rw [List.mem_singleton.mp hf]; exact Nat.le_refl _⟩
theorem going_end {keys : List Str} {N : List Fork} (h : Going keys N []) : forks keys = N := by
  have := h.all
  have e : nodes (loads []) [] = [] := rfl
  rw [e, List.append_nil] at this
  exact this
theorem branch_le {f : Fork} {b : Br} (hb : b ∈ bs f) : b.2.length ≤ f.keys.length := by
  have ht := brs_total f.deep f.keys
  have hm : b.2.length ≤ ((brs f.deep f.keys).map fun b => b.2.length).sum := by
    have : b.2.length ∈ (brs f.deep f.keys).map fun b => b.2.length := List.mem_map.mpr ⟨b, hb, rfl⟩
    have aux : ∀ (l : List Nat) (x : Nat), x ∈ l → x ≤ l.sum := by
      intro l
      induction l with
      | nil => intro x hx; simp at hx
      | cons a t ih =>
        intro x hx
        rw [List.sum_cons]
        rcases List.mem_cons.mp hx with rfl | hx
        · omega
        · have := ih x hx; omega
    exact aux _ _ this
  omega
theorem going_next {keys : List Str} {N q : List Fork} {f : Fork} (h : Going keys N (f :: q)) : Going keys (N ++ [f]) (q ++ kids f) ∧ loads (q ++ kids f) < loads (f :: q) := by
  have hf := h.ok f (by simp)
  have hl : loads (f :: q) = load f + loads q := by unfold loads; rw [List.map_cons, List.sum_cons]
  have hk := kids_load f (by omega)
  have hs : loads (q ++ kids f) < loads (f :: q) := by rw [loads_append, hl]; omega
  have hw : ∀ g ∈ q ++ kids f, WF g ∧ g.deep ≤ 5 := by
    intro g hg
    rcases List.mem_append.mp hg with hg | hg
    · exact h.ok g (by simp [hg])
    · exact kids_wf hf.1 g hg
  refine ⟨⟨?_, hw, fun g hg => ?_⟩, hs⟩
  · obtain ⟨m, hm⟩ : ∃ m, loads (f :: q) = m + 1 := ⟨loads (f :: q) - 1, by omega⟩
    have e1 : nodes (m + 1) (f :: q) = f :: nodes m (q ++ kids f) := rfl
    rw [h.all, hm, e1, nodes_fuel m (loads (q ++ kids f)) (q ++ kids f) hw (by omega) (Nat.le_refl _), List.append_assoc]
    rfl
  · rcases List.mem_append.mp hg with hg | hg
    · exact h.sub g (by simp [hg])
    · rw [kids_eq] at hg
      obtain ⟨b, hb, rfl⟩ := List.mem_map.mp hg
      have h1 := branch_le (List.mem_filter.mp hb).1
      have h2 := h.sub f (by simp)
      show b.2.length ≤ keys.length
      omega
theorem going_len {keys : List Str} (hK : KeyL keys) (hn : keys.length ≤ 24) (keep : Nat) {N q : List Fork} (h : Going keys N q) :
    (enc keep N).letters.length ≤ 144 ∧ (enc keep N).more.length ≤ 144 ∧ (enc keep N).first.length ≤ 144 ∧ (enc keep N).rests.length ≤ 144 := by
  have hall : (letters (forks keys)).length ≤ 144 := by
    have h1 : (letters (forks keys)).length ≤ ((heads keep keys).map fun k => k.length + 1).sum := size_high hK keep
    have h2 : ((heads keep keys).map fun k => k.length + 1).sum ≤ (heads keep keys).length * 6 := by
      have hk := (heads_key hK keep).key
      generalize heads keep keys = l at hk
      have : ∀ l : List Str, (∀ k ∈ l, isKey k) → (l.map fun k => k.length + 1).sum ≤ l.length * 6 := by
        intro l
        induction l with
        | nil => intro _; exact Nat.le_refl _
        | cons k t ih =>
          intro hk
          have h1 := (hk k (by simp)).1
          have h2 := ih fun x hx => hk x (by simp [hx])
          rw [List.map_cons, List.sum_cons, List.length_cons]
          omega
      exact this l hk
    have h3 : (heads keep keys).length = keys.length := by unfold heads; rw [List.length_map]
    rw [h3] at h2
    omega
  have hN : (letters N).length ≤ 144 := by
    have e : letters (forks keys) = letters N ++ letters (nodes (loads q) q) := by rw [h.all]; unfold letters; rw [List.flatMap_append]
    rw [e, List.length_append] at hall
    omega
  refine ⟨hN, ?_, ?_, ?_⟩
  · show (more N).length ≤ 144
    rw [len_more, ← len_letters]; exact hN
  · show (firsts N).length ≤ 144
    rw [len_firsts, ← len_letters]; exact hN
  · show (rests keep N).length ≤ 144
    refine Nat.le_trans ?_ hN
    unfold rests letters
    clear h hN
    induction N with
    | nil => exact Nat.le_refl _
    | cons f N ih =>
      rw [List.flatMap_cons, List.flatMap_cons, List.length_append, List.length_append]
      have : (restsF keep f).length ≤ ((bs f).map (·.1)).length := by
        unfold restsF
        rw [List.length_map, List.length_map]
        exact List.length_filter_le _ _
      omega

end Go.Proofs.YtfhpkcamigkmdaaDoor.T

namespace Go.Proofs.YtfhpkcamigkmdaaDoor.T
open M

/-- a branch: it goes on, to a node, or ends, with a rest that is all or not -/
inductive TB where
  | on (c : UInt8) (n : Nat)
  | en (c : UInt8) (r : Str) (w : Bool)
def TB.lab : TB → UInt8
  | .on c _ => c
  | .en c _ _ => c
abbrev Tr := List (List TB)
/-- the branches of a fork, the first that goes on leading to node n -/
def nodeT (keep d : Nat) : Nat → List Br → List TB
  | _, [] => []
  | n, b :: l => if goes b = true then .on b.1 n :: nodeT keep d (n + 1) l else .en b.1 (restB d keep b) (decide (b.1 = 45 ∨ (restB d keep b).length < keep)) :: nodeT keep d n l
/-- the trie of forks -/
def trN (keep : Nat) : Nat → List Fork → Tr
  | _, [] => []
  | n, f :: N => nodeT keep f.deep n (bs f) :: trN keep (n + (kids f).length) N
theorem nodeT_len (keep d : Nat) : ∀ (n : Nat) (l : List Br), (nodeT keep d n l).length = l.length
  | _, [] => rfl
  | n, b :: l => by
    unfold nodeT
    split
    · rw [List.length_cons, List.length_cons, nodeT_len keep d (n + 1) l]
    · rw [List.length_cons, List.length_cons, nodeT_len keep d n l]
theorem trN_len (keep : Nat) : ∀ (n : Nat) (N : List Fork), (trN keep n N).length = N.length
  | _, [] => rfl
  | n, f :: N => by unfold trN; rw [List.length_cons, List.length_cons, trN_len keep _ N]
theorem nodeT_snoc (keep d : Nat) : ∀ (n : Nat) (l : List Br) (b : Br), nodeT keep d n (l ++ [b]) = nodeT keep d n l ++ nodeT keep d (n + (l.filter goes).length) [b]
  | n, [], b => rfl
  | n, a :: l, b => by
    rw [List.cons_append]
    unfold nodeT
    by_cases hg : goes a = true
    · rw [if_pos hg, if_pos hg, nodeT_snoc keep d (n + 1) l b, List.filter_cons, if_pos hg, List.length_cons, List.cons_append]
      rw [show n + 1 + (l.filter goes).length = n + ((l.filter goes).length + 1) by omega]
      rfl
    · rw [if_neg hg, if_neg hg, nodeT_snoc keep d n l b, List.filter_cons, if_neg hg, List.cons_append]
      rfl
theorem trN_snoc (keep : Nat) : ∀ (n : Nat) (N : List Fork) (f : Fork), trN keep n (N ++ [f]) = trN keep n N ++ [nodeT keep f.deep (n + (N.flatMap kids).length) (bs f)]
  | n, [], f => rfl
  | n, g :: N, f => by
    rw [List.cons_append]
    unfold trN
    rw [trN_snoc keep _ N f, List.flatMap_cons, List.length_append, Nat.add_assoc, List.cons_append]

end Go.Proofs.YtfhpkcamigkmdaaDoor.T

namespace Go.Proofs.YtfhpkcamigkmdaaDoor.T
open M

end Go.Proofs.YtfhpkcamigkmdaaDoor.T

namespace Go.Proofs.YtfhpkcamigkmdaaDoor.T
open M

section
variable (s : Sv)
end

/-- no keys -/
theorem forks_nil : forks [] = [rootF []] := by
  have hl : loads [rootF []] = 1 := by simp [loads, rootF, load]
  unfold forks; rw [hl]; rfl
end Go.Proofs.YtfhpkcamigkmdaaDoor.T

namespace Go.Proofs.YtfhpkcamigkmdaaDoor.T
open M

/-- a branch more in a filter's strings -/
def layT (s : Sv) (i : Nat) (b : TB) : Sv :=
  { s with letters := s.letters ++ [b.lab], more := s.more ++ [match b with | .on .. => 49 | .en .. => 48], first := s.first ++ [if i = 0 then 49 else 48],
           rests := s.rests ++ (match b with | .on .. => [] | .en _ r _ => [r]) }
/-- some branches of a node more, the first with number i -/
def layN (s : Sv) : Nat → List TB → Sv
  | _, [] => s
  | i, b :: l => layN (layT s i b) (i + 1) l
/-- a trie's strings -/
def layA (s : Sv) : Tr → Sv
  | [] => s
  | n :: t => layA (layN s 0 n) t
theorem layN_snoc (b : TB) : ∀ (s : Sv) (i : Nat) (l : List TB), layN s i (l ++ [b]) = layT (layN s i l) (i + l.length) b
  | s, i, [] => rfl
  | s, i, a :: l => by
    rw [List.cons_append]
    unfold layN
    rw [layN_snoc b (layT s i a) (i + 1) l, List.length_cons, show i + 1 + l.length = i + (l.length + 1) by omega]
theorem layA_snoc (n : List TB) : ∀ (s : Sv) (t : Tr), layA s (t ++ [n]) = layN (layA s t) 0 n
  | s, [] => rfl
  | s, m :: t => by
    rw [List.cons_append]
    unfold layA
    exact layA_snoc n _ t
/-- the branches of a node, as they are laid -/
theorem layN_node (keep d : Nat) : ∀ (l : List Br) (s : Sv) (i n : Nat), layN s i (nodeT keep d n l) =
    { s with letters := s.letters ++ l.map (·.1), more := s.more ++ l.map (fun b => bit (goes b)), first := s.first ++ (List.range' i l.length).map (fun x => if x = 0 then 49 else 48), rests := s.rests ++ ((l.filter fun b => !goes b).map (restB d keep)) }
  | [], s, i, n => by simp [nodeT, layN]
  | b :: l, s, i, n => by
    unfold nodeT
    by_cases hg : goes b = true
    · rw [if_pos hg]
      unfold layN
      rw [layN_node keep d l, List.filter_cons, if_neg (by rw [hg]; decide)]
      simp [layT, TB.lab, List.range'_succ, hg, bit]
    · have hgf : goes b = false := by simpa using hg
      rw [if_neg hg]
      unfold layN
      rw [layN_node keep d l, List.filter_cons, if_pos (by rw [hgf]; decide)]
      simp [layT, TB.lab, List.range'_succ, hgf, bit]
theorem firstN_range : ∀ n, firstN n = (List.range' 0 n).map (fun x => if x = 0 then 49 else 48)
  | 0 => rfl
  | n + 1 => by
    rw [List.range'_succ, List.map_cons, show firstN (n + 1) = 49 :: List.replicate n 48 from rfl]
    congr 1
    symm
    rw [List.eq_replicate_iff]
    refine ⟨by simp, fun x hx => ?_⟩
    obtain ⟨y, hy, rfl⟩ := List.mem_map.mp hx
    have := (List.mem_range'_1.mp hy).1
    rw [if_neg (by omega)]
/-- the strings of the trie of forks are the filter's -/
theorem layA_enc (keep : Nat) : ∀ (N : List Fork) (s : Sv) (n : Nat), layA s (trN keep n N) =
    { s with letters := s.letters ++ letters N, more := s.more ++ more N, first := s.first ++ firsts N, rests := s.rests ++ rests keep N }
  | [], s, n => by simp [trN, layA, letters, more, firsts, rests]
  | f :: N, s, n => by
    unfold trN layA
    rw [layA_enc keep N, layN_node]
    simp [letters, more, firsts, rests, moreF, restsF, firstN_range, List.append_assoc]
/-- no string yet -/
def svNil (keep : Nat) : Sv := ⟨[], [], [], [], keep⟩
theorem lay_sieve (keep : Nat) (keys : List Str) : layA (svNil keep) (trN keep 1 (forks keys)) = sieve keep keys := by
  rw [layA_enc]
  simp [svNil, sieve, enc]

end Go.Proofs.YtfhpkcamigkmdaaDoor.T
