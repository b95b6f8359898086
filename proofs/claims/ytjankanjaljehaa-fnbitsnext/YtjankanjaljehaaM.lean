/-
  Plain mathematics of bit strings: how many ones a list of bytes has, where the one with a number is, and the number that up to 64 bits make. No condition; nothing of the program is named here.
-/
import Derived.Laws.BitsAllLaws
namespace Go.Proofs.Ytjankanjaljehaa.M

/-- a byte is a bit -/
def bitC (c : UInt8) : Bool := c == 48 || c == 49
/-- the bytes are a bit string -/
def okB (l : List UInt8) : Bool := decide (l.length ≤ 400) && l.all bitC
/-- how many ones there are -/
def ones : List UInt8 → Nat
  | [] => 0
  | c :: t => (if c = 49 then 1 else 0) + ones t
/-- where the one with a number is -/
def oneIdx : List UInt8 → Nat → Option Nat
  | [], _ => none
  | c :: t, n => if c = 49 then (match n with | 0 => some 0 | m + 1 => (oneIdx t m).map (· + 1)) else (oneIdx t n).map (· + 1)
/-- the number that bits make, the first bit lowest -/
def val : List UInt8 → Nat
  | [] => 0
  | c :: t => (if c = 49 then 1 else 0) + 2 * val t

theorem ones_append (a b : List UInt8) : ones (a ++ b) = ones a + ones b := by
  induction a with
  | nil => simp [ones]
  | cons c t ih => simp only [List.cons_append, ones, ih]; omega

theorem ones_le (l : List UInt8) : ones l ≤ l.length := by
  induction l with
  | nil => simp [ones]
  | cons c t ih => simp only [ones, List.length_cons]; split <;> omega

theorem oneIdx_append (a b : List UInt8) (n : Nat) : oneIdx (a ++ b) n = if n < ones a then oneIdx a n else (oneIdx b (n - ones a)).map (a.length + ·) := by
  induction a generalizing n with
  | nil => simp [ones]
  | cons c t ih =>
    by_cases hc : c = 49
    · cases n with
      | zero => simp [oneIdx, ones, hc]
      | succ m =>
        simp only [List.cons_append, oneIdx, hc, if_true, ones, ih]
        by_cases hm : m < ones t
        · rw [if_pos hm, if_pos (by omega)]
        · rw [if_neg hm, if_neg (by omega)]
          have e : m + 1 - (1 + ones t) = m - ones t := by omega
          rw [e, Option.map_map]
          congr 1
          funext x
          simp; omega
    · simp only [List.cons_append, oneIdx, hc, if_false, ones, ih]
      by_cases hm : n < ones t
      · rw [if_pos hm, if_pos (by omega)]
      · rw [if_neg hm, if_neg (by omega)]
        have e : n - (0 + ones t) = n - ones t := by omega
        rw [e, Option.map_map]
        congr 1
        funext x
        simp; omega

theorem oneIdx_none (l : List UInt8) (n : Nat) : oneIdx l n = none ↔ ones l ≤ n := by
  induction l generalizing n with
  | nil => simp [oneIdx, ones]
  | cons c t ih =>
    by_cases hc : c = 49
    · cases n with
      | zero => simp [oneIdx, ones, hc]
      | succ m => simp only [oneIdx, ones, hc, if_true, Option.map_eq_none_iff, ih]; omega
    · simp only [oneIdx, ones, hc, if_false, Option.map_eq_none_iff, ih]; omega

/-- the one with a number: it is a one, and so many are ahead -/
theorem oneIdx_some (l : List UInt8) (n i : Nat) (h : oneIdx l n = some i) : i < l.length ∧ l[i]? = some 49 ∧ ones (l.take i) = n := by
  induction l generalizing n i with
  | nil => simp [oneIdx] at h
  | cons c t ih =>
    by_cases hc : c = 49
    · cases n with
      | zero =>
        simp [oneIdx, hc] at h
        subst h
        simp [hc, ones]
      | succ m =>
        simp only [oneIdx, hc, if_true, Option.map_eq_some_iff] at h
        obtain ⟨x, hx, rfl⟩ := h
        obtain ⟨h1, h2, h3⟩ := ih m x hx
        refine ⟨by simp; omega, by simpa using h2, ?_⟩
        simp only [List.take_succ_cons, ones, hc, if_true, h3]; omega
    · simp only [oneIdx, hc, if_false, Option.map_eq_some_iff] at h
      obtain ⟨x, hx, rfl⟩ := h
      obtain ⟨h1, h2, h3⟩ := ih n x hx
      refine ⟨by simp; omega, by simpa using h2, ?_⟩
      simp only [List.take_succ_cons, ones, hc, if_false, h3]; omega

theorem ones_take_le (l : List UInt8) (k : Nat) : ones (l.take k) ≤ k := Nat.le_trans (ones_le _) (List.length_take_le _ _)

/-- a list, cut -/
theorem cut (l : List UInt8) (k : Nat) : l = l.take k ++ l.drop k := (List.take_append_drop k l).symm

theorem ones_cut (l : List UInt8) (k : Nat) : ones l = ones (l.take k) + ones (l.drop k) := by rw [← ones_append, ← cut]

theorem ones_take_succ (l : List UInt8) (k : Nat) (c : UInt8) (h : l[k]? = some c) : ones (l.take (k + 1)) = ones (l.take k) + if c = 49 then 1 else 0 := by
  rw [List.take_add_one, ones_append, h]; simp [ones]

theorem ones_drop (l : List UInt8) (k : Nat) (c : UInt8) (h : l[k]? = some c) : ones (l.drop k) = (if c = 49 then 1 else 0) + ones (l.drop (k + 1)) := by
  obtain ⟨hk, rfl⟩ := List.getElem?_eq_some_iff.mp h
  rw [List.drop_eq_getElem_cons hk]; rfl

/-- the next one, from a place on, is that with as many ones ahead -/
theorem next_eq (l : List UInt8) (k : Nat) (hk : k ≤ l.length) : oneIdx l (ones (l.take k)) = (oneIdx (l.drop k) 0).map (k + ·) := by
  conv => lhs; rw [cut l k]
  rw [oneIdx_append, if_neg (by simp [List.take_append_drop]), List.take_append_drop, Nat.sub_self, List.length_take, Nat.min_eq_left hk]

/-- one step of the search for the next one -/
theorem next_step (l : List UInt8) (k : Nat) (c : UInt8) (h : l[k]? = some c) : (oneIdx (l.drop k) 0).map (k + ·) = if c = 49 then some k else (oneIdx (l.drop (k + 1)) 0).map (k + 1 + ·) := by
  obtain ⟨hk, rfl⟩ := List.getElem?_eq_some_iff.mp h
  rw [List.drop_eq_getElem_cons hk]
  by_cases hc : l[k] = 49
  · simp [oneIdx, hc]
  · simp only [oneIdx, hc, if_false, Option.map_map]
    congr 1
    funext x
    simp; omega

/-- one step of the search for the one with a number -/
theorem one_step (l : List UInt8) (k n : Nat) (c : UInt8) (h : l[k]? = some c) :
    (oneIdx (l.drop k) n).map (k + ·) = if c = 49 then (if n = 0 then some k else (oneIdx (l.drop (k + 1)) (n - 1)).map (k + 1 + ·)) else (oneIdx (l.drop (k + 1)) n).map (k + 1 + ·) := by
  obtain ⟨hk, rfl⟩ := List.getElem?_eq_some_iff.mp h
  rw [List.drop_eq_getElem_cons hk]
  by_cases hc : l[k] = 49
  · cases n with
    | zero => simp [oneIdx, hc]
    | succ m =>
      simp only [oneIdx, hc, if_true, Option.map_map, Nat.add_sub_cancel]
      rw [if_neg (by omega)]
      congr 1
      funext x
      simp; omega
  · simp only [oneIdx, hc, if_false, Option.map_map]
    congr 1
    funext x
    simp; omega

theorem val_lt (l : List UInt8) : val l < 2 ^ l.length := by
  induction l with
  | nil => simp [val]
  | cons c t ih => simp only [val, List.length_cons, Nat.pow_succ]; split <;> omega

theorem val_lt_of (l : List UInt8) (m : Nat) (h : l.length ≤ m) : val l < 2 ^ m := Nat.lt_of_lt_of_le (val_lt l) (Nat.pow_le_pow_right (by omega) h)

theorem val_zero (l : List UInt8) (h : val l = 0) : ones l = 0 := by
  induction l with
  | nil => rfl
  | cons c t ih =>
    simp only [val] at h
    by_cases hc : c = 49
    · simp [hc] at h
    · simp only [hc, if_false] at h
      simp only [ones, hc, if_false]
      have := ih (by omega)
      omega

theorem val_div (l : List UInt8) : val l / 2 = val (l.drop 1) := by
  cases l with
  | nil => rfl
  | cons c t => simp only [val, List.drop_succ_cons, List.drop_zero]; split <;> omega

theorem val_drop (l : List UInt8) (k : Nat) : val l / 2 ^ k = val (l.drop k) := by
  induction k generalizing l with
  | zero => simp
  | succ k ih => rw [Nat.pow_succ, Nat.mul_comm, ← Nat.div_div_eq_div_mul, val_div, ih, List.drop_drop, Nat.add_comm]

theorem ones_val_mod (l : List UInt8) : ones l = val l % 2 + ones (l.drop 1) := by
  cases l with
  | nil => rfl
  | cons c t => simp only [val, ones, List.drop_succ_cons, List.drop_zero]; split <;> omega

theorem val_mod_at (l : List UInt8) (k : Nat) : val (l.drop k) % 2 = if l[k]? = some 49 then 1 else 0 := by
  rcases Nat.lt_or_ge k l.length with hk | hk
  · rw [List.drop_eq_getElem_cons hk, List.getElem?_eq_getElem hk]
    simp only [val, Option.some.injEq]
    split <;> omega
  · rw [List.drop_eq_nil_of_le hk, List.getElem?_eq_none hk]; simp [val]

theorem val_append (a : List UInt8) (c : UInt8) : val (a ++ [c]) = val a + (if c = 49 then 1 else 0) * 2 ^ a.length := by
  induction a with
  | nil => simp [val]
  | cons d t ih => simp only [List.cons_append, val, ih, List.length_cons, Nat.pow_succ]; split <;> split <;> omega

/-- the bits of word j -/
def chunk (l : List UInt8) (j : Nat) : List UInt8 := (l.drop (64 * j)).take 64
def word (l : List UInt8) (j : Nat) : Nat := val (chunk l j)

theorem chunk_len (l : List UInt8) (j : Nat) : (chunk l j).length ≤ 64 := List.length_take_le _ _
theorem word_lt (l : List UInt8) (j : Nat) : word l j < 18446744073709551616 := val_lt_of _ 64 (chunk_len l j)
theorem word_nil (j : Nat) : word [] j = 0 := by simp [word, chunk, val]

theorem drop_chunk (l : List UInt8) (j : Nat) : l.drop (64 * j) = chunk l j ++ l.drop (64 * (j + 1)) := by
  unfold chunk
  conv => lhs; rw [cut (l.drop (64 * j)) 64]
  rw [List.drop_drop]
  congr 2

theorem chunk_snoc_other (l : List UInt8) (c : UInt8) (j : Nat) (h : j ≠ l.length / 64) : chunk (l ++ [c]) j = chunk l j := by
  unfold chunk
  rcases Nat.lt_or_ge l.length (64 * j) with hj | hj
  · rw [List.drop_eq_nil_of_le (by simp; omega), List.drop_eq_nil_of_le (by omega)]
  · rw [List.drop_append_of_le_length hj, List.take_append_of_le_length (by simp; omega)]

theorem chunk_snoc_same (l : List UInt8) (c : UInt8) : chunk (l ++ [c]) (l.length / 64) = chunk l (l.length / 64) ++ [c] ∧ (chunk l (l.length / 64)).length = l.length % 64 := by
  unfold chunk
  have h1 : 64 * (l.length / 64) ≤ l.length := by omega
  have h2 : (l.drop (64 * (l.length / 64))).length = l.length % 64 := by simp; omega
  rw [List.drop_append_of_le_length h1]
  rw [List.take_of_length_le (by simp only [List.length_append, h2, List.length_singleton]; omega), List.take_of_length_le (by omega)]
  exact ⟨rfl, h2⟩

/-- a bit more: the word that it belongs to gets it, the others stay -/
theorem word_snoc (l : List UInt8) (c : UInt8) (j : Nat) : word (l ++ [c]) j = if j = l.length / 64 then word l j ||| ((if c = 49 then 1 else 0) * 2 ^ (l.length % 64)) else word l j := by
  by_cases h : j = l.length / 64
  · subst h
    obtain ⟨h1, h2⟩ := chunk_snoc_same l c
    rw [if_pos rfl]
    unfold word
    rw [h1, val_append, h2]
    have hv := val_lt_of (chunk l (l.length / 64)) (l.length % 64) (by omega)
    rw [Nat.or_comm]
    rw [nat_join (l.length % 64) _ _ (Nat.mul_mod_left _ _) hv]
    omega
  · rw [if_neg h]
    unfold word
    rw [chunk_snoc_other l c j h]

end Go.Proofs.Ytjankanjaljehaa.M
