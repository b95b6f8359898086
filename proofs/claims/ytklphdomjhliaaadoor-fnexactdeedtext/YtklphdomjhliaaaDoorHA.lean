/-
  The mathematics of deeds' texts: how a deed is written, and read.
-/
import Derived.Test.YtklphdomjhliaaaDoorB1
namespace Go.Proofs.YtklphdomjhliaaaDoor.B
open R K

structure De where
  kind : Int
  key : ByteArray
  num : Int
theorem De.ext' {a b : De} (h1 : a.kind = b.kind) (h2 : a.key = b.key) (h3 : a.num = b.num) : a = b := by
  cases a; cases b; simp_all
/-- the word of a kind -/
def nmL (k : Int) : List UInt8 :=
  if k = 1 then [112, 117, 116] else if k = 2 then [116, 97, 107, 101] else if k = 3 then [104, 111, 108, 100] else
  if k = 4 then [102, 114, 101, 101] else if k = 5 then [100, 111, 119, 110] else if k = 6 then [106, 111, 105, 110] else []
def hkB (k : Int) : Bool := decide (k = 1) || decide (k = 2)
def hnB (k : Int) : Bool := decide (k = 1) || (decide (k = 4) || decide (k = 6))
def kinB (k : Int) : Bool := decide (1 ≤ k) && decide (k ≤ 6)
/-- whether all that a deed has can be written -/
def fitB (hk hn : Bool) (key : ByteArray) (num : Int) : Bool :=
  (eqs key ByteArray.empty || (hk && keyB key)) && (decide (num = 0) || (hn && (decide (0 < num) && decide (num ≤ 999))))
def deedB (d : De) : Bool := kinB d.kind && fitB (hkB d.kind) (hnB d.kind) d.key d.num
def keyP (hk : Bool) (key : ByteArray) : List UInt8 := if hk = true then 32 :: 46 :: key.data.toList else []
def numP (hn : Bool) (num : Int) : List UInt8 := if hn = true then 32 :: decL num.toNat else []
def deedL (d : De) : List UInt8 := if deedB d = true then nmL d.kind ++ (keyP (hkB d.kind) d.key ++ numP (hnB d.kind) d.num) else []
theorem kin_cases {k : Int} (h : kinB k = true) : k = 1 ∨ k = 2 ∨ k = 3 ∨ k = 4 ∨ k = 5 ∨ k = 6 := by
  unfold kinB at h; simp at h; omega
theorem kin_not {k : Int} (h : kinB k = false) : nmL k = [] ∧ hkB k = false ∧ hnB k = false := by
  have : ¬ (1 ≤ k ∧ k ≤ 6) := by unfold kinB at h; simp at h; omega
  unfold nmL hkB hnB
  refine ⟨?_, ?_, ?_⟩
  · rw [if_neg (by omega), if_neg (by omega), if_neg (by omega), if_neg (by omega), if_neg (by omega), if_neg (by omega)]
  · simp; omega
  · simp; omega
theorem nm_ne {k : Int} (h : kinB k = true) : nmL k ≠ [] := by
  rcases kin_cases h with rfl | rfl | rfl | rfl | rfl | rfl <;> decide
theorem nm_no {k : Int} : (32 : UInt8) ∉ nmL k := by
  by_cases h : kinB k = true
  · rcases kin_cases h with rfl | rfl | rfl | rfl | rfl | rfl <;> decide
  · rw [(kin_not (by simpa using h)).1]; simp
theorem nm_len (k : Int) : (nmL k).length ≤ 4 := by
  by_cases h : kinB k = true
  · rcases kin_cases h with rfl | rfl | rfl | rfl | rfl | rfl <;> decide
  · rw [(kin_not (by simpa using h)).1]; simp
theorem key_empty : keyB ByteArray.empty = true := by decide
theorem fit_key {hk hn : Bool} {key : ByteArray} {num : Int} (h : fitB hk hn key num = true) : keyB key = true ∧ (hk = false → key = ByteArray.empty) := by
  unfold fitB at h
  rw [Bool.and_eq_true] at h
  rcases Bool.or_eq_true_iff.mp h.1 with h1 | h1
  · rw [eqs_iff.mp h1]; exact ⟨key_empty, fun _ => rfl⟩
  · rw [Bool.and_eq_true] at h1; exact ⟨h1.2, fun e => by rw [e] at h1; exact absurd h1.1 (by decide)⟩
theorem fit_num {hk hn : Bool} {key : ByteArray} {num : Int} (h : fitB hk hn key num = true) : 0 ≤ num ∧ num ≤ 999 ∧ (hn = false → num = 0) := by
  unfold fitB at h
  rw [Bool.and_eq_true] at h
  rcases Bool.or_eq_true_iff.mp h.2 with h1 | h1
  · have := of_decide_eq_true h1; exact ⟨by omega, by omega, fun _ => this⟩
  · simp only [Bool.and_eq_true, decide_eq_true_eq] at h1; exact ⟨by omega, by omega, fun e => by rw [e] at h1; exact absurd h1.1 (by decide)⟩
theorem fit_mk {hk hn : Bool} {key : ByteArray} {num : Int} (h1 : keyB key = true) (h2 : hk = false → key = ByteArray.empty) (h3 : 0 ≤ num) (h4 : num ≤ 999) (h5 : hn = false → num = 0) : fitB hk hn key num = true := by
  unfold fitB
  rw [Bool.and_eq_true]
  constructor
  · cases hk with
    | false => rw [h2 rfl, eqs_self, Bool.true_or]
    | true => rw [h1]; simp
  · cases hn with
    | false => rw [h5 rfl]; simp
    | true => simp; omega
theorem deed_ne {d : De} (h : deedL d ≠ []) : kinB d.kind = true ∧ fitB (hkB d.kind) (hnB d.kind) d.key d.num = true ∧ deedL d = nmL d.kind ++ (keyP (hkB d.kind) d.key ++ numP (hnB d.kind) d.num) := by
  unfold deedL at *
  split at h
  · rename_i h1
    rw [if_pos h1]
    unfold deedB at h1
    rw [Bool.and_eq_true] at h1
    exact ⟨h1.1, h1.2, rfl⟩
  · exact absurd rfl h
theorem key_no32 {key : ByteArray} (h : keyB key = true) {c : UInt8} (hc : letterB c = false) : c ∉ key.data.toList := by
  unfold keyB at h
  rw [Bool.and_eq_true, List.all_eq_true] at h
  intro hm
  have := h.2 c hm
  rw [hc] at this; cases this
theorem deed_len (d : De) : (deedL d).length ≤ 15 := by
  unfold deedL
  split
  · rename_i h1
    unfold deedB at h1
    rw [Bool.and_eq_true] at h1
    have a := nm_len d.kind
    have b := fit_key h1.2
    have c := fit_num h1.2
    have b5 : d.key.size ≤ 5 := by have := b.1; unfold keyB at this; rw [Bool.and_eq_true] at this; exact of_decide_eq_true this.1
    have c3 := dec_len3 (u := d.num.toNat) (by omega)
    have kl : d.key.data.toList.length = d.key.size := by simp
    rw [List.length_append, List.length_append]
    unfold keyP numP
    split <;> split <;> simp only [List.length_cons, List.length_nil] <;> omega
  · simp

/-! reading -/
/-- the kind of a word -/
def kindL (s : List UInt8) : Int :=
  if s = [112, 117, 116] then 1 else if s = [116, 97, 107, 101] then 2 else if s = [104, 111, 108, 100] then 3 else
  if s = [102, 114, 101, 101] then 4 else if s = [100, 111, 119, 110] then 5 else if s = [106, 111, 105, 110] then 6 else 0
theorem kind_nm {k : Int} (h : kinB k = true) : kindL (nmL k) = k := by
  rcases kin_cases h with rfl | rfl | rfl | rfl | rfl | rfl <;> decide
theorem kind_in (s : List UInt8) : kindL s = 0 ∨ kinB (kindL s) = true := by
  unfold kindL; repeat' split
  all_goals first | (right; decide) | (left; rfl)
/-- a key's word, as the model reads it -/
def keyM (s : List UInt8) : ByteArray := match s with | c :: r => if c = 46 then ofL r else ofL [63] | [] => ofL [63]
/-- words read as a deed, as the model reads them -/
def parM (ws : List (List UInt8)) : De :=
  let k := kindL (headL ws)
  ⟨k, if 1 < ws.length ∧ (k = 1 ∨ k = 2) then keyM (ws.getD 1 []) else ByteArray.empty, if 1 < ws.length ∧ k ≠ 2 then ((numL 0 (ws.getLastD []) : Nat) : Int) else 0⟩
/-- the words of a deed -/
theorem split_deed {d : De} (h : deedL d ≠ []) : splitL 32 (deedL d) = nmL d.kind :: ((if hkB d.kind = true then [46 :: d.key.data.toList] else []) ++ (if hnB d.kind = true then [decL d.num.toNat] else [])) := by
  obtain ⟨h1, h2, h3⟩ := deed_ne h
  have hk := (fit_key h2).1
  have n1 : (32 : UInt8) ∉ (46 :: d.key.data.toList : List UInt8) := by
    intro hm
    rcases List.mem_cons.mp hm with hm | hm
    · cases hm
    · exact key_no32 hk (by decide) hm
  have n2 : (32 : UInt8) ∉ decL d.num.toNat := dec_no _ (by decide)
  rw [h3]
  unfold splitL keyP numP
  cases hkB d.kind <;> cases hnB d.kind <;> simp only [if_true, if_false, Bool.false_eq_true, List.nil_append, List.append_nil, List.cons_append]
  · rw [split_no 32 _ _ nm_no]; rfl
  · rw [split_at 32 _ _ _ nm_no, split_no 32 _ _ n2]; rfl
  · rw [split_at 32 _ _ _ nm_no, split_no 32 _ _ n1]; rfl
  · rw [split_at 32 _ _ _ nm_no, show (46 :: (d.key.data.toList ++ 32 :: decL d.num.toNat) : List UInt8) = (46 :: d.key.data.toList) ++ 32 :: decL d.num.toNat by simp, split_at 32 _ _ _ n1, split_no 32 _ _ n2]; rfl
theorem par_deed {d : De} (h : deedL d ≠ []) : parM (splitL 32 (deedL d)) = d := by
  obtain ⟨h1, h2, _⟩ := deed_ne h
  have hk := fit_key h2
  have hn := fit_num h2
  have hm : ((numL 0 (decL d.num.toNat) : Nat) : Int) = d.num := by rw [num_dec _ (by omega)]; omega
  have hd := of_data d.key
  rw [split_deed h]
  obtain ⟨k, key, num⟩ := d
  unfold parM
  have hh : ∀ r, headL (nmL k :: r) = nmL k := fun _ => rfl
  simp only at *
  rw [hh, kind_nm h1]
  rcases kin_cases h1 with rfl | rfl | rfl | rfl | rfl | rfl
  · exact De.ext' rfl (by simp [hkB, hnB, keyM]; exact hd) (by simp [hkB, hnB]; exact hm)
  · exact De.ext' rfl (by simp [hkB, hnB, keyM]; exact hd) (by simp [hkB, hnB]; exact (hn.2.2 rfl).symm)
  · exact De.ext' rfl (by simp [hkB, hnB]; exact (hk.2 rfl).symm) (by simp [hkB, hnB]; exact (hn.2.2 rfl).symm)
  · exact De.ext' rfl (by simp [hkB, hnB]; exact (hk.2 rfl).symm) (by simp [hkB, hnB]; exact hm)
  · exact De.ext' rfl (by simp [hkB, hnB]; exact (hk.2 rfl).symm) (by simp [hkB, hnB]; exact (hn.2.2 rfl).symm)
  · exact De.ext' rfl (by simp [hkB, hnB]; exact (hk.2 rfl).symm) (by simp [hkB, hnB]; exact hm)
/-- what is read of a text, if it is one of a deed -/
def readD (t : List UInt8) : Option De := if t ≠ [] ∧ deedL (parM (splitL 32 t)) = t then some (parM (splitL 32 t)) else none
theorem readD_some {t : List UInt8} {d : De} (h : readD t = some d) : t ≠ [] ∧ deedL d = t := by
  unfold readD at h
  split at h
  · rename_i h1; injection h with e; subst e; exact h1
  · cases h
theorem readD_of {t : List UInt8} {d : De} (hne : t ≠ []) (h : deedL d = t) : readD t = some d := by
  subst h
  unfold readD
  rw [par_deed hne, if_pos ⟨hne, rfl⟩]
theorem readD_long {t : List UInt8} (h : 40 < t.length) : readD t = none := by
  cases hr : readD t with
  | none => rfl
  | some d =>
    have := (readD_some hr).2
    have := deed_len d
    rw [‹deedL d = t›] at this
    omega
theorem readD_none {t : List UInt8} (h : ∀ d, deedL d ≠ t) : readD t = none := by
  cases hr : readD t with
  | none => rfl
  | some d => exact absurd (readD_some hr).2 (h d)
/-- what belongs to a word, as the program reads it: a number -/
def wordsP (k : Int) (r : List (List UInt8)) (num : List UInt8 → Option Int) : Option De :=
  match hkB k, r with
  | true, [] => none
  | true, w1 :: r1 => (match hnB k, r1 with
    | true, [] => none
    | true, w2 :: _ => (num w2).map fun n => ⟨k, match w1 with | c :: x => if c = 46 then ofL x else ofL [45] | [] => ofL [45], n⟩
    | false, _ => some ⟨k, match w1 with | c :: x => if c = 46 then ofL x else ofL [45] | [] => ofL [45], 0⟩)
  | false, r => (match hnB k, r with
    | true, [] => none
    | true, w2 :: _ => (num w2).map fun n => ⟨k, ByteArray.empty, n⟩
    | false, _ => some ⟨k, ByteArray.empty, 0⟩)
end Go.Proofs.YtklphdomjhliaaaDoor.B
