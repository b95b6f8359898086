/-
  The mathematics of blocks: the sum of a text, the texts of entries and of runs, how a text is split, and what of it is read.
-/
import Derived.Test.YtklphdomjhliaaaDoorRA
import Derived.Lib.ItoaNum
namespace Go.Proofs.YtklphdomjhliaaaDoor.B
open R K

/-- bytes as a string -/
def ofL (l : List UInt8) : ByteArray := ⟨l.toArray⟩
theorem ofL_data (l : List UInt8) : (ofL l).data.toList = l := by simp [ofL]
theorem ofL_size (l : List UInt8) : (ofL l).size = l.length := by simp [ofL, ByteArray.size]
theorem of_data (s : ByteArray) : ofL s.data.toList = s := by cases s; simp [ofL]
theorem ofL_inj {a b : List UInt8} (h : ofL a = ofL b) : a = b := by rw [← ofL_data a, h, ofL_data]
theorem ofL_app (a b : List UInt8) : ofL (a ++ b) = ofL a ++ ofL b := by
  apply ByteArray.ext; simp [ofL]
theorem ofL_nil : ofL [] = ByteArray.empty := rfl

/-! the sum -/
def stepS (n : Nat) (b : UInt8) : Nat := (n * 31 + b.toNat + 1) % 9973
def sumB (l : List UInt8) : Nat := l.foldl stepS 7
theorem step_lt (n : Nat) (b : UInt8) : stepS n b < 9973 := Nat.mod_lt _ (by decide)
theorem sum_snoc (l : List UInt8) (b : UInt8) : sumB (l ++ [b]) = stepS (sumB l) b := by simp [sumB]
theorem fold_lt : ∀ (l : List UInt8) (n : Nat), n < 9973 → l.foldl stepS n < 9973
  | [], _, h => h
  | b :: r, n, _ => fold_lt r (stepS n b) (step_lt n b)
theorem sum_lt (l : List UInt8) : sumB l < 9973 := fold_lt l 7 (by decide)
theorem step_inj {a b : Nat} {c : UInt8} (ha : a < 9973) (hb : b < 9973) (h : stepS a c = stepS b c) : a = b := by
  unfold stepS at h; omega
theorem step_byte {n : Nat} {a b : UInt8} (h : stepS n a = stepS n b) : a = b := by
  have h1 := a.toNat_lt
  have h2 := b.toNat_lt
  unfold stepS at h
  exact UInt8.toNat_inj.mp (by omega)
theorem fold_inj : ∀ (l : List UInt8) {a b : Nat}, a < 9973 → b < 9973 → l.foldl stepS a = l.foldl stepS b → a = b
  | [], _, _, _, _, h => h
  | c :: r, a, b, ha, hb, h => step_inj ha hb (fold_inj r (step_lt a c) (step_lt b c) h)
theorem sum_other {p s : List UInt8} {a b : UInt8} (h : sumB (p ++ a :: s) = sumB (p ++ b :: s)) : a = b := by
  unfold sumB at h
  rw [List.foldl_append, List.foldl_append, List.foldl_cons, List.foldl_cons] at h
  exact step_byte (fold_inj s (step_lt _ _) (step_lt _ _) h)

/-! decimals -/
abbrev decL (n : Nat) : List UInt8 := Lib.decDigits n
def digB (c : UInt8) : Bool := decide (48 ≤ c.toNat) && decide (c.toNat ≤ 57)
theorem dig_of (n : Nat) (h : n < 10) : digB (UInt8.ofNat (48 + n)) = true ∧ (UInt8.ofNat (48 + n)).toNat = 48 + n := by
  have e : (UInt8.ofNat (48 + n)).toNat = 48 + n := by
    rw [UInt8.toNat_ofNat']; omega
  refine ⟨?_, e⟩
  unfold digB; rw [e]; simp; omega
theorem dec_small {u : Nat} (h : u < 10) : decL u = [UInt8.ofNat (48 + u)] := by rw [decL, Lib.decDigits, dif_pos h]
theorem dec_big {u : Nat} (h : ¬ u < 10) : decL u = decL (u / 10) ++ [UInt8.ofNat (48 + u % 10)] := by rw [decL, Lib.decDigits, dif_neg h]
theorem dec_ne (u : Nat) : decL u ≠ [] := by
  by_cases h : u < 10
  · rw [dec_small h]; simp
  · rw [dec_big h]; simp
theorem dec_dig (u : Nat) : ∀ c ∈ decL u, digB c = true := by
  induction u using Nat.strongRecOn with
  | _ u ih =>
    by_cases h : u < 10
    · rw [dec_small h]; intro c hc; rw [List.mem_singleton.mp hc]; exact (dig_of u h).1
    · rw [dec_big h]
      intro c hc
      rcases List.mem_append.mp hc with hc | hc
      · exact ih (u / 10) (by omega) c hc
      · rw [List.mem_singleton.mp hc]; exact (dig_of _ (by omega)).1
theorem dec_len (u k : Nat) (h : u < 10 ^ (k + 1)) : (decL u).length ≤ k + 1 := by
  induction k generalizing u with
  | zero => rw [dec_small (by simpa using h)]; simp
  | succ k ih =>
    by_cases h1 : u < 10
    · rw [dec_small h1]; simp
    · rw [dec_big h1, List.length_append]
      have := ih (u / 10) (by rw [Nat.pow_succ] at h; omega)
      simp; omega
theorem dec_len3 {u : Nat} (h : u < 1000) : (decL u).length ≤ 3 := dec_len u 2 (by omega)
theorem dec_len4 {u : Nat} (h : u < 10000) : (decL u).length ≤ 4 := dec_len u 3 (by omega)
/-- a number is read, no further than it is small -/
def numL : Nat → List UInt8 → Nat
  | n, [] => n
  | n, c :: r => if n < 100000 then numL (if digB c = true then n * 10 + (c.toNat - 48) else n) r else n
theorem num_big (l : List UInt8) (n : Nat) (h : ¬ n < 100000) : numL n l = n := by
  cases l with
  | nil => rfl
  | cons c r => rw [numL, if_neg h]
theorem num_app : ∀ (a b : List UInt8) (n : Nat), numL n (a ++ b) = numL (numL n a) b
  | [], _, _ => rfl
  | c :: r, b, n => by
    rw [List.cons_append, numL, numL]
    split
    · exact num_app r b _
    · rename_i h; rw [num_big b n h]
theorem num_dec (u : Nat) (h : u < 100000) : numL 0 (decL u) = u := by
  induction u using Nat.strongRecOn with
  | _ u ih =>
    by_cases h1 : u < 10
    · have := dig_of u h1
      rw [dec_small h1, numL, if_pos (by decide), if_pos this.1, this.2, numL]; omega
    · have := dig_of (u % 10) (by omega)
      rw [dec_big h1, num_app, ih (u / 10) (by omega) (by omega), numL, if_pos (by omega), if_pos this.1, this.2, numL]; omega
theorem num_lt : ∀ (l : List UInt8) (n : Nat), n < 1000000 → numL n l < 1000000
  | [], _, h => h
  | c :: r, n, h => by
    rw [numL]
    split
    · rename_i h1
      apply num_lt r
      split
      · rename_i h2
        unfold digB at h2
        have h3 : c.toNat ≤ 57 := of_decide_eq_true (Bool.and_eq_true_iff.mp h2).2
        omega
      · omega
    · exact h
theorem dec_inj {a b : Nat} (ha : a < 100000) (hb : b < 100000) (h : decL a = decL b) : a = b := by
  rw [← num_dec a ha, h, num_dec b hb]

/-! texts -/
/-- an entry without the sign at its end -/
def bodyL (e : En) : List UInt8 := e.key.data.toList ++ ((if e.gone = true then [] else 61 :: decL e.val.toNat) ++ 45 :: decL e.time.toNat)
def enL (e : En) : List UInt8 := bodyL e ++ [59]
def runL (l : List En) : List UInt8 := l.flatMap enL
def sealL (l : List UInt8) : List UInt8 := l ++ 33 :: decL (sumB l)
def textL (l : List En) : List UInt8 := sealL (runL l)
/-- what BlockText tells -/
def blockL (l : List En) : List UInt8 := if runB l = true then (if (textL l).length ≤ 400 then textL l else []) else []
theorem run_cons (e : En) (r : List En) : runL (e :: r) = bodyL e ++ 59 :: runL r := by
  unfold runL; rw [List.flatMap_cons]; unfold enL; simp
theorem run_app (a b : List En) : runL (a ++ b) = runL a ++ runL b := by unfold runL; rw [List.flatMap_append]
theorem seal_ne (l : List UInt8) : sealL l ≠ [] := by unfold sealL; simp
theorem block_ne {l : List En} (h : blockL l ≠ []) : runB l = true ∧ (textL l).length ≤ 400 ∧ blockL l = textL l := by
  unfold blockL at *
  split at h
  · rename_i h1
    split at h
    · rename_i h2
      rw [if_pos h1, if_pos h2]; exact ⟨h1, h2, rfl⟩
    · exact absurd rfl h
  · exact absurd rfl h
theorem block_len (l : List En) : (blockL l).length ≤ 400 := by
  unfold blockL
  split
  · split
    · assumption
    · simp
  · simp

theorem okE_all {e : En} (h : okE e = true) : e.key.size ≤ 5 ∧ (∀ c ∈ e.key.data.toList, letterB c = true) ∧ 0 ≤ e.val ∧ e.val ≤ 99 ∧ (e.gone = true → e.val = 0) ∧ 1 ≤ e.time ∧ e.time ≤ 999 := by
  unfold okE keyB at h
  simp only [Bool.and_eq_true, decide_eq_true_eq, Bool.or_eq_true, Bool.not_eq_true', List.all_eq_true] at h
  obtain ⟨⟨h1, h2⟩, ⟨h3, h4⟩, h5, h6, h7⟩ := h
  refine ⟨h1, h2, h3, h4, fun hg => ?_, h6, h7⟩
  rcases h5 with h5 | h5
  · rw [hg] at h5; cases h5
  · exact h5
/-- signs in an entry's text -/
def inText (c : UInt8) : Bool := letterB c || digB c || c == 61 || c == 45 || c == 59
theorem let_ne {c d : UInt8} (h : letterB c = true) (hd : letterB d = false) : c ≠ d := fun e => by rw [e, hd] at h; cases h
theorem dig_ne {c d : UInt8} (h : digB c = true) (hd : digB d = false) : c ≠ d := fun e => by rw [e, hd] at h; cases h
theorem key_no {e : En} (h : okE e = true) {d : UInt8} (hd : letterB d = false) : d ∉ e.key.data.toList := fun hm => let_ne ((okE_all h).2.1 d hm) hd rfl
theorem dec_no (u : Nat) {d : UInt8} (hd : digB d = false) : d ∉ decL u := fun hm => dig_ne (dec_dig u d hm) hd rfl
theorem body_no {e : En} (h : okE e = true) {d : UInt8} (h1 : letterB d = false) (h2 : digB d = false) (h3 : d ≠ 61) (h4 : d ≠ 45) : d ∉ bodyL e := by
  intro hm
  unfold bodyL at hm
  rcases List.mem_append.mp hm with hm | hm
  · exact key_no h h1 hm
  · rcases List.mem_append.mp hm with hm | hm
    · split at hm
      · cases hm
      · rcases List.mem_cons.mp hm with hm | hm
        · exact h3 hm
        · exact dec_no _ h2 hm
    · rcases List.mem_cons.mp hm with hm | hm
      · exact h4 hm
      · exact dec_no _ h2 hm
theorem run_no : ∀ {l : List En}, (∀ e ∈ l, okE e = true) → (33 : UInt8) ∉ runL l
  | [], _ => by simp [runL]
  | e :: r, h => by
    rw [run_cons]
    intro hm
    rcases List.mem_append.mp hm with hm | hm
    · exact body_no (h e (List.mem_cons_self ..)) (by decide) (by decide) (by decide) (by decide) hm
    · rcases List.mem_cons.mp hm with hm | hm
      · cases hm
      · exact run_no (fun x hx => h x (List.mem_cons_of_mem _ hx)) hm
theorem body_len {e : En} (h : okE e = true) : (bodyL e).length ≤ 12 := by
  obtain ⟨h1, _, h3, h4, _, h6, h7⟩ := okE_all h
  have a := dec_len3 (u := e.val.toNat) (by omega)
  have b := dec_len3 (u := e.time.toNat) (by omega)
  unfold bodyL
  rw [List.length_append, List.length_append, show e.key.data.toList.length = e.key.size by simp, List.length_cons]
  have a2 : (decL e.val.toNat).length ≤ 2 := dec_len _ 1 (by omega)
  split
  · simp; omega
  · rw [List.length_cons]; omega
theorem run_leng : ∀ {l : List En}, (∀ e ∈ l, okE e = true) → (runL l).length ≤ 13 * l.length
  | [], _ => by simp [runL]
  | e :: r, h => by
    rw [run_cons, List.length_append, List.length_cons, List.length_cons]
    have a := body_len (h e (List.mem_cons_self ..))
    have b := run_leng (fun x hx => h x (List.mem_cons_of_mem _ hx))
    omega

/-! how a text is split -/
def splitGo (c : UInt8) : List UInt8 → List UInt8 → List (List UInt8)
  | cur, [] => [cur]
  | cur, x :: r => if x = c then cur :: splitGo c [] r else splitGo c (cur ++ [x]) r
def splitL (c : UInt8) (l : List UInt8) : List (List UInt8) := splitGo c [] l
theorem split_no (c : UInt8) : ∀ (a cur : List UInt8), c ∉ a → splitGo c cur a = [cur ++ a]
  | [], cur, _ => by simp [splitGo]
  | x :: r, cur, h => by
    rw [splitGo, if_neg (fun e => h (by rw [e]; exact List.mem_cons_self ..)), split_no c r _ (fun hm => h (List.mem_cons_of_mem _ hm))]
    simp
theorem split_at (c : UInt8) : ∀ (a b cur : List UInt8), c ∉ a → splitGo c cur (a ++ c :: b) = (cur ++ a) :: splitGo c [] b
  | [], b, cur, _ => by simp [splitGo]
  | x :: r, b, cur, h => by
    rw [List.cons_append, splitGo, if_neg (fun e => h (by rw [e]; exact List.mem_cons_self ..)), split_at c r b _ (fun hm => h (List.mem_cons_of_mem _ hm))]
    simp
theorem split_ne (c : UInt8) : ∀ (l cur : List UInt8), splitGo c cur l ≠ []
  | [], _ => by simp [splitGo]
  | x :: r, cur => by
    rw [splitGo]; split
    · simp
    · exact split_ne c r _
/-- an entry is read -/
def hearL (s : List UInt8) : En :=
  match splitL 45 s with
  | [a, b] => (match splitL 61 a with
    | [k, v] => ⟨ofL k, (numL 0 v : Nat), false, (numL 0 b : Nat)⟩
    | _ => ⟨ofL a, 0, true, (numL 0 b : Nat)⟩)
  | _ => ⟨ByteArray.empty, 0, false, 0⟩
theorem hear_body {e : En} (h : okE e = true) : hearL (bodyL e) = e := by
  obtain ⟨h1, h2, h3, h4, h5, h6, h7⟩ := okE_all h
  have hk := of_data e.key
  have hv : ((numL 0 (decL e.val.toNat) : Nat) : Int) = e.val := by rw [num_dec _ (by omega)]; omega
  have ht : ((numL 0 (decL e.time.toNat) : Nat) : Int) = e.time := by rw [num_dec _ (by omega)]; omega
  unfold hearL bodyL splitL
  cases hg : e.gone with
  | true =>
    simp only [if_true, List.nil_append]
    rw [split_at 45 _ _ _ (key_no h (by decide)), split_no 45 _ _ (dec_no _ (by decide))]
    simp only [List.nil_append]
    rw [split_no 61 _ _ (key_no h (by decide))]
    exact En.ext' hk (h5 hg).symm hg.symm ht
  | false =>
    simp only [Bool.false_eq_true, if_false]
    have n45 : (45 : UInt8) ∉ e.key.data.toList ++ 61 :: decL e.val.toNat := by
      intro hm
      rcases List.mem_append.mp hm with hm | hm
      · exact key_no h (by decide) hm
      · rcases List.mem_cons.mp hm with hm | hm
        · cases hm
        · exact dec_no _ (by decide) hm
    rw [show e.key.data.toList ++ (61 :: decL e.val.toNat ++ 45 :: decL e.time.toNat) = (e.key.data.toList ++ 61 :: decL e.val.toNat) ++ 45 :: decL e.time.toNat by simp]
    rw [split_at 45 _ _ _ n45, split_no 45 _ _ (dec_no _ (by decide))]
    simp only [List.nil_append]
    rw [split_at 61 _ _ _ (key_no h (by decide)), split_no 61 _ _ (dec_no _ (by decide))]
    simp only [List.nil_append]
    exact En.ext' hk hv hg.symm ht
def headL (l : List (List UInt8)) : List UInt8 := match l with | a :: _ => a | [] => []
/-- entries are read -/
def parseL (t : List UInt8) : List En := (splitL 59 (headL (splitL 33 t))).dropLast.map hearL
theorem split_run : ∀ {l : List En}, (∀ e ∈ l, okE e = true) → splitL 59 (runL l) = l.map bodyL ++ [[]]
  | [], _ => rfl
  | e :: r, h => by
    unfold splitL
    rw [run_cons, split_at 59 _ _ _ (body_no (h e (List.mem_cons_self ..)) (by decide) (by decide) (by decide) (by decide))]
    have := split_run (fun x hx => h x (List.mem_cons_of_mem _ hx))
    unfold splitL at this
    rw [this]; simp
theorem parse_text {l : List En} (h : ∀ e ∈ l, okE e = true) : parseL (textL l) = l := by
  unfold parseL textL sealL
  have e1 : splitL 33 (runL l ++ 33 :: decL (sumB (runL l))) = runL l :: splitGo 33 [] (decL (sumB (runL l))) := by
    unfold splitL; rw [split_at 33 _ _ _ (run_no h)]; simp
  rw [e1]
  simp only [headL]
  rw [split_run h, List.dropLast_concat, List.map_map]
  have : ∀ e ∈ l, (hearL ∘ bodyL) e = id e := fun e he => hear_body (h e he)
  rw [List.map_congr_left this, List.map_id]
theorem run_all {l : List En} (h : runB l = true) : ∀ e ∈ l, okE e = true := (run_iff.mp h).2.1

/-- what BlockRead tells -/
def readL (t : List UInt8) : Option (List En) := if t ≠ [] ∧ blockL (parseL t) = t then some (parseL t) else none
theorem read_some {t : List UInt8} {l : List En} : readL t = some l ↔ t ≠ [] ∧ blockL l = t := by
  unfold readL
  constructor
  · intro h
    split at h
    · rename_i h1
      injection h with h; subst h; exact h1
    · cases h
  · rintro ⟨h1, h2⟩
    have h3 := block_ne (l := l) (by rw [h2]; exact h1)
    have h4 : parseL t = l := by rw [← h2, h3.2.2]; exact parse_text (run_all h3.1)
    rw [if_pos ⟨h1, by rw [h4]; exact h2⟩, h4]
theorem read_none {t : List UInt8} : readL t = none ↔ ∀ l, ¬ (t ≠ [] ∧ blockL l = t) := by
  constructor
  · intro h l hl
    rw [read_some.mpr hl] at h; cases h
  · intro h
    cases e : readL t with
    | none => rfl
    | some l => exact absurd (read_some.mp e) (h l)
theorem read_block {l : List En} (h : blockL l ≠ []) : readL (blockL l) = some l := read_some.mpr ⟨h, rfl⟩

/-! torn, and changed -/
theorem seal_parts {p q : List UInt8} {n m : Nat} (hp : (33 : UInt8) ∉ p) (hq : (33 : UInt8) ∉ q) (h : p ++ 33 :: decL n = q ++ 33 :: decL m) : p = q ∧ decL n = decL m := by
  have e1 := split_at 33 p (decL n) [] hp
  have e2 := split_at 33 q (decL m) [] hq
  rw [h, e2] at e1
  have := (List.cons.inj e1).1
  simp only [List.nil_append] at this
  subst this
  exact ⟨rfl, (List.cons.inj (List.append_cancel_left h)).2⟩
theorem torn {l : List En} {k : Nat} (hl : blockL l ≠ []) (hk : k < (blockL l).length) : readL ((blockL l).take k) = none := by
  rw [read_none]
  rintro m ⟨h1, h2⟩
  have hb := block_ne hl
  have hm := block_ne (l := m) (by rw [h2]; exact h1)
  rw [hm.2.2, hb.2.2] at h2
  rw [hb.2.2] at hk
  have hd : textL l = textL m ++ (textL l).drop k := by rw [h2, List.take_append_drop]
  have hne : (textL l).drop k ≠ [] := by
    intro e
    have := congrArg List.length e
    rw [List.length_drop] at this
    simp at this; omega
  unfold textL sealL at hd
  have e1 := split_at 33 (runL l) (decL (sumB (runL l))) [] (run_no (run_all hb.1))
  have e2 := split_at 33 (runL m) (decL (sumB (runL m)) ++ (runL l ++ 33 :: decL (sumB (runL l))).drop k) [] (run_no (run_all hm.1))
  rw [show runL m ++ 33 :: (decL (sumB (runL m)) ++ (runL l ++ 33 :: decL (sumB (runL l))).drop k) = (runL m ++ 33 :: decL (sumB (runL m))) ++ (runL l ++ 33 :: decL (sumB (runL l))).drop k by simp, ← hd, e1] at e2
  have e3 := (List.cons.inj e2).1
  simp only [List.nil_append] at e3
  rw [e3] at hd
  have e4 : runL m ++ 33 :: decL (sumB (runL m)) = (runL m ++ 33 :: decL (sumB (runL m))) ++ (runL m ++ 33 :: decL (sumB (runL m))).drop k := hd
  have e6 : (runL m ++ 33 :: decL (sumB (runL m))).drop k = [] := List.append_right_eq_self.mp e4.symm
  apply hne
  unfold textL sealL
  rw [e3]
  exact e6
theorem changed {l : List En} {p s : List UInt8} {a b : UInt8} (hl : blockL l = p ++ a :: s) (hb : b ≠ 33) (hd : digB b = false) (hab : a ≠ b) : readL (p ++ b :: s) = none := by
  rw [read_none]
  rintro m ⟨h1, h2⟩
  have hbl := block_ne (l := l) (by rw [hl]; simp)
  have hm := block_ne (l := m) (by rw [h2]; exact h1)
  rw [hm.2.2] at h2
  rw [hbl.2.2] at hl
  have nl := run_no (run_all hbl.1)
  have nm := run_no (run_all hm.1)
  unfold textL sealL at h2 hl
  generalize runL l = x at *
  generalize runL m = y at *
  -- where the place lies in the first text
  rcases List.append_eq_append_iff.mp hl with ⟨t, hp, ht⟩ | ⟨t, hx, ht⟩
  · -- behind the text: p = x ++ t
    subst hp
    cases t with
    | nil =>
      -- the sign itself
      simp only [List.nil_append] at ht
      have := (List.cons.inj ht).2
      subst this
      rw [List.append_nil] at h2
      have hin : (33 : UInt8) ∈ x ++ b :: decL (sumB x) := by rw [← h2]; simp
      rcases List.mem_append.mp hin with h | h
      · exact nl h
      · rcases List.mem_cons.mp h with h | h
        · exact hb h.symm
        · exact dec_no _ (by decide) h
    | cons c t =>
      rw [List.cons_append] at ht
      obtain ⟨hc, ht⟩ := List.cons.inj ht
      subst hc
      have e1 := split_at 33 y (decL (sumB y)) [] nm
      have e2 := split_at 33 x (t ++ b :: s) [] nl
      rw [h2, show x ++ 33 :: t ++ b :: s = x ++ 33 :: (t ++ b :: s) by simp, e2] at e1
      have e3 := (List.cons.inj e1).1
      simp only [List.nil_append] at e3
      subst e3
      rw [show x ++ 33 :: t ++ b :: s = x ++ 33 :: (t ++ b :: s) by simp] at h2
      have e4 := (List.cons.inj (List.append_cancel_left h2)).2
      have : b ∈ decL (sumB x) := by rw [e4]; simp
      rw [dec_dig _ b this] at hd; cases hd
  · -- inside the text: x = p ++ t
    cases t with
    | nil =>
      simp only [List.nil_append] at ht
      obtain ⟨hc, ht⟩ := List.cons.inj ht
      subst hx
      subst ht
      rw [List.append_nil] at nl
      have hin : (33 : UInt8) ∈ p ++ b :: decL (sumB (p ++ [])) := by rw [← h2]; simp
      rcases List.mem_append.mp hin with h | h
      · exact nl h
      · rcases List.mem_cons.mp h with h | h
        · exact hb h.symm
        · exact dec_no _ (by decide) h
    | cons c t =>
      rw [List.cons_append] at ht
      obtain ⟨hc, ht2⟩ := List.cons.inj ht
      subst hc
      subst hx
      rw [ht2, show p ++ b :: (t ++ 33 :: decL (sumB (p ++ a :: t))) = (p ++ b :: t) ++ 33 :: decL (sumB (p ++ a :: t)) by simp] at h2
      have nb : (33 : UInt8) ∉ p ++ b :: t := by
        intro h
        rcases List.mem_append.mp h with h | h
        · exact nl (List.mem_append_left _ h)
        · rcases List.mem_cons.mp h with h | h
          · exact hb h.symm
          · exact nl (List.mem_append_right _ (List.mem_cons_of_mem _ h))
      obtain ⟨e1, e2⟩ := seal_parts nm nb h2
      subst e1
      have e3 := dec_inj (Nat.lt_trans (sum_lt _) (by decide)) (Nat.lt_trans (sum_lt _) (by decide)) e2
      exact hab (sum_other e3).symm
theorem block_nil : blockL [] = textL [] := by decide +kernel
theorem read_nil : readL (blockL []) = some [] := read_block (by rw [block_nil]; exact seal_ne _)
theorem read_empty : readL [] = none := by rw [read_none]; rintro l ⟨h, _⟩; exact h rfl

end Go.Proofs.YtklphdomjhliaaaDoor.B
