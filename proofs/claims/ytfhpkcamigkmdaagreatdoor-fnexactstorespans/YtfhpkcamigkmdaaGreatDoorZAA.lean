/-
  Several operations of a region taken one after another: what the base's law says of one, said of a list. Nothing of the program is named here.
  Small facts and the contract of the model's range test; no condition.
  Plain mathematics of keys: the order of strings, key lists, putting a key in its place, sorting. No condition; nothing of the program is named here.
  Slices of strings in memory, and the contract of the model's KeyOk at every string that Go can hold.
  Contracts of functions that only read slices of strings: the model's KeysOk and KeyFirst, KeyBegins, and the laws' comparisons. Each at every slice that can be read.
  Contracts of the model's KeyBegins and KeyFirst, at every string and every slice that can be read.
  The contract of the exact laws' comparison of slices of strings.
  Slices of strings that a call makes itself, and appending a string to one.
  The contract of the model's KeysSort, at every slice of strings that can be read: a new slice of the keys among them, each once, in order.
  Plain mathematics of runs: the order of entries, joining, what was put last. No condition; nothing of the program is named here.
  Plain mathematics of runs: the keys, what can be found, what is there. No condition; nothing of the program is named here.
  Plain mathematics of runs: what is there at a time; the loops' partial results. No condition; nothing of the program is named here.
  Stores: what makes one valid (times, what is newest), and contracts of the model's l12Size, l12Times and l12Newest.
  Stores: each entry is newer than all of its key below it, just if the times of each key descend all the way down.
  Entries in memory; what the model says of an entry, and of two.
-/
import Derived.Test.YtfhpkcamigkmdaaGreatDoorProg
import Derived.OrdersHeld
import Derived.WalkKit
import Derived.WalkLawsBesides
import Derived.WalkSpells
import Derived.Lib.Hide
import Derived.Handy
import Derived.Laws.Strings
import Derived.Deep.QuietTactic
import Derived.BigQuiet
import Derived.Deep.AppendLies
namespace Go.Proofs.YtfhpkcamigkmdaaGreatDoor.W
open Go

section
variable {P : Program} {md : Region.Mode} {ops : Array Oper} {Q : Exit → Act → World → Prop} {S : World → Prop}
/-- each of them yields, one behind the other -/
def Takes (P : Program) (ops : Array Oper) (S : World → Prop) : List Nat → Act → Act → Prop
  | [], a, a' => a = a'
  | i :: r, a, a' => ∃ oi v, ops[i]? = some oi ∧ YieldsIf P ops S oi v a ∧ Takes P ops S r (a.put oi.dst v) a'
/-- each may come up when it is its turn -/
def takesOk (md : Region.Mode) (ops : Array Oper) : Array Bool → List Nat → Bool
  | _, [] => true
  | l, i :: r => Region.free md ops l i && ((Region.ready md ops l).contains i && takesOk md ops (l.setIfInBounds i true) r)
/-- which have come up -/
def taken : Array Bool → List Nat → Array Bool
  | l, [] => l
  | l, i :: r => taken (l.setIfInBounds i true) r
theorem takes_nil {a : Act} : Takes P ops S [] a a := rfl
theorem takes_cons {l : List Oper} {i : Nat} {r : List Nat} {oi : Oper} {v : Value} {a a' : Act} (hi : l[i]? = some oi) (hy : YieldsIf P l.toArray S oi v a) (h : Takes P l.toArray S r (a.put oi.dst v) a') : Takes P l.toArray S (i :: r) a a' := ⟨oi, v, by simpa using hi, hy, h⟩
theorem wpAnyH_takes {n : Nat} : ∀ (is : List Nat) {k : Nat} {l : Array Bool} {a a' : Act} {w : World}, is.length = k → Region.noSelect ops = true → takesOk md ops l is = true →
    (∀ (t : Tmp) v c a w, Q (.panic c) (Act.put a (some t) v) w → Q (.panic c) a w) → Takes P ops S is a a' → S w → wpAnyH P md ops Q S n (taken l is) a' w → wpAnyH P md ops Q S (n + k) l a w
  | [], _, _, _, _, _, hk, _, _, _, ht, _, h => by
    subst hk
    cases ht; exact h
  | i :: r, _, l, a, a', w, hk, hs, hc, hQ, ht, hS, h => by
    subst hk
    obtain ⟨oi, v, hi, hy, ht⟩ := ht
    simp only [takesOk, Bool.and_eq_true] at hc
    rw [List.length_cons, ← Nat.add_assoc]
    exact wpAnyH_take hi hs hc.1 hc.2.1 (fun c a w h => by cases hd : oi.dst with | none => rw [hd] at h; exact h | some t => rw [hd] at h; exact hQ t v c a w h) hy hS (wpAnyH_takes r rfl hs hc.2.2 hQ ht hS h)
end
end Go.Proofs.YtfhpkcamigkmdaaGreatDoor.W
namespace Go.Proofs.YtfhpkcamigkmdaaGreatDoor.W
open Go.RowKit

theorem ret_int {k : IntKind} {a b : Int} (h : a = b) : Ending.returned (.int k a) = .returned (.int k b) := by rw [h]
theorem ret_bool {a b : Bool} (h : a = b) : Ending.returned (.bool a) = .returned (.bool b) := by rw [h]

theorem at_k (s : ByteArray) (k : Nat) (h : k < s.size) : s.data.toList[k]? = some s[k] := by
  rw [List.getElem?_eq_getElem (by simpa using h)]; rfl
theorem take_k (s : ByteArray) (k : Nat) (h : k < s.size) : s.data.toList.take (k + 1) = s.data.toList.take k ++ [s[k]] := by
  rw [List.take_add_one, at_k s k h]; rfl
theorem len_l (s : ByteArray) : s.data.toList.length = s.size := by simp

theorem c48 (c : UInt8) : ((c.toNat : Int) = 48) ↔ c = 48 := by
  constructor
  · intro h; exact UInt8.toNat_inj.mp (by have : (48 : UInt8).toNat = 48 := rfl; omega)
  · rintro rfl; rfl
theorem c49 (c : UInt8) : ((c.toNat : Int) = 49) ↔ c = 49 := by
  constructor
  · intro h; exact UInt8.toNat_inj.mp (by have : (49 : UInt8).toNat = 49 := rfl; omega)
  · rintro rfl; rfl

def inB (n a b : Int) : Bool := decide (a ≤ n ∧ n ≤ b)
theorem inS (n a b : Int) (w : World) : Calls Tryz.prog 61 #[.int .i64 n, .int .i64 a, .int .i64 b] w fun e w' => e = .returned (.bool (inB n a b)) ∧ w = w' := by
  go_enter Tryz.func61, Tryz.ntmps61
  go_wp2
  · go_ret
    exact ⟨ret_bool (by simp [inB, *]), rfl⟩
  · go_ret
    exact ⟨ret_bool (by simp [inB, *]; omega), rfl⟩

end Go.Proofs.YtfhpkcamigkmdaaGreatDoor.W

namespace Go.Proofs.YtfhpkcamigkmdaaGreatDoor.K

/-- the order of strings -/
def lt (a b : ByteArray) : Bool := Op.bytesLess a.toList b.toList
/-- strings are the same -/
def eqs (a b : ByteArray) : Bool := a.toList == b.toList

theorem less_eq : ∀ (x y : List UInt8), Op.bytesLess x y = decide (x < y)
  | [], [] => by simp [Op.bytesLess]
  | _ :: _, [] => by simp [Op.bytesLess]
  | [], _ :: _ => by simp [Op.bytesLess]
  | a :: x, b :: y => by
    rw [Op.bytesLess, less_eq x y]
    simp only [List.cons_lt_cons_iff]
    by_cases h1 : a < b <;> by_cases h2 : a = b <;> by_cases h3 : x < y <;> simp [h1, h2, h3]

theorem ba_ext {a b : ByteArray} (h : a.toList = b.toList) : a = b := by
  rw [ByteArray.toList_eq, ByteArray.toList_eq] at h
  cases a; cases b
  simp only [Array.toList_inj] at h
  rw [h]
theorem eqs_iff {a b : ByteArray} : eqs a b = true ↔ a = b := by
  unfold eqs; simp only [beq_iff_eq]; exact ⟨ba_ext, fun h => by rw [h]⟩
theorem eqs_self (a : ByteArray) : eqs a a = true := eqs_iff.mpr rfl
theorem eqs_false {a b : ByteArray} : eqs a b = false ↔ a ≠ b := by
  rw [← Bool.not_eq_true, eqs_iff]

theorem lt_iff {a b : ByteArray} : lt a b = true ↔ a.toList < b.toList := by unfold lt; rw [less_eq]; simp
theorem lt_irrefl (a : ByteArray) : lt a a = false := by
  rw [← Bool.not_eq_true, lt_iff]; exact List.lt_irrefl _
theorem lt_trans {a b c : ByteArray} (h : lt a b = true) (k : lt b c = true) : lt a c = true := by
  rw [lt_iff] at *; exact List.lt_trans h k
theorem lt_asymm {a b : ByteArray} (h : lt a b = true) : lt b a = false := by
  rw [← Bool.not_eq_true]; intro k
  have := lt_trans h k
  rw [lt_irrefl] at this; cases this
theorem lt_total {a b : ByteArray} (h : lt a b = false) (k : lt b a = false) : a = b := by
  rw [← Bool.not_eq_true, lt_iff] at h k
  exact ba_ext (List.le_antisymm (List.not_lt.mp k) (List.not_lt.mp h))
theorem lt_ne {a b : ByteArray} (h : lt a b = true) : a ≠ b := by
  rintro rfl; rw [lt_irrefl] at h; cases h
/-- strictly ascending -/
def asc (l : List ByteArray) : Prop := l.Pairwise (fun a b => lt a b = true)
theorem asc_nil : asc [] := List.Pairwise.nil
theorem asc_cons {a : ByteArray} {l : List ByteArray} : asc (a :: l) ↔ (∀ x ∈ l, lt a x = true) ∧ asc l := List.pairwise_cons

/-- a string is a key -/
def letterB (c : UInt8) : Bool := decide (97 ≤ c.toNat) && decide (c.toNat ≤ 100)
def keyB (s : ByteArray) : Bool := decide (s.size ≤ 5) && s.data.toList.all letterB
/-- each is ahead of the next -/
def adjB : List ByteArray → Bool
  | [] => true
  | [_] => true
  | a :: b :: t => lt a b && adjB (b :: t)
/-- strings are a key list -/
def keysB (l : List ByteArray) : Bool := decide (l.length ≤ 24) && (l.all keyB && adjB l)

theorem adj_asc : ∀ {l : List ByteArray}, adjB l = true ↔ asc l
  | [] => by simp [adjB, asc_nil]
  | [a] => by simp [adjB, asc]
  | a :: b :: t => by
    have ih := adj_asc (l := b :: t)
    simp only [adjB, Bool.and_eq_true, ih]
    rw [asc_cons (a := a), asc_cons]
    constructor
    · rintro ⟨h, k⟩
      refine ⟨fun x hx => ?_, k⟩
      rcases List.mem_cons.mp hx with rfl | hx
      · exact h
      · exact lt_trans h (k.1 x hx)
    · rintro ⟨h, k⟩
      exact ⟨h b (by simp), k⟩

theorem keys_iff {l : List ByteArray} : keysB l = true ↔ l.length ≤ 24 ∧ (∀ x ∈ l, keyB x = true) ∧ asc l := by
  unfold keysB
  simp only [Bool.and_eq_true, decide_eq_true_eq, List.all_eq_true, adj_asc]

/-- each is ahead of the next, place by place -/
theorem adj_iff : ∀ {l : List ByteArray}, adjB l = true ↔ ∀ i (h : i + 1 < l.length), lt l[i] l[i + 1] = true
  | [] => by simp [adjB]
  | [a] => by simp [adjB]
  | a :: b :: t => by
    have ih := adj_iff (l := b :: t)
    simp only [adjB, Bool.and_eq_true, ih]
    constructor
    · rintro ⟨h, k⟩ i hi
      cases i with
      | zero => exact h
      | succ i => exact k i (by simpa using hi)
    · intro h
      refine ⟨h 0 (by simp), fun i hi => ?_⟩
      exact h (i + 1) (by simpa using hi)
/-- up to place k all is as in a key list -/
def good (l : List ByteArray) (k : Nat) : Prop := (∀ i (h : i < l.length), i < k → keyB l[i] = true) ∧ ∀ i (h : i + 1 < l.length), i + 1 < k → lt l[i] l[i + 1] = true
theorem good_zero (l : List ByteArray) : good l 0 := ⟨fun i _ h => by omega, fun i _ h => by omega⟩
theorem good_one {l : List ByteArray} (h : 0 < l.length) (hk : keyB l[0] = true) : good l 1 :=
  ⟨fun i _ hi => by obtain rfl : i = 0 := by omega
                    exact hk, fun i _ hi => by omega⟩
theorem good_succ {l : List ByteArray} {k : Nat} (g : good l (k + 1)) (h : k + 1 < l.length) (hk : keyB l[k + 1] = true) (hl : lt l[k] l[k + 1] = true) : good l (k + 2) := by
  refine ⟨fun i hi hi2 => ?_, fun i hi hi2 => ?_⟩
  · rcases (by omega : i < k + 1 ∨ i = k + 1) with e | e
    · exact g.1 i hi e
    · subst e; exact hk
  · rcases (by omega : i + 1 < k + 1 ∨ i = k) with e | e
    · exact g.2 i hi e
    · subst e; exact hl
theorem good_end {l : List ByteArray} (g : good l l.length) : keysB l = decide (l.length ≤ 24) := by
  unfold keysB
  have h1 : l.all keyB = true := by
    rw [List.all_eq_true]
    intro x hx
    obtain ⟨i, hi, rfl⟩ := List.mem_iff_getElem.mp hx
    exact g.1 i hi hi
  have h2 : adjB l = true := adj_iff.mpr fun i hi => g.2 i hi hi
  rw [h1, h2]; simp
theorem bad_key {l : List ByteArray} {k : Nat} (h : k < l.length) (hk : keyB l[k] = false) : keysB l = false := by
  rw [← Bool.not_eq_true, keys_iff]
  rintro ⟨_, h2, _⟩
  rw [h2 _ (List.getElem_mem h)] at hk; cases hk
theorem bad_order {l : List ByteArray} {k : Nat} (h : k + 1 < l.length) (hk : lt l[k] l[k + 1] = false) : keysB l = false := by
  rw [← Bool.not_eq_true]
  intro e
  unfold keysB at e
  simp only [Bool.and_eq_true] at e
  rw [adj_iff.mp e.2.2 k h] at hk; cases hk

/-- two lists of strings are the same -/
def sameL (a b : List ByteArray) : Bool := a.map (·.toList) == b.map (·.toList)
theorem map_inj {a b : List ByteArray} (h : a.map (·.toList) = b.map (·.toList)) : a = b := by
  induction a generalizing b with
  | nil => cases b with
    | nil => rfl
    | cons y b => simp at h
  | cons x a ih => cases b with
    | nil => simp at h
    | cons y b =>
      simp only [List.map_cons, List.cons.injEq] at h
      rw [ba_ext h.1, ih h.2]
theorem sameL_iff {a b : List ByteArray} : sameL a b = true ↔ a = b := by
  unfold sameL; simp only [beq_iff_eq]; exact ⟨map_inj, fun h => by rw [h]⟩
theorem sameL_self (a : List ByteArray) : sameL a a = true := sameL_iff.mpr rfl
theorem sameL_false {a b : List ByteArray} : sameL a b = false ↔ a ≠ b := by rw [← Bool.not_eq_true, sameL_iff]
theorem same_len {a b : List ByteArray} (h : a.length ≠ b.length) : sameL a b = false := sameL_false.mpr fun e => h (by rw [e])
theorem same_at {a b : List ByteArray} {k : Nat} (ha : k < a.length) (hb : k < b.length) (h : eqs a[k] b[k] = false) : sameL a b = false := by
  rw [sameL_false]; rintro rfl
  rw [eqs_self] at h; cases h
theorem same_step {a b : List ByteArray} {k : Nat} (ha : k < a.length) (hb : k < b.length) (h : eqs a[k] b[k] = true) (ht : a.take k = b.take k) : a.take (k + 1) = b.take (k + 1) := by
  rw [List.take_add_one, List.take_add_one, ht, List.getElem?_eq_getElem ha, List.getElem?_eq_getElem hb, eqs_iff.mp h]
theorem same_end {a b : List ByteArray} (hl : a.length = b.length) (ht : a.take a.length = b.take a.length) : sameL a b = true := by
  rw [sameL_iff]
  rw [List.take_of_length_le (Nat.le_refl _), List.take_of_length_le (by omega)] at ht
  exact ht
/-- a string begins with another one -/
def begB (k h : ByteArray) : Bool := decide (h.size ≤ k.size) && ((k.extract 0 h.size).toList == h.toList)
end Go.Proofs.YtfhpkcamigkmdaaGreatDoor.K

namespace Go.Proofs.YtfhpkcamigkmdaaGreatDoor.W
open Go.RowKit K

/-- a slice of n strings reads as l, below block B -/
structure Strs (w : World) (B : Nat) (A : Option Addr) (n : Nat) (l : List ByteArray) : Prop where
  len : l.length = n
  cell : ∀ i (h : i < l.length), ∃ b off : Nat, A = some ⟨b, off, none⟩ ∧ b < B ∧ w.cell? ⟨b, off + i, none⟩ = some (.string l[i])

theorem Strs.keep {w w' : World} {B n : Nat} {A : Option Addr} {l : List ByteArray} (h : Strs w B A n l) (hk : ∀ b o, b < B → w'.cell? ⟨b, o, none⟩ = w.cell? ⟨b, o, none⟩) : Strs w' B A n l :=
  ⟨h.len, fun i hi => by
    obtain ⟨b, off, hA, hb, hc⟩ := h.cell i hi
    exact ⟨b, off, hA, hb, (hk _ _ hb).trans hc⟩⟩
theorem Strs.below {w w' : World} {B B' n : Nat} {A : Option Addr} {l : List ByteArray} (h : Strs w B A n l) (hb : Below B' w w') (hB : B ≤ B') : Strs w' B A n l :=
  h.keep fun b o hlt => hb.cell (p := ⟨b, o, none⟩) (by show b < B'; omega)
theorem Strs.more {w : World} {B B' n : Nat} {A : Option Addr} {l : List ByteArray} (h : Strs w B A n l) (hB : B ≤ B') : Strs w B' A n l :=
  ⟨h.len, fun i hi => by
    obtain ⟨b, off, hA, hb, hc⟩ := h.cell i hi
    exact ⟨b, off, hA, by omega, hc⟩⟩
theorem Strs.drewN {w : World} {B n : Nat} {A : Option Addr} {l : List ByteArray} (h : Strs w B A n l) (k : Nat) : Strs (w.drewN k) B A n l := ⟨h.len, h.cell⟩
theorem Strs.nil (w : World) (B : Nat) (A : Option Addr) : Strs w B A 0 [] := ⟨rfl, fun i hi => absurd hi (by simp)⟩
theorem below_drewN {B : Nat} {a w : World} (h : Below B a w) (n : Nat) : Below B a (w.drewN n) := ⟨h.os, h.tape, h.output, h.size, h.block⟩

theorem letter_in (c : UInt8) : inB (c.toNat : Int) 97 100 = letterB c := by
  unfold inB letterB
  rw [Bool.eq_iff_iff]; simp; omega

def allLet (l : List UInt8) : Prop := l.all letterB = true
theorem allLet_snoc (s : ByteArray) (k : Nat) (h : k < s.size) (ha : allLet (s.data.toList.take k)) (hc : letterB s[k] = true) : allLet (s.data.toList.take (k + 1)) := by
  unfold allLet at *; rw [take_k s k h, List.all_append, ha]; simp [hc]
theorem not_key (s : ByteArray) (k : Nat) (h : k < s.size) (hc : letterB s[k] = false) : keyB s = false := by
  unfold keyB
  have : s.data.toList.all letterB = false := by
    rw [← List.take_append_drop (k + 1) s.data.toList, take_k s k h]
    simp [hc]
  rw [this]; simp
theorem key_end (s : ByteArray) (k : Nat) (hk : ¬ k < s.size) (ha : allLet (s.data.toList.take k)) : keyB s = decide (s.size ≤ 5) := by
  rw [List.take_of_length_le (by rw [len_l]; omega)] at ha
  unfold keyB; rw [ha]; simp

set_option maxHeartbeats 400000 in
theorem keyS (s : ByteArray) (w : World) (hs : s.size ≤ maxLen) :
    Calls Tryz.prog 66 #[.string s] w fun e w' => e = .returned (.bool (keyB s)) ∧ w = w' := by
  unfold maxLen at hs
  go_enter Tryz.func66, Tryz.ntmps66
  go_wp2
  go_loop [3] (fun i => ∃ k : Nat, k ≤ s.size ∧ i = .int .i64 k ∧ allLet (s.data.toList.take k)) (fun i => s.size - (intOf i).toNat)
  case atStart => exact ⟨0, Nat.zero_le _, rfl, by simp [allLet]⟩
  case round =>
    obtain ⟨k, hk, rfl, ha⟩ := hrel
    by_cases hlt : k < s.size
    · have hin := letter_in s[k]
      have hb8 := (s[k]).toNat_lt
      rcases Bool.eq_false_or_eq_true (letterB s[k]) with hl | hl
      · rw [hl] at hin
        have HL := Lib.hid hl
        clear hl
        go_wp2_with (first | (go_at_call 61; refine (inS _ _ _ _).mono ?_; rintro e w' ⟨rfl, rfl⟩))
        go_round
        case rel => exact ⟨k + 1, by omega, by go_num, allLet_snoc s k hlt ha HL.out⟩
        case measure => simp [intOf]; omega
      · rw [hl] at hin
        have HL := Lib.hid hl
        clear hl
        go_wp2_with (first | (go_at_call 61; refine (inS _ _ _ _).mono ?_; rintro e w' ⟨rfl, rfl⟩))
        go_ret
        exact ⟨ret_bool (not_key s k hlt HL.out).symm, rfl⟩
    · go_wp2
      go_ret
      exact ⟨ret_bool (by rw [key_end s k hlt ha]; exact decide_eq_decide.mpr (by omega)), rfl⟩

end Go.Proofs.YtfhpkcamigkmdaaGreatDoor.W

namespace Go.Proofs.YtfhpkcamigkmdaaGreatDoor.W
open Go.RowKit K

/-- nothing has turned but draws -/
def Same (w w' : World) : Prop := ∃ m, w' = w.drewN m
theorem Same.refl (w : World) : Same w w := ⟨0, rfl⟩
theorem Same.drewN {w w' : World} (h : Same w w') (n : Nat) : Same w (w'.drewN n) := by
  obtain ⟨m, rfl⟩ := h; exact ⟨m + n, by rw [World.drewN_drewN]⟩
theorem Same.strs {w w' : World} (h : Same w w') {B n : Nat} {A : Option Addr} {l : List ByteArray} (hs : Strs w B A n l) : Strs w' B A n l := by
  obtain ⟨m, rfl⟩ := h; exact hs.drewN m
theorem Same.below {w w' : World} (h : Same w w') (B : Nat) : Below B w w' := by
  obtain ⟨m, rfl⟩ := h; exact below_drewN (Below.refl _ _) m
theorem quiet_mine {P : Program} {f : FuncId} {args : Array Value} {w : World} {n : Nat} {v : Value}
    (h : Calls P f args (w.drewN n) fun e w' => e = .returned v ∧ w.drewN n = w') : Calls P f args (w.drewN n) fun e w'' => e = .returned v ∧ ∃ m, w'' = w.drewN m :=
  h.mono fun _ _ ⟨he, hm⟩ => ⟨he, n, hm.symm⟩

/-- each string is one that Go can hold -/
def Fit (l : List ByteArray) : Prop := ∀ s ∈ l, s.size ≤ maxLen
theorem Fit.get {l : List ByteArray} (h : Fit l) {k : Nat} (hk : k < l.length) : l[k].size ≤ maxLen := h _ (List.getElem_mem hk)

set_option maxHeartbeats 1000000 in
theorem keysS (w : World) (B n c : Nat) (A : Option Addr) (l : List ByteArray) (hr : Strs w B A n l) (hn : n ≤ maxLen) (hf : Fit l) :
    Calls Tryz.prog 144 #[.slice A n c] w fun e w' => e = .returned (.bool (keysB l)) ∧ Same w w' := by
  have hlen := hr.len
  subst hlen
  unfold maxLen at hn
  have HF := Lib.hid hf
  have HR := Lib.hid hr
  clear hf hr
  go_enter Tryz.func144, Tryz.ntmps144
  go_wp2
  go_loopw [3] (fun i wr => ∃ k : Nat, k ≤ l.length ∧ i = .int .i64 k ∧ good l k ∧ Same w wr) (fun i _ => l.length - (intOf i).toNat)
  case atStart => exact ⟨0, Nat.zero_le _, rfl, good_zero l, Same.refl w⟩
  case round =>
    obtain ⟨k, hk, rfl, hg, hsm⟩ := hrel
    have HG := Lib.hid hg
    have HS := Lib.hid hsm
    clear hg hsm
    by_cases hlt : k < l.length
    · obtain ⟨b, off, hA, hb, hc⟩ := (HS.out.strs HR.out).cell k hlt
      subst hA
      have hsz := HF.out.get hlt
      have hx0 : (0 : Int) ≤ (k : Int) := by omega
      have hx1 : (k : Int) < (l.length : Int) := by omega
      rcases Bool.eq_false_or_eq_true (keyB l[k]) with hkb | hkb
      · by_cases h0 : k = 0
        · subst h0
          rw [Nat.add_zero] at hc
          have HK := Lib.hid hkb
          go_wp2
          go_quiet ((go_at_call 66; exact quiet_mine (keyS _ _ hsz)))
          go_wp2
          go_roundw
          case rel => exact ⟨1, by omega, by go_num, good_one hlt HK.out, HS.out.drewN _⟩
          case measure => simp [intOf]; omega
        · obtain ⟨j, hj⟩ : ∃ j, k = j + 1 := ⟨k - 1, by omega⟩
          have hjl : j < l.length := by omega
          obtain ⟨b', off', hA', _, hcj⟩ := (HS.out.strs HR.out).cell j hjl
          simp only [Option.some.injEq, Addr.mk.injEq, and_true] at hA'
          obtain ⟨rfl, rfl⟩ := hA'
          have hy0 : (0 : Int) ≤ (j : Int) := by omega
          have hy1 : (j : Int) < (l.length : Int) := by omega
          have hsub : IntKind.i64.wrap ((k : Int) - 1) = (j : Int) := by rw [IntWalk.i64_in _ ⟨by omega, by omega⟩]; omega
          have hpos : 0 < k := by omega
          have HJ := Lib.hid hj
          have HK := Lib.hid hkb
          clear hj
          rcases Bool.eq_false_or_eq_true (Op.bytesLess l[j].toList l[k].toList) with hlb | hlb
          · have HL := Lib.hid hlb
            go_wp2
            go_quiet ((go_at_call 66; exact quiet_mine (keyS _ _ hsz)))
            clear hsub
            go_wp2
            go_roundw
            case rel =>
              have hj := HJ.out
              subst hj
              exact ⟨j + 2, by omega, by go_num, good_succ HG.out hlt HK.out HL.out, HS.out.drewN _⟩
            case measure => simp [intOf]; omega
          · have HL := Lib.hid hlb
            go_wp2
            go_quiet ((go_at_call 66; exact quiet_mine (keyS _ _ hsz)))
            clear hsub
            go_wp2
            go_ret
            have hj := HJ.out
            subst hj
            exact ⟨ret_bool (bad_order hlt HL.out).symm, HS.out.drewN _⟩
      · have HK := Lib.hid hkb
        go_wp2
        go_quiet ((go_at_call 66; exact quiet_mine (keyS _ _ hsz)))
        go_wp2
        go_ret
        exact ⟨ret_bool (bad_key hlt HK.out).symm, HS.out.drewN _⟩
    · have hke : k = l.length := by omega
      subst hke
      go_wp2
      go_ret
      exact ⟨ret_bool (by rw [good_end HG.out]; exact decide_eq_decide.mpr (by omega)), HS.out⟩

end Go.Proofs.YtfhpkcamigkmdaaGreatDoor.W

namespace Go.Proofs.YtfhpkcamigkmdaaGreatDoor.W
open Go.RowKit K

set_option maxHeartbeats 400000 in
theorem begS (k h : ByteArray) (w : World) :
    Calls Tryz.prog 131 #[.string k, .string h] w fun e w' => e = .returned (.bool (begB k h)) ∧ w = w' := by
  by_cases hle : h.size ≤ k.size
  · have hle2 : (h.size : Int) ≤ (k.size : Int) := by omega
    go_enter Tryz.func131, Tryz.ntmps131
    go_wp2
    go_ret
    exact ⟨ret_bool (by simp [begB, hle]), rfl⟩
  · have hle2 : ¬ (h.size : Int) ≤ (k.size : Int) := by omega
    go_enter Tryz.func131, Tryz.ntmps131
    go_wp2
    go_ret
    exact ⟨ret_bool (by simp [begB, hle]), rfl⟩

def strS (o : Option ByteArray) : ByteArray := o.getD ⟨#[]⟩
def strB (o : Option ByteArray) : Bool := o.isSome

end Go.Proofs.YtfhpkcamigkmdaaGreatDoor.W

namespace Go.Proofs.YtfhpkcamigkmdaaGreatDoor.W
open Go.RowKit K

set_option maxHeartbeats 1000000 in
theorem eqL (w : World) (B n c n2 c2 : Nat) (A A2 : Option Addr) (l l2 : List ByteArray) (hr : Strs w B A n l) (hr2 : Strs w B A2 n2 l2) (hn : n ≤ maxLen) (hn2 : n2 ≤ maxLen) :
    Calls Tryz.prog 140 #[.slice A n c, .slice A2 n2 c2] w fun e w' => e = .returned (.bool (sameL l l2)) ∧ Same w w' := by
  have hlen := hr.len
  subst hlen
  have hlen2 := hr2.len
  subst hlen2
  unfold maxLen at hn hn2
  have HR := Lib.hid hr
  have HR2 := Lib.hid hr2
  clear hr hr2
  by_cases hll : l.length = l2.length
  · have HLL := Lib.hid hll
    have hne : ((l.length : Int) != (l2.length : Int)) = false := by simp [hll]
    clear hll
    go_enter Tryz.func140, Tryz.ntmps140
    go_wp2
    go_loopw [5] (fun i wr => ∃ k : Nat, k ≤ l.length ∧ i = .int .i64 k ∧ Hid (l.take k = l2.take k) ∧ Same w wr) (fun i _ => l.length - (intOf i).toNat)
    case atStart => exact ⟨0, Nat.zero_le _, rfl, Lib.hid rfl, Same.refl w⟩
    case round =>
      obtain ⟨k, hk, rfl, hg, hsm⟩ := hrel
      have HS := Lib.hid hsm
      clear hsm
      by_cases hlt : k < l.length
      · have hlt2 : k < l2.length := by have := HLL.out; omega
        obtain ⟨b, off, hA, hb, hc⟩ := (HS.out.strs HR.out).cell k hlt
        subst hA
        obtain ⟨b2, off2, hA2, hb2, hc2⟩ := (HS.out.strs HR2.out).cell k hlt2
        subst hA2
        have hx0 : (0 : Int) ≤ (k : Int) := by omega
        have hx1 : (k : Int) < (l.length : Int) := by omega
        have hx2 : (k : Int) < (l2.length : Int) := by omega
        rcases Bool.eq_false_or_eq_true (l[k].toList == l2[k].toList) with he | he
        · have HE := Lib.hid he
          go_wp2
          go_quiet (fail)
          go_wp2
          go_roundw
          case rel => exact ⟨k + 1, by omega, by go_num, Lib.hid (same_step hlt hlt2 HE.out hg.out), HS.out.drewN _⟩
          case measure => simp [intOf]; omega
        · have HE := Lib.hid he
          go_wp2
          go_quiet (fail)
          go_wp2
          go_ret
          exact ⟨ret_bool (same_at hlt hlt2 HE.out).symm, HS.out.drewN _⟩
      · have hke : k = l.length := by omega
        subst hke
        go_wp2
        go_ret
        exact ⟨ret_bool (same_end HLL.out hg.out).symm, HS.out⟩
  · have hne : ((l.length : Int) != (l2.length : Int)) = true := by simp; omega
    have HLL := Lib.hid hll
    clear hll
    go_enter Tryz.func140, Tryz.ntmps140
    go_wp2
    go_ret
    exact ⟨ret_bool (same_len HLL.out).symm, Same.refl w⟩

end Go.Proofs.YtfhpkcamigkmdaaGreatDoor.W

namespace Go.Proofs.YtfhpkcamigkmdaaGreatDoor.W
open Go.RowKit K

/-- the slice v holds the strings l, in a row of the call's own, from block 'base' on -/
def Own (w : World) (base : Nat) (v : Value) (l : List ByteArray) : Prop := w.ownsRow base 9 1 v l.length (l.map Value.string)

theorem Own.below {w w' : World} {base : Nat} {v : Value} {l : List ByteArray} (h : Own w base v l) (hb : Below w.heap.size w w') : Own w' base v l :=
  h.kept (row := none) ⟨hb.os, hb.tape, hb.output, hb.size, fun k hk _ => hb.block k hk⟩ (by cases v.ownBlock <;> simp)
theorem Own.base {w : World} {base base' : Nat} {v : Value} {l : List ByteArray} (h : Own w base v l) (hb : base' ≤ base) : Own w base' v l := by
  refine ⟨h.1, ?_⟩
  rcases h.2 with hn | ⟨g, cap, cur, hv, hbg, rest⟩
  · exact .inl hn
  · exact .inr ⟨g, cap, cur, hv, by omega, rest⟩
theorem Own.alloc {w : World} {base : Nat} {v : Value} {l : List ByteArray} (h : Own w base v l) (o : Obj) : Own (w.alloc o) base v l := World.ownsRow.alloc h o
theorem Own.parts {w : World} {base : Nat} {v : Value} {l : List ByteArray} (h : Own w base v l) :
    ∃ (A : Option Addr) (c : Nat), v = .slice A l.length c ∧ l.length ≤ c ∧ c ≤ maxLen ∧ Strs w w.heap.size A l.length l := by
  rcases h.2 with ⟨rfl, h0⟩ | ⟨g, cap, cur, rfl, hb, hg, hc, hm, hs, ht⟩
  · have : l = [] := List.eq_nil_of_length_eq_zero h0
    subst this
    exact ⟨none, 0, rfl, Nat.le_refl _, by unfold maxLen; omega, Strs.nil _ _ _⟩
  · refine ⟨_, cap, rfl, hc, hm, ⟨rfl, fun i hi => ?_⟩⟩
    refine ⟨g, 0, rfl, (Array.getElem?_eq_some_iff.1 hg).1, ?_⟩
    have := h.cells (g := g) rfl i (.string l[i]) (by rw [List.getElem?_map, List.getElem?_eq_getElem hi]; rfl)
    have hadd : (⟨g, 0, none⟩ : Addr).add i = ⟨g, 0 + i, none⟩ := by unfold Addr.add; split <;> simp_all
    rw [hadd] at this
    exact this
/-- an empty slice that a literal makes -/
theorem Own.empty (w : World) (base : Nat) (hb : base ≤ w.heap.size) : Own (w.alloc (.cells #[] 9)) base (.slice (some ⟨w.heap.size, 0, none⟩) 0 0) [] :=
  World.ownsRow_made w #[] 0 hb (by unfold maxLen; omega) rfl
theorem Own.none_ (w : World) (base : Nat) : Own w base (.slice none 0 0) [] := World.ownsRow_nil w base _ _

theorem str_info : (Tryz.prog.info? 9).map (fun i => (i.zero, i.size, i.bytes)) = some (some (.string ⟨#[]⟩), 1, 16) := by kernel_rfl

/-- what an append leaves of other memory: nothing below base has turned -/
theorem Below.app {B : Nat} {a w w' : World} {v : Value} {base : Nat} {l : List ByteArray} (h : Below B a w) (ho : Own w base v l) (hB : B ≤ base) (hg : w.grownBy w' v.ownBlock) (hs : B ≤ w.heap.size) : Below B a w' :=
  h.grown hg hs fun k hk => by
    have := (World.ownsRow.lt ho k hk).1
    omega

theorem cell_new (w : World) (v : Value) (t : TypeId) : (w.alloc (.cells #[v] t)).cell? ⟨w.heap.size, 0, none⟩ = some v := by
  rw [cell_of_row _ _ _ _ _ _ (heap_alloc_new w _)]; rfl
theorem le_alloc {B : Nat} {w : World} (h : B ≤ w.heap.size) (o : Obj) : B ≤ (w.alloc o).heap.size := Nat.le_trans h (by simp)
theorem take_get {l : List ByteArray} {k : Nat} (h : k < l.length) : l.take (k + 1) = l.take k ++ [l[k]] := by
  rw [List.take_add_one, List.getElem?_eq_getElem h]; rfl

/-- append of one string -/
theorem app_str {ops : Array Oper} {rest : List Oper} {o : Oper} {a : Act} {Q : Exit → Act → World → Prop} (hgd : o.guard = none) (s x : Operand)
    (ho : o.op = .call { callee := .builtin .append, args := #[s, x], argTypes := #[90, 90] })
    (w : World) (base : Nat) (v : Value) (l : List ByteArray) (hs : a.eval s = v) (hown : Own w base v l) (b cc : Nat) (k : ByteArray)
    (hx : a.eval x = .slice (some ⟨b, 0, none⟩) 1 cc) (hcell : w.cell? ⟨b, 0, none⟩ = some (.string k)) (hl : l.length ≤ 4398046511104) (hbase : base ≤ w.heap.size)
    (h : ∀ g cap w', Own w' base (.slice (some ⟨g, 0, none⟩) (l.length + 1) cap) (l ++ [k]) → w.grownBy w' v.ownBlock →
      wpList Tryz.prog ops Q rest (a.put o.dst (.slice (some ⟨g, 0, none⟩) (l.length + 1) cap)) w') : wpList Tryz.prog ops Q (o :: rest) a w := by
  obtain ⟨i0, hi, hz0, hz1, hz2⟩ := info_parts str_info
  refine wpList_append_lies w hgd s x _ ho base _ i0 (.string ⟨#[]⟩) 1 16 Tryz.underlying90 hi hz0 hz1 hz2 rfl (by decide) v l.length (l.map Value.string) hs hown ⟨b, 0, none⟩ 1 cc [.string k] hx rfl ?_ ?_ (by decide) ?_ ?_ hbase _ rfl ?_
  · intro j u hj
    match j, hj with
    | 0, hj => simp at hj; subst hj; simpa [Addr.add] using hcell
  · intro u hu; simp at hu; subst hu; rfl
  · unfold maxLen; omega
  · omega
  · intro g cap w' h2 h3 _ _
    refine h g cap w' ?_ h3
    unfold Own
    rw [List.length_append, List.map_append]
    exact h2

end Go.Proofs.YtfhpkcamigkmdaaGreatDoor.W

namespace Go.Proofs.YtfhpkcamigkmdaaGreatDoor.W
open Go.RowKit K

/-- a new slice holds the strings r; nothing that was there has turned -/
def New (w : World) (r : List ByteArray) (e : Ending) (w' : World) : Prop := ∃ v, e = .returned v ∧ Own w' w.heap.size v r ∧ Below w.heap.size w w'

end Go.Proofs.YtfhpkcamigkmdaaGreatDoor.W
namespace Go.Proofs.YtfhpkcamigkmdaaGreatDoor.R
open K

/-- an entry of a run -/
structure En where
  key : ByteArray
  val : Int
  gone : Bool
  time : Int
/-- an entry may be in a run -/
def okE (e : En) : Bool := keyB e.key && ((decide (0 ≤ e.val) && decide (e.val ≤ 99)) && ((!e.gone || decide (e.val = 0)) && (decide (1 ≤ e.time) && decide (e.time ≤ 999))))
/-- an entry stands ahead of another one -/
def ahead (a b : En) : Bool := lt a.key b.key || (eqs a.key b.key && decide (b.time < a.time))
theorem ahead_iff {a b : En} : ahead a b = true ↔ lt a.key b.key = true ∨ a.key = b.key ∧ b.time < a.time := by
  unfold ahead
  rw [Bool.or_eq_true, Bool.and_eq_true, eqs_iff, decide_eq_true_iff]
theorem ahead_trans {a b c : En} (h : ahead a b = true) (k : ahead b c = true) : ahead a c = true := by
  rw [ahead_iff] at *
  rcases h with h | ⟨h1, h2⟩ <;> rcases k with k | ⟨k1, k2⟩
  · exact .inl (lt_trans h k)
  · exact .inl (by rw [← k1]; exact h)
  · exact .inl (by rw [h1]; exact k)
  · exact .inr ⟨h1.trans k1, by omega⟩
/-- in the order of a run -/
def ord (r : List En) : Prop := r.Pairwise fun a b => ahead a b = true
def adjE : List En → Bool
  | a :: b :: t => ahead a b && adjE (b :: t)
  | _ => true
theorem ord_cons {a : En} {r : List En} : ord (a :: r) ↔ (∀ x ∈ r, ahead a x = true) ∧ ord r := List.pairwise_cons
theorem adj_ord : ∀ {r : List En}, adjE r = true ↔ ord r
  | [] => ⟨fun _ => List.Pairwise.nil, fun _ => rfl⟩
  | [a] => ⟨fun _ => List.pairwise_singleton _ _, fun _ => rfl⟩
  | a :: b :: t => by
    unfold adjE
    rw [Bool.and_eq_true, adj_ord]
    constructor
    · rintro ⟨h1, h2⟩
      refine ord_cons.mpr ⟨fun x hx => ?_, h2⟩
      rcases List.mem_cons.mp hx with rfl | hx
      · exact h1
      · exact ahead_trans h1 ((ord_cons.mp h2).1 x hx)
    · intro h
      obtain ⟨h1, h2⟩ := ord_cons.mp h
      exact ⟨h1 b (by simp), h2⟩
/-- entries are a run -/
def runB (r : List En) : Bool := decide (r.length ≤ 40) && (r.all okE && adjE r)
theorem run_iff {r : List En} : runB r = true ↔ r.length ≤ 40 ∧ (∀ e ∈ r, okE e = true) ∧ ord r := by
  unfold runB
  rw [Bool.and_eq_true, Bool.and_eq_true, decide_eq_true_iff, List.all_eq_true, adj_ord]
/-- what was put last of a key up to a time -/
def atL (r : List En) (k : ByteArray) (t : Int) : Option En := r.find? fun e => eqs e.key k && decide (e.time ≤ t)
theorem at_some {r : List En} {k : ByteArray} {t : Int} {e : En} (h : atL r k t = some e) : e ∈ r ∧ e.key = k ∧ e.time ≤ t := by
  have h1 := List.find?_some h
  rw [Bool.and_eq_true, eqs_iff, decide_eq_true_iff] at h1
  exact ⟨List.mem_of_find?_eq_some h, h1.1, h1.2⟩
theorem at_none {r : List En} {k : ByteArray} {t : Int} : atL r k t = none ↔ ∀ x ∈ r, x.key = k → ¬ x.time ≤ t := by
  unfold atL
  rw [List.find?_eq_none]
  constructor
  · intro h x hx e1 e2
    exact h x hx (by rw [Bool.and_eq_true, eqs_iff, decide_eq_true_iff]; exact ⟨e1, e2⟩)
  · intro h x hx e
    rw [Bool.and_eq_true, eqs_iff, decide_eq_true_iff] at e
    exact h x hx e.1 e.2
/-- P29 -/
theorem at_newest : ∀ {r : List En} {k : ByteArray} {t : Int} {e : En}, ord r → atL r k t = some e → ∀ x ∈ r, x.key = k → x.time ≤ t → x.time ≤ e.time
  | a :: r, k, t, e, ho, h, x, hx, e1, e2 => by
    rw [ord_cons] at ho
    unfold atL at h
    rw [List.find?_cons] at h
    cases hb : (eqs a.key k && decide (a.time ≤ t)) with
    | true =>
      rw [hb] at h
      injection h with h
      subst h
      rcases List.mem_cons.mp hx with rfl | hx
      · exact Int.le_refl _
      · have := ho.1 x hx
        rw [ahead_iff] at this
        rw [Bool.and_eq_true, eqs_iff] at hb
        rcases this with g | ⟨-, g⟩
        · rw [hb.1, e1, lt_irrefl] at g; cases g
        · omega
    | false =>
      rw [hb] at h
      rcases List.mem_cons.mp hx with rfl | hx
      · rw [Bool.and_eq_false_iff] at hb
        rcases hb with g | g
        · exact absurd e1 (eqs_false.mp g)
        · exact absurd e2 (of_decide_eq_false g)
      · exact at_newest ho.2 h x hx e1 e2
end Go.Proofs.YtfhpkcamigkmdaaGreatDoor.R

namespace Go.Proofs.YtfhpkcamigkmdaaGreatDoor.R
open K

/-- an entry, by its place -/
def en (r : List En) (i : Nat) : En := r.getD i ⟨⟨#[]⟩, 0, false, 0⟩
theorem en_at {r : List En} {i : Nat} (h : i < r.length) : en r i = r[i] := by
  unfold en
  rw [List.getD_eq_getElem?_getD, List.getElem?_eq_getElem h]; rfl
theorem en_mem {r : List En} {i : Nat} (h : i < r.length) : en r i ∈ r := by rw [en_at h]; exact List.getElem_mem h
/-- an entry is the first one of its key -/
def newAt (r : List En) (i : Nat) : Bool := decide (i = 0) || !eqs (en r (i - 1)).key (en r i).key
/-- the keys of the first entries -/
def keysUp (r : List En) (k : Nat) : List ByteArray := (List.range k).filterMap fun i => if newAt r i = true then some (en r i).key else none
def keysL (r : List En) : List ByteArray := keysUp r r.length
theorem keysUp_new {r : List En} {k : Nat} (h : newAt r k = true) : keysUp r (k + 1) = keysUp r k ++ [(en r k).key] := by
  unfold keysUp
  rw [List.range_succ, List.filterMap_append]
  simp [h]
theorem keysUp_old {r : List En} {k : Nat} (h : newAt r k = false) : keysUp r (k + 1) = keysUp r k := by
  unfold keysUp
  rw [List.range_succ, List.filterMap_append]
  simp [h]
theorem mem_keysUp {r : List En} {k : Nat} {x : ByteArray} : x ∈ keysUp r k ↔ ∃ i, i < k ∧ newAt r i = true ∧ (en r i).key = x := by
  unfold keysUp
  rw [List.mem_filterMap]
  constructor
  · rintro ⟨i, hi, h⟩
    rw [List.mem_range] at hi
    by_cases hn : newAt r i = true
    · rw [if_pos hn] at h; injection h with h; exact ⟨i, hi, hn, h⟩
    · rw [if_neg hn] at h; cases h
  · rintro ⟨i, hi, hn, h⟩
    exact ⟨i, List.mem_range.mpr hi, by rw [if_pos hn, h]⟩
theorem new_first {r : List En} (i : Nat) : ∃ j, j ≤ i ∧ newAt r j = true ∧ (en r j).key = (en r i).key := by
  induction i with
  | zero => exact ⟨0, Nat.le_refl _, rfl, rfl⟩
  | succ i ih =>
    by_cases hn : newAt r (i + 1) = true
    · exact ⟨i + 1, Nat.le_refl _, hn, rfl⟩
    · obtain ⟨j, h1, h2, h3⟩ := ih
      refine ⟨j, by omega, h2, ?_⟩
      unfold newAt at hn
      simp at hn
      rw [h3]; exact eqs_iff.mp hn
theorem mem_keysL {r : List En} {x : ByteArray} : x ∈ keysL r ↔ ∃ e ∈ r, e.key = x := by
  unfold keysL
  rw [mem_keysUp]
  constructor
  · rintro ⟨i, hi, -, h⟩
    exact ⟨_, en_mem hi, h⟩
  · rintro ⟨e, he, h⟩
    obtain ⟨i, hi, rfl⟩ := List.getElem_of_mem he
    obtain ⟨j, h1, h2, h3⟩ := new_first (r := r) i
    exact ⟨j, by omega, h2, by rw [h3, en_at hi]; exact h⟩
end Go.Proofs.YtfhpkcamigkmdaaGreatDoor.R

namespace Go.Proofs.YtfhpkcamigkmdaaGreatDoor.R
open K

theorem keysUp_len (r : List En) (k : Nat) : (keysUp r k).length ≤ k := by
  unfold keysUp
  exact Nat.le_trans (List.length_filterMap_le _ _) (by simp)
end Go.Proofs.YtfhpkcamigkmdaaGreatDoor.R
namespace Go.Proofs.YtfhpkcamigkmdaaGreatDoor.R
open K
/-- numbers ascend -/
def ascN : List Int → Bool
  | [] => true
  | [_] => true
  | a :: b :: r => decide (a < b) && ascN (b :: r)
theorem ascN_iff : ∀ {l : List Int}, ascN l = true ↔ ∀ i (h : i + 1 < l.length), l[i] < l[i + 1]
  | [] => by simp [ascN]
  | [a] => by simp [ascN]
  | a :: b :: r => by
    unfold ascN
    rw [Bool.and_eq_true, ascN_iff]
    constructor
    · rintro ⟨h1, h2⟩ i hi
      cases i with
      | zero => exact of_decide_eq_true h1
      | succ i => exact h2 i (by simpa using hi)
    · intro h
      exact ⟨decide_eq_true (h 0 (by simp)), fun i hi => h (i + 1) (by simpa using hi)⟩
/-- times that are kept are in order, and not behind now -/
def timesB (l : List Int) (now : Int) : Bool := decide (l.length ≤ 3) && (l.all (fun x => decide (0 ≤ x) && decide (x ≤ now)) && ascN l)
/-- of the first k times all is well -/
def goodT (l : List Int) (now : Int) (k : Nat) : Prop := (∀ i (h : i < l.length), i < k → 0 ≤ l[i] ∧ l[i] ≤ now) ∧ ∀ i (h : i + 1 < l.length), i + 1 < k → l[i] < l[i + 1]
theorem goodT_zero (l : List Int) (now : Int) : goodT l now 0 := ⟨fun i _ h => by omega, fun i _ h => by omega⟩
theorem goodT_succ {l : List Int} {now : Int} {k : Nat} (g : goodT l now k) (h : k < l.length) (h1 : 0 ≤ l[k] ∧ l[k] ≤ now) (h2 : ∀ j (hj : j + 1 = k), l[j]'(by omega) < l[k]) : goodT l now (k + 1) := by
  refine ⟨fun i hi hk => ?_, fun i hi hk => ?_⟩
  · rcases (by omega : i < k ∨ i = k) with e | e
    · exact g.1 i hi e
    · subst e; exact h1
  · rcases (by omega : i + 1 < k ∨ i + 1 = k) with e | e
    · exact g.2 i hi e
    · subst e; exact h2 i rfl
theorem goodT_end {l : List Int} {now : Int} (g : goodT l now l.length) : timesB l now = decide (l.length ≤ 3) := by
  have h1 : l.all (fun x => decide (0 ≤ x) && decide (x ≤ now)) = true := List.all_eq_true.mpr fun x hx => by
    obtain ⟨i, hi, rfl⟩ := List.getElem_of_mem hx
    have := g.1 i hi hi
    simp; exact this
  have h2 : ascN l = true := ascN_iff.mpr fun i hi => g.2 i hi hi
  unfold timesB; rw [h1, h2]; simp
theorem badT_in {l : List Int} {now : Int} {k : Nat} (h : k < l.length) (hb : ¬ (0 ≤ l[k] ∧ l[k] ≤ now)) : timesB l now = false := by
  have : l.all (fun x => decide (0 ≤ x) && decide (x ≤ now)) = false := by
    rw [← Bool.not_eq_true, List.all_eq_true]
    intro ha
    have := ha _ (List.getElem_mem h)
    simp at this; exact hb this
  unfold timesB; rw [this]; simp
theorem badT_ord {l : List Int} {now : Int} {j k : Nat} (hj : j + 1 = k) (h : k < l.length) (hb : ¬ l[j]'(by omega) < l[k]) : timesB l now = false := by
  subst hj
  have : ascN l = false := by
    rw [← Bool.not_eq_true, ascN_iff]
    intro ha
    exact hb (ha j h)
  unfold timesB; rw [this]; simp
/-- the entry is not later than now, and newer than all of its key below -/
def newerB (x : En) (below : List En) (t : Int) : Bool := decide (x.time ≤ t) && (match atL below x.key 999 with | some e => decide (e.time < x.time) | none => true)
def newestB (r below : List En) (t : Int) : Bool := r.all fun x => newerB x below t
theorem newest_no {r below : List En} {t : Int} {k : Nat} (h : k < r.length) (hb : newerB r[k] below t = false) : newestB r below t = false := by
  rw [← Bool.not_eq_true]
  intro ha
  have := List.all_eq_true.mp ha _ (List.getElem_mem h)
  rw [hb] at this; cases this
theorem newest_yes {r below : List En} {t : Int} (h : ∀ i (h : i < r.length), newerB r[i] below t = true) : newestB r below t = true :=
  List.all_eq_true.mpr fun x hx => by obtain ⟨i, hi, rfl⟩ := List.getElem_of_mem hx; exact h i hi
end Go.Proofs.YtfhpkcamigkmdaaGreatDoor.R
namespace Go.Proofs.YtfhpkcamigkmdaaGreatDoor.R
open K
/-- times of each key descend -/
def descP (l : List En) : Prop := l.Pairwise fun a b => a.key = b.key → b.time < a.time
/-- the time of the last entry of a key -/
def lastT (l : List En) (k : ByteArray) : Option Int := (l.reverse.find? fun e => eqs e.key k).map (·.time)
theorem lastT_snoc (l : List En) (e : En) (k : ByteArray) : lastT (l ++ [e]) k = if eqs e.key k = true then some e.time else lastT l k := by
  unfold lastT
  rw [List.reverse_append, List.reverse_singleton, List.singleton_append, List.find?_cons]
  cases eqs e.key k <;> rfl
theorem lastT_some {l : List En} {k : ByteArray} {t : Int} (h : lastT l k = some t) : ∃ e ∈ l, e.key = k ∧ e.time = t := by
  unfold lastT at h
  rw [Option.map_eq_some_iff] at h
  obtain ⟨e, he, ht⟩ := h
  exact ⟨e, List.mem_reverse.mp (List.mem_of_find?_eq_some he), eqs_iff.mp (by have := List.find?_some he; simpa using this), ht⟩
theorem lastT_none {l : List En} {k : ByteArray} (h : lastT l k = none) : ∀ x ∈ l, x.key ≠ k := by
  unfold lastT at h
  rw [Option.map_eq_none_iff, List.find?_eq_none] at h
  intro x hx e
  exact h x (List.mem_reverse.mpr hx) (eqs_iff.mpr e)
theorem lastT_least : ∀ (n : Nat) {l : List En} {k : ByteArray} {t : Int}, l.length = n → descP l → lastT l k = some t → ∀ x ∈ l, x.key = k → t ≤ x.time
  | 0, l, k, t, hn, _, h => by
    have : l = [] := List.eq_nil_of_length_eq_zero hn
    subst this
    cases h
  | n + 1, l, k, t, hn, hd, h => by
    rcases List.eq_nil_or_concat l with rfl | ⟨L, b, rfl⟩
    · cases h
    · rw [List.concat_eq_append] at *
      unfold descP at hd
      rw [List.pairwise_append] at hd
      rw [lastT_snoc] at h
      intro x hx hk
      rw [List.mem_append, List.mem_singleton] at hx
      by_cases e : eqs b.key k = true
      · rw [if_pos e] at h
        injection h with h
        rcases hx with hx | rfl
        · have := hd.2.2 x hx b (by simp) (hk.trans (eqs_iff.mp e).symm)
          omega
        · omega
      · rw [if_neg e] at h
        rcases hx with hx | rfl
        · exact lastT_least n (by simp at hn; exact hn) hd.1 h x hx hk
        · exact absurd (eqs_iff.mpr hk) e
/-- an entry is older than the last one of its key -/
def olderB (l : List En) (e : En) : Bool := match lastT l e.key with | some t => decide (e.time < t) | none => true
theorem desc_snoc {l : List En} {e : En} (h : descP l) : descP (l ++ [e]) ↔ olderB l e = true := by
  have h1 : descP (l ++ [e]) ↔ ∀ x ∈ l, x.key = e.key → e.time < x.time := by
    unfold descP at h ⊢
    rw [List.pairwise_append]
    constructor
    · intro g x hx hk
      exact g.2.2 x hx e (by simp) hk
    · intro g
      exact ⟨h, by simp, fun x hx y hy hk => by rw [List.mem_singleton] at hy; subst hy; exact g x hx hk⟩
  rw [h1]
  unfold olderB
  cases ht : lastT l e.key with
  | none => exact ⟨fun _ => rfl, fun _ x hx hk => absurd hk (lastT_none ht x hx)⟩
  | some t =>
    show _ ↔ decide (e.time < t) = true
    constructor
    · intro g
      obtain ⟨x, hx, hk, rfl⟩ := lastT_some ht
      exact decide_eq_true (g x hx hk)
    · intro g x hx hk
      have := lastT_least _ rfl h ht x hx hk
      have := of_decide_eq_true g
      omega
theorem desc_nil : descP [] := List.Pairwise.nil
theorem desc_take {l : List En} (h : descP l) (k : Nat) : descP (l.take k) := List.Pairwise.sublist (List.take_sublist k l) h
theorem desc_run {r : List En} (h : runB r = true) : descP r :=
  ((run_iff.mp h).2.2).imp fun {a b} hab hk => by
    rcases ahead_iff.mp hab with h1 | ⟨-, h2⟩
    · rw [hk, lt_irrefl] at h1; cases h1
    · exact h2
theorem newer_iff {x : En} {b : List En} {t : Int} (hb : runB b = true) : newerB x b t = true ↔ x.time ≤ t ∧ ∀ y ∈ b, x.key = y.key → y.time < x.time := by
  have h999 : ∀ y ∈ b, y.time ≤ 999 := fun y hy => by
    have := (run_iff.mp hb).2.1 y hy
    unfold okE at this
    simp at this
    omega
  unfold newerB
  rw [Bool.and_eq_true]
  have hx : decide (x.time ≤ t) = true ↔ x.time ≤ t := decide_eq_true_iff
  rw [hx]
  refine and_congr Iff.rfl ?_
  cases ha : atL b x.key 999 with
  | none =>
    refine ⟨fun _ y hy hk => ?_, fun _ => rfl⟩
    exact absurd (h999 y hy) (at_none.mp ha y hy hk.symm)
  | some e =>
    show decide (e.time < x.time) = true ↔ _
    obtain ⟨he, hk, -⟩ := at_some ha
    constructor
    · intro h y hy hyk
      have := at_newest (run_iff.mp hb).2.2 ha y hy hyk.symm (h999 y hy)
      have := of_decide_eq_true h
      omega
    · intro h
      exact decide_eq_true (h e he hk.symm)
theorem newestB_iff {r b : List En} {t : Int} (hb : runB b = true) : newestB r b t = true ↔ (∀ x ∈ r, x.time ≤ t) ∧ ∀ x ∈ r, ∀ y ∈ b, x.key = y.key → y.time < x.time := by
  unfold newestB
  rw [List.all_eq_true]
  constructor
  · intro h
    exact ⟨fun x hx => ((newer_iff hb).mp (h x hx)).1, fun x hx => ((newer_iff hb).mp (h x hx)).2⟩
  · rintro ⟨h1, h2⟩ x hx
    exact (newer_iff hb).mpr ⟨h1 x hx, h2 x hx⟩
/-- what is said of a store's levels, apart from each level's own filter -/
def newestIn (t : Int) : List (List En) → Bool
  | [] => true
  | r :: rs => (rs.all fun b => newestB r b t) && newestIn t rs
theorem new_desc {t : Int} : ∀ {rs : List (List En)}, (∀ r ∈ rs, runB r = true) → (newestIn t rs = true ↔ descP rs.flatten ∧ ∀ r ∈ rs.dropLast, ∀ x ∈ r, x.time ≤ t)
  | [], _ => ⟨fun _ => ⟨desc_nil, fun r hr => by cases hr⟩, fun _ => rfl⟩
  | [r], h => ⟨fun _ => ⟨by simpa using desc_run (h r (by simp)), fun r hr => by cases hr⟩, fun _ => rfl⟩
  | r :: b :: rs, h => by
    have ih := new_desc (t := t) (rs := b :: rs) fun r hr => h r (List.mem_cons_of_mem _ hr)
    unfold newestIn
    rw [Bool.and_eq_true, ih, List.all_eq_true]
    have hf : (r :: b :: rs).flatten = r ++ (b :: rs).flatten := rfl
    rw [hf]
    have hd : (r :: b :: rs).dropLast = r :: (b :: rs).dropLast := rfl
    rw [hd]
    unfold descP
    rw [List.pairwise_append]
    constructor
    · rintro ⟨h1, h2, h3⟩
      refine ⟨⟨desc_run (h r (by simp)), h2, fun x hx y hy hk => ?_⟩, fun q hq => ?_⟩
      · obtain ⟨c, hc, hyc⟩ := List.mem_flatten.mp hy
        exact ((newestB_iff (h c (List.mem_cons_of_mem _ hc))).mp (h1 c hc)).2 x hx y hyc hk
      · rcases List.mem_cons.mp hq with rfl | hq
        · exact ((newestB_iff (h b (by simp))).mp (h1 b (by simp))).1
        · exact h3 q hq
    · rintro ⟨⟨-, h2, h3⟩, h4⟩
      refine ⟨fun c hc => (newestB_iff (h c (List.mem_cons_of_mem _ hc))).mpr ⟨h4 r (by simp), fun x hx y hy hk => ?_⟩, h2, fun q hq => h4 q (List.mem_cons_of_mem _ hq)⟩
      exact h3 x hx y (List.mem_flatten.mpr ⟨c, hc, hy⟩) hk
end Go.Proofs.YtfhpkcamigkmdaaGreatDoor.R
namespace Go.Proofs.YtfhpkcamigkmdaaGreatDoor.W
open Go.RowKit K R

/-- a slice of entries reads as l, in blocks below B -/
structure Ents (w : World) (B : Nat) (A : Option Addr) (n : Nat) (l : List En) : Prop where
  len : l.length = n
  cell : ∀ i (h : i < l.length), ∃ b off : Nat, A = some ⟨b, off, none⟩ ∧ b < B ∧ w.cell? ⟨b, off + i * 4, none⟩ = some (.string l[i].key) ∧ w.cell? ⟨b, off + i * 4 + 1, none⟩ = some (.int .i64 l[i].val) ∧ w.cell? ⟨b, off + i * 4 + 2, none⟩ = some (.bool l[i].gone) ∧ w.cell? ⟨b, off + i * 4 + 3, none⟩ = some (.int .i64 l[i].time)
theorem Ents.below {w w' : World} {B B' n : Nat} {A : Option Addr} {l : List En} (h : Ents w B A n l) (hb : Below B' w w') (hB : B ≤ B') : Ents w' B A n l :=
  ⟨h.len, fun i hi => by
    obtain ⟨b, off, hA, hlt, c0, c1, c2, c3⟩ := h.cell i hi
    have hlt' : b < B' := Nat.lt_of_lt_of_le hlt hB
    exact ⟨b, off, hA, hlt, (hb.cell (p := ⟨b, off + i * 4, none⟩) hlt').trans c0, (hb.cell (p := ⟨b, off + i * 4 + 1, none⟩) hlt').trans c1, (hb.cell (p := ⟨b, off + i * 4 + 2, none⟩) hlt').trans c2, (hb.cell (p := ⟨b, off + i * 4 + 3, none⟩) hlt').trans c3⟩⟩
theorem Ents.more {w : World} {B B' n : Nat} {A : Option Addr} {l : List En} (h : Ents w B A n l) (hB : B ≤ B') : Ents w B' A n l :=
  ⟨h.len, fun i hi => by
    obtain ⟨b, off, hA, hlt, r⟩ := h.cell i hi
    exact ⟨b, off, hA, Nat.lt_of_lt_of_le hlt hB, r⟩⟩
theorem okE_parts (e : En) : okE e = (keyB e.key && (inB e.val 0 99 && ((!e.gone || decide (e.val = 0)) && inB e.time 1 999))) := by
  unfold okE inB
  cases keyB e.key <;> simp

set_option maxHeartbeats 4000000 in
theorem okEs (k : ByteArray) (v : Int) (g : Bool) (t : Int) (w : World) (hk : k.size ≤ maxLen) :
    Calls Tryz.prog 133 #[.agg #[.string k, .int .i64 v, .bool g, .int .i64 t]] w fun e w' => e = .returned (.bool (okE ⟨k, v, g, t⟩)) ∧ Below w.heap.size w w' := by
  rw [okE_parts]
  show Calls _ _ _ _ fun e w' => e = .returned (.bool (keyB k && (inB v 0 99 && ((!g || decide (v = 0)) && inB t 1 999)))) ∧ _
  rcases Bool.eq_false_or_eq_true (keyB k) with f1 | f1 <;> rcases Bool.eq_false_or_eq_true (inB v 0 99) with f2 | f2 <;> rcases Bool.eq_false_or_eq_true (inB t 1 999) with f3 | f3 <;> cases g <;> by_cases hv : v = 0 <;>
    (first | rw [f1, f2, f3] | rw [f1, f2] | rw [f1]) <;> (try (subst hv; exact absurd f2 (by decide)))
  all_goals
    go_enter Tryz.func133, Tryz.ntmps133
    go_wp2_with (first | (go_at_call 66; refine Calls.mono (keyS k _ hk) ?_; rintro e w' ⟨rfl, rfl⟩) | (go_at_call 61; refine (inS _ _ _ _).mono ?_; rintro e w' ⟨rfl, rfl⟩))
    go_ret
    exact ⟨by first | rfl | simp [hv], (Below.refl _ _).alloc (Nat.le_refl _) _⟩

/-- two strings, one way of three -/
theorem tri (a b : ByteArray) : (Op.bytesLess a.toList b.toList = true ∧ (a.toList == b.toList) = false) ∨ (Op.bytesLess a.toList b.toList = false ∧ a = b) ∨ (Op.bytesLess a.toList b.toList = false ∧ (a.toList == b.toList) = false) := by
  rcases Bool.eq_false_or_eq_true (lt a b) with h | h
  · exact .inl ⟨h, eqs_false.mpr (lt_ne h)⟩
  · rcases Bool.eq_false_or_eq_true (lt b a) with h2 | h2
    · exact .inr (.inr ⟨h, eqs_false.mpr (lt_ne h2).symm⟩)
    · exact .inr (.inl ⟨h, lt_total h h2⟩)
theorem ahead_v (k k2 : ByteArray) (v v2 : Int) (g g2 : Bool) (t t2 : Int) : R.ahead ⟨k, v, g, t⟩ ⟨k2, v2, g2, t2⟩ = (Op.bytesLess k.toList k2.toList || ((k.toList == k2.toList) && decide (t2 < t))) := rfl

set_option maxHeartbeats 4000000 in
theorem aheadS (k k2 : ByteArray) (v v2 : Int) (g g2 : Bool) (t t2 : Int) (w : World) :
    Calls Tryz.prog 134 #[.agg #[.string k, .int .i64 v, .bool g, .int .i64 t], .agg #[.string k2, .int .i64 v2, .bool g2, .int .i64 t2]] w fun e w' => e = .returned (.bool (R.ahead ⟨k, v, g, t⟩ ⟨k2, v2, g2, t2⟩)) ∧ Below w.heap.size w w' := by
  rw [ahead_v]
  have HB := Lib.hid (show Below w.heap.size w ((w.alloc (.cells #[.string k, .int .i64 v, .bool g, .int .i64 t] 83)).alloc (.cells #[.string k2, .int .i64 v2, .bool g2, .int .i64 t2] 83)) from ((Below.refl _ _).alloc (Nat.le_refl _) _).alloc (by simp) _)
  rcases tri k k2 with ⟨h1, h2⟩ | ⟨h1, h2⟩ | ⟨h1, h2⟩
  · rw [h1, h2]
    go_enter Tryz.func134, Tryz.ntmps134
    go_wp2
    go_ret
    exact ⟨rfl, HB.out⟩
  · subst h2
    have h3 : (k.toList == k.toList) = true := by simp
    rw [h1, h3]
    by_cases ht : t2 < t
    · go_enter Tryz.func134, Tryz.ntmps134
      go_wp2
      go_ret
      exact ⟨by simp [ht], HB.out⟩
    · go_enter Tryz.func134, Tryz.ntmps134
      go_wp2
      go_ret
      exact ⟨by simp [ht], HB.out⟩
  · rw [h1, h2]
    go_enter Tryz.func134, Tryz.ntmps134
    go_wp2
    go_ret
    exact ⟨rfl, HB.out⟩

/-- a world with the same memory lies as the first one does -/
theorem bel2 {b a W : World} (h : Below b.heap.size b a) (h1 : W.heap = a.heap) (h2 : W.os = a.os) (h3 : W.tape = a.tape) (h4 : W.output = a.output) : Below b.heap.size b W :=
  ⟨h2.trans h.os, h3.trans h.tape, h4.trans h.output, by rw [h1]; exact h.size, fun k hk => by rw [h1]; exact h.block k hk⟩
/-- the first entries are as a run wants them -/
def goodE (l : List En) (k : Nat) : Prop := (∀ i (h : i < l.length), i < k → okE l[i] = true) ∧ ∀ i (h : i + 1 < l.length), i + 1 < k → R.ahead l[i] l[i + 1] = true
theorem goodE_zero (l : List En) : goodE l 0 := ⟨fun i _ h => by omega, fun i _ h => by omega⟩
theorem goodE_one {l : List En} (h : 0 < l.length) (hk : okE l[0] = true) : goodE l 1 :=
  ⟨fun i _ h1 => by have : i = 0 := by omega
                    subst this; exact hk, fun i _ h1 => by omega⟩
theorem goodE_succ {l : List En} {k : Nat} (g : goodE l (k + 1)) (h : k + 1 < l.length) (hk : okE l[k + 1] = true) (hl : R.ahead l[k] l[k + 1] = true) : goodE l (k + 2) :=
  ⟨fun i hi h1 => by
    by_cases e : i = k + 1
    · subst e; exact hk
    · exact g.1 i hi (by omega), fun i hi h1 => by
    by_cases e : i = k
    · subst e; exact hl
    · exact g.2 i hi (by omega)⟩
theorem adjE_of : ∀ {l : List En}, (∀ i (h : i + 1 < l.length), R.ahead l[i] l[i + 1] = true) → adjE l = true
  | [], _ => rfl
  | [_], _ => rfl
  | a :: b :: t, h => by
    unfold adjE
    rw [Bool.and_eq_true]
    exact ⟨h 0 (by simp), adjE_of fun i hi => h (i + 1) (by simp only [List.length_cons] at hi ⊢; omega)⟩
theorem goodE_end {l : List En} (g : goodE l l.length) : runB l = decide (l.length ≤ 40) := by
  unfold runB
  have h1 : l.all okE = true := by
    rw [List.all_eq_true]
    intro e he
    obtain ⟨i, hi, rfl⟩ := List.getElem_of_mem he
    exact g.1 i hi hi
  rw [h1, adjE_of fun i hi => g.2 i hi hi]
  simp
theorem badE_ok {l : List En} {k : Nat} (h : k < l.length) (hk : okE l[k] = false) : runB l = false := by
  rw [← Bool.not_eq_true, run_iff]
  rintro ⟨-, h2, -⟩
  rw [h2 _ (List.getElem_mem h)] at hk; cases hk
theorem badE_ord {l : List En} {k : Nat} (h : k + 1 < l.length) (hk : R.ahead l[k] l[k + 1] = false) : runB l = false := by
  rw [← Bool.not_eq_true, run_iff]
  rintro ⟨-, -, h3⟩
  rw [(List.pairwise_iff_getElem.mp h3) k (k + 1) (by omega) h (by omega)] at hk; cases hk
theorem badE_long {l : List En} (h : ¬ l.length ≤ 40) : runB l = false := by
  unfold runB
  rw [decide_eq_false h]; rfl

end Go.Proofs.YtfhpkcamigkmdaaGreatDoor.W
