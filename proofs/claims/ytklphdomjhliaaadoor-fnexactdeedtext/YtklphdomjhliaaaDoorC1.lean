/-
  The mathematics of the program's scanner: runes, what is taken of them, and that a block's runes are read as its entries.
-/
import Derived.Test.YtklphdomjhliaaaDoorB1
import Derived.Lib.AtoiAll
import Derived.Laws.Cover4
import Derived.Laws.IdiomStrings
import Derived.Laws.RangeString
namespace Go.Proofs.YtklphdomjhliaaaDoor.B
open R K

/-- the runes of a text of ASCII letters -/
def rns (l : List UInt8) : List Int := l.map fun c => (c.toNat : Int)
theorem rns_app (a b : List UInt8) : rns (a ++ b) = rns a ++ rns b := by unfold rns; simp
theorem rns_cons (a : UInt8) (b : List UInt8) : rns (a :: b) = (a.toNat : Int) :: rns b := rfl
theorem rns_len (l : List UInt8) : (rns l).length = l.length := by unfold rns; simp
def letR (x : Int) : Bool := decide (97 ≤ x) && decide (x ≤ 100)
def digR (x : Int) : Bool := decide (48 ≤ x) && decide (x ≤ 57)
theorem letR_of (c : UInt8) : letR (c.toNat : Int) = letterB c := by
  unfold letR letterB; rw [Bool.eq_iff_iff]; simp; omega
theorem digR_of (c : UInt8) : digR (c.toNat : Int) = digB c := by
  unfold digR digB; rw [Bool.eq_iff_iff]; simp; omega
/-- runes as bytes -/
def bytesR (l : List Int) : List UInt8 := l.map fun x => UInt8.ofNat x.toNat
def strR (l : List Int) : ByteArray := ofL (bytesR l)
theorem bytes_rns (l : List UInt8) : bytesR (rns l) = l := by
  unfold bytesR rns
  rw [List.map_map]
  conv => rhs; rw [← List.map_id l]
  refine List.map_congr_left fun c _ => ?_
  simp
theorem encode_small (x : Int) (h0 : 0 ≤ x) (h1 : x < 128) : Utf8.encode x = ⟨#[UInt8.ofNat x.toNat]⟩ := by
  unfold Utf8.encode
  have hv : Utf8.valid x = true := by unfold Utf8.valid; simp; omega
  simp only [hv, if_true]
  rw [if_pos (by omega)]
theorem fold_small : ∀ (l : List Int) (s : ByteArray), (∀ x ∈ l, 0 ≤ x ∧ x < 128) → l.foldl (fun r n => r ++ Utf8.encode n) s = s ++ strR l
  | [], s, _ => by
    rw [List.foldl_nil]
    apply ByteArray.ext; simp [strR, ofL, bytesR]
  | x :: r, s, h => by
    rw [List.foldl_cons, fold_small r _ (fun y hy => h y (List.mem_cons_of_mem _ hy)), encode_small x (h x (List.mem_cons_self ..)).1 (h x (List.mem_cons_self ..)).2]
    apply ByteArray.ext; simp [strR, ofL, bytesR]
theorem runes_small (l : List Int) (h : ∀ x ∈ l, 0 ≤ x ∧ x < 128) : runesBytes l = strR l := by
  unfold runesBytes
  rw [fold_small l _ h]
  apply ByteArray.ext; simp
theorem let_small {x : Int} (h : letR x = true) : 0 ≤ x ∧ x < 128 := by
  unfold letR at h; simp at h; omega
theorem dig_small {x : Int} (h : digR x = true) : 0 ≤ x ∧ x < 128 := by
  unfold digR at h; simp at h; omega
theorem take_all {p : Int → Bool} (l : List Int) : ∀ x ∈ l.takeWhile p, p x = true := by
  intro x hx
  exact List.all_eq_true.mp (List.all_takeWhile (l := l) (p := p)) x hx
theorem strR_size (l : List Int) : (strR l).size = l.length := by unfold strR; rw [ofL_size]; unfold bytesR; simp

/-! a rune is skipped, a number is read -/
def skipB (c : Int) : List Int → Bool
  | [] => false
  | x :: _ => decide (x = c)
def skipR (c : Int) (l : List Int) : List Int := if skipB c l = true then l.drop 1 else l
def atoiR (l : List UInt8) : Int × Bool := match Lib.atoiAll l with
  | .ok v => (v, true)
  | .syntax => (0, false)
  | .range => (Lib.atoiSat l, false)
def numV (c : Int) (l : List Int) : Int × Bool := if skipB c l = true then atoiR (bytesR ((l.drop 1).takeWhile digR)) else (0, false)
def numT (c : Int) (l : List Int) : List Int := if skipB c l = true then (l.drop 1).dropWhile digR else l
def keyR (l : List Int) : ByteArray := strR (l.takeWhile letR)
def afterK (l : List Int) : List Int := l.dropWhile letR
def afterV (l : List Int) : List Int := numT 61 (afterK l)
def afterT (l : List Int) : List Int := numT 45 (afterV l)
def entR (l : List Int) : En := ⟨keyR l, (numV 61 (afterK l)).1, !(numV 61 (afterK l)).2, (numV 45 (afterV l)).1⟩
def okR (l : List Int) : Bool := (numV 45 (afterV l)).2 && skipB 59 (afterT l)
def restR (l : List Int) : List Int := if (numV 45 (afterV l)).2 = true then skipR 59 (afterT l) else afterT l

theorem drop_le (p : Int → Bool) (l : List Int) : (l.dropWhile p).length ≤ l.length := by
  have := List.takeWhile_append_dropWhile (p := p) (l := l)
  have h2 := congrArg List.length this
  rw [List.length_append] at h2; omega
theorem take_le (p : Int → Bool) (l : List Int) : (l.takeWhile p).length ≤ l.length := by
  have := List.takeWhile_append_dropWhile (p := p) (l := l)
  have h2 := congrArg List.length this
  rw [List.length_append] at h2; omega
theorem skip_le (c : Int) (l : List Int) : (skipR c l).length ≤ l.length := by
  unfold skipR; split
  · rw [List.length_drop]; omega
  · omega
theorem num_le (c : Int) (l : List Int) : (numT c l).length ≤ l.length := by
  unfold numT; split
  · have := drop_le digR (l.drop 1); rw [List.length_drop] at this; omega
  · omega
theorem skip_lt {c : Int} {l : List Int} (h : skipB c l = true) : (skipR c l).length + 1 = l.length := by
  unfold skipR; rw [if_pos h]
  cases l with
  | nil => cases h
  | cons x r => simp
theorem numT_lt {c : Int} {l : List Int} (h : (numV c l).2 = true) : (numT c l).length + 1 ≤ l.length := by
  unfold numV at h
  split at h
  · rename_i h1
    unfold numT; rw [if_pos h1]
    have := drop_le digR (l.drop 1)
    cases l with
    | nil => cases h1
    | cons x r => simp at this ⊢; omega
  · cases h
theorem key_le (l : List Int) : (keyR l).size ≤ l.length := by unfold keyR; rw [strR_size]; exact take_le _ _
/-- an entry that is read takes two runes at least -/
theorem rest_lt {l : List Int} (h : okR l = true) : (restR l).length + 2 ≤ l.length := by
  unfold okR at h
  obtain ⟨h1, h2⟩ := Bool.and_eq_true_iff.mp h
  unfold restR; rw [if_pos h1]
  have a := skip_lt h2
  have b := numT_lt h1
  have c : (afterV l).length ≤ (afterK l).length := num_le _ _
  have d : (afterK l).length ≤ l.length := drop_le letR l
  have e : (afterT l).length = (numT 45 (afterV l)).length := rfl
  omega
theorem ok_nil : okR [] = false := rfl

/-! what a block's runes are read as -/
theorem parse_dec (u : Nat) (hu : u < 10000) : Lib.atoiAll (decL u) = .ok (u : Int) := by
  have hp : ∀ (n : Nat) (l : List UInt8) (a : Nat), n = l.length → a < 10000 → (∀ c ∈ l, digB c = true) → numL a l < 10000 → Lib.parseUint10 a l = .ok (numL a l) := by
    intro n
    induction n with
    | zero =>
      intro l a hn ha _ _
      have : l = [] := List.eq_nil_of_length_eq_zero hn.symm
      subst this; rfl
    | succ n ih =>
      intro l a hn ha hd hlt
      cases l with
      | nil => cases hn
      | cons c r =>
        have hc := hd c (List.mem_cons_self ..)
        have hc2 : 48 ≤ c.toNat ∧ c.toNat ≤ 57 := by unfold digB at hc; simpa using hc
        rw [numL, if_pos (by omega), if_pos hc] at hlt ⊢
        have hge : ∀ (l : List UInt8) (a : Nat), a ≤ numL a l := by
          intro l
          induction l with
          | nil => intro a; exact Nat.le_refl _
          | cons c r ih =>
            intro a
            rw [numL]
            split
            · refine Nat.le_trans ?_ (ih _)
              split <;> omega
            · exact Nat.le_refl _
        have h2 := hge r (a * 10 + (c.toNat - 48))
        rw [Lib.parseUint10, if_pos hc2, if_neg (by omega), if_neg (by omega)]
        exact ih r _ (by simpa using hn) (by omega) (fun x hx => hd x (List.mem_cons_of_mem _ hx)) hlt
  have h1 := hp _ (decL u) 0 rfl (by omega) (dec_dig u) (by rw [num_dec u (by omega)]; exact hu)
  rw [num_dec u (by omega)] at h1
  cases e : decL u with
  | nil => exact absurd e (dec_ne u)
  | cons c r =>
    have hc := dec_dig u c (by rw [e]; exact List.mem_cons_self ..)
    have hc2 : 48 ≤ c.toNat ∧ c.toNat ≤ 57 := by unfold digB at hc; simpa using hc
    rw [e] at h1
    unfold Lib.atoiAll
    simp only
    rw [if_neg (by omega)]
    unfold Lib.parseMag
    rw [if_neg (by simp), h1]
    simp only
    rw [if_neg (by omega), if_neg (by omega), if_neg (by omega)]
theorem atoi_dec (u : Nat) (hu : u < 10000) : atoiR (decL u) = ((u : Int), true) := by unfold atoiR; rw [parse_dec u hu]
theorem while_rns {p : Int → Bool} {q : UInt8 → Bool} (hpq : ∀ c : UInt8, p (c.toNat : Int) = q c) : ∀ (a : List UInt8) (x : UInt8) (b : List UInt8), (∀ c ∈ a, q c = true) → q x = false →
    (rns (a ++ x :: b)).takeWhile p = rns a ∧ (rns (a ++ x :: b)).dropWhile p = rns (x :: b)
  | [], x, b, _, hx => by
    rw [List.nil_append, rns_cons, List.takeWhile_cons, List.dropWhile_cons, hpq, hx]
    exact ⟨rfl, rfl⟩
  | c :: r, x, b, h, hx => by
    have hc := h c (List.mem_cons_self ..)
    obtain ⟨h1, h2⟩ := while_rns hpq r x b (fun y hy => h y (List.mem_cons_of_mem _ hy)) hx
    rw [List.cons_append, rns_cons, List.takeWhile_cons, List.dropWhile_cons, hpq, hc]
    simp only [if_true]
    rw [h1, h2]
    exact ⟨rfl, rfl⟩
/-- a number behind its sign -/
theorem num_rns (c : UInt8) (u : Nat) (hu : u < 10000) (x : UInt8) (hx : digB x = false) (b : List UInt8) :
    numV (c.toNat : Int) (rns (c :: (decL u ++ x :: b))) = ((u : Int), true) ∧ numT (c.toNat : Int) (rns (c :: (decL u ++ x :: b))) = rns (x :: b) := by
  have hs : skipB (c.toNat : Int) (rns (c :: (decL u ++ x :: b))) = true := by rw [rns_cons]; simp [skipB]
  have hd : (rns (c :: (decL u ++ x :: b))).drop 1 = rns (decL u ++ x :: b) := rfl
  obtain ⟨h1, h2⟩ := while_rns digR_of (decL u) x b (dec_dig u) hx
  unfold numV numT
  rw [if_pos hs, if_pos hs, hd, h1, h2, bytes_rns, atoi_dec u hu]
  exact ⟨rfl, rfl⟩
theorem num_miss (c x : UInt8) (h : x ≠ c) (b : List UInt8) : numV (c.toNat : Int) (rns (x :: b)) = (0, false) ∧ numT (c.toNat : Int) (rns (x :: b)) = rns (x :: b) := by
  have hs : ¬ skipB (c.toNat : Int) (rns (x :: b)) = true := by
    rw [rns_cons]; simp only [skipB, decide_eq_true_eq]
    intro e; exact h (UInt8.toNat_inj.mp (by omega))
  unfold numV numT
  rw [if_neg hs, if_neg hs]
  exact ⟨rfl, rfl⟩
theorem ent_rns {e : En} (h : okE e = true) (t : List UInt8) : entR (rns (bodyL e ++ 59 :: t)) = e ∧ okR (rns (bodyL e ++ 59 :: t)) = true ∧ restR (rns (bodyL e ++ 59 :: t)) = rns t := by
  obtain ⟨a1, a2, a3, a4, a5, a6, a7⟩ := okE_all h
  have hT := num_rns 45 e.time.toNat (by omega) 59 (by decide) t
  have hk := of_data e.key
  cases hg : e.gone with
  | true =>
    have hb : bodyL e ++ 59 :: t = e.key.data.toList ++ 45 :: (decL e.time.toNat ++ 59 :: t) := by unfold bodyL; rw [hg]; simp
    rw [hb]
    obtain ⟨k1, k2⟩ := while_rns letR_of e.key.data.toList 45 (decL e.time.toNat ++ 59 :: t) a2 (by decide)
    have m := num_miss 61 45 (by decide) (decL e.time.toNat ++ 59 :: t)
    have eK : afterK (rns (e.key.data.toList ++ 45 :: (decL e.time.toNat ++ 59 :: t))) = rns (45 :: (decL e.time.toNat ++ 59 :: t)) := k2
    have eV : afterV (rns (e.key.data.toList ++ 45 :: (decL e.time.toNat ++ 59 :: t))) = rns (45 :: (decL e.time.toNat ++ 59 :: t)) := by unfold afterV; rw [eK]; exact m.2
    have eT : afterT (rns (e.key.data.toList ++ 45 :: (decL e.time.toNat ++ 59 :: t))) = rns (59 :: t) := by unfold afterT; rw [eV]; exact hT.2
    have v1 : numV 61 (afterK (rns (e.key.data.toList ++ 45 :: (decL e.time.toNat ++ 59 :: t)))) = (0, false) := by rw [eK]; exact m.1
    have v2 : numV 45 (afterV (rns (e.key.data.toList ++ 45 :: (decL e.time.toNat ++ 59 :: t)))) = ((e.time.toNat : Int), true) := by rw [eV]; exact hT.1
    have sk : skipB 59 (rns (59 :: t)) = true := by rw [rns_cons]; rfl
    refine ⟨?_, ?_, ?_⟩
    · unfold entR
      rw [v1, v2]
      refine En.ext' ?_ (a5 hg).symm hg.symm ?_
      · show keyR _ = _
        unfold keyR strR; rw [k1, bytes_rns]; exact hk
      · show ((e.time.toNat : Nat) : Int) = _; omega
    · unfold okR; rw [v2, eT, sk]; rfl
    · unfold restR; rw [v2, eT]; rw [if_pos rfl]; unfold skipR; rw [if_pos sk]; rfl
  | false =>
    have hb : bodyL e ++ 59 :: t = e.key.data.toList ++ 61 :: (decL e.val.toNat ++ 45 :: (decL e.time.toNat ++ 59 :: t)) := by unfold bodyL; rw [hg]; simp
    rw [hb]
    have hV := num_rns 61 e.val.toNat (by omega) 45 (by decide) (decL e.time.toNat ++ 59 :: t)
    generalize hX : decL e.val.toNat ++ 45 :: (decL e.time.toNat ++ 59 :: t) = X at *
    obtain ⟨k1, k2⟩ := while_rns letR_of e.key.data.toList 61 X a2 (by decide)
    have eK : afterK (rns (e.key.data.toList ++ 61 :: X)) = rns (61 :: X) := k2
    have eV : afterV (rns (e.key.data.toList ++ 61 :: X)) = rns (45 :: (decL e.time.toNat ++ 59 :: t)) := by unfold afterV; rw [eK]; exact hV.2
    have eT : afterT (rns (e.key.data.toList ++ 61 :: X)) = rns (59 :: t) := by unfold afterT; rw [eV]; exact hT.2
    have v1 : numV 61 (afterK (rns (e.key.data.toList ++ 61 :: X))) = ((e.val.toNat : Int), true) := by rw [eK]; exact hV.1
    have v2 : numV 45 (afterV (rns (e.key.data.toList ++ 61 :: X))) = ((e.time.toNat : Int), true) := by rw [eV]; exact hT.1
    have sk : skipB 59 (rns (59 :: t)) = true := by rw [rns_cons]; rfl
    refine ⟨?_, ?_, ?_⟩
    · unfold entR
      rw [v1, v2]
      refine En.ext' ?_ ?_ hg.symm ?_
      · show keyR _ = _
        unfold keyR strR; rw [k1, bytes_rns]; exact hk
      · show ((e.val.toNat : Nat) : Int) = _; omega
      · show ((e.time.toNat : Nat) : Int) = _; omega
    · unfold okR; rw [v2, eT, sk]; rfl
    · unfold restR; rw [v2, eT]; rw [if_pos rfl]; unfold skipR; rw [if_pos sk]; rfl

/-! a text's runes -/
theorem runes_list (s : ByteArray) : ∀ (n i : Nat) (acc : List Int), ∃ l : List Int, l.length ≤ acc.length + n ∧ Conv.runesFrom s n i (acc.map (Value.int .i32)).toArray = (l.map (Value.int .i32)).toArray
  | 0, _, acc => ⟨acc, by omega, rfl⟩
  | n + 1, i, acc => by
    unfold Conv.runesFrom
    split
    · have h : ((acc.map (Value.int .i32)).toArray.push (.int .i32 (Int.ofNat (Utf8.decode s i).1))) = ((acc ++ [Int.ofNat (Utf8.decode s i).1]).map (Value.int .i32)).toArray := by simp
      obtain ⟨l, h1, h2⟩ := runes_list s n (i + (Utf8.decode s i).2) (acc ++ [Int.ofNat (Utf8.decode s i).1])
      refine ⟨l, by simp at h1; omega, ?_⟩
      rw [← h2, ← h]
    · exact ⟨acc, by omega, rfl⟩
theorem decode_small (s : ByteArray) (i : Nat) (h : i < s.size) (hb : s[i].toNat < 128) : Utf8.decode s i = (s[i].toNat, 1) := decode_ascii s i h hb
theorem runes_small_from (s : ByteArray) (ha : ∀ c ∈ s.data.toList, c.toNat < 128) : ∀ (n i : Nat) (acc : List Int), i + n = s.size →
    Conv.runesFrom s n i (acc.map (Value.int .i32)).toArray = ((acc ++ rns (s.data.toList.drop i)).map (Value.int .i32)).toArray
  | 0, i, acc, h => by
    rw [List.drop_eq_nil_of_le (by simp; omega)]
    simp [Conv.runesFrom, rns]
  | n + 1, i, acc, h => by
    have hi : i < s.size := by omega
    have hl : i < s.data.toList.length := by simpa using hi
    have hg : s.data.toList[i] = s[i] := by simp [ByteArray.getElem_eq_getElem_data]
    have hb : s[i].toNat < 128 := by rw [← hg]; exact ha _ (List.getElem_mem hl)
    unfold Conv.runesFrom
    rw [if_pos hi, decode_small s i hi hb]
    have hp : ((acc.map (Value.int .i32)).toArray.push (.int .i32 (Int.ofNat s[i].toNat))) = ((acc ++ [(s[i].toNat : Int)]).map (Value.int .i32)).toArray := by simp
    show Conv.runesFrom s n (i + 1) ((acc.map (Value.int .i32)).toArray.push (.int .i32 (Int.ofNat s[i].toNat))) = _
    rw [hp, runes_small_from s ha n (i + 1) _ (by omega), List.drop_eq_getElem_cons hl, hg, rns_cons]
    simp
/-- the runes of a text -/
theorem runes_of (s : ByteArray) : ∃ l : List Int, l.length ≤ s.size ∧ Conv.runesFrom s s.size 0 #[] = (l.map (Value.int .i32)).toArray ∧ ((∀ c ∈ s.data.toList, c.toNat < 128) → l = rns s.data.toList) ∧ (s.size = 0 → l = []) := by
  obtain ⟨l, h1, h2⟩ := runes_list s s.size 0 []
  refine ⟨l, by simpa using h1, by simpa using h2, fun ha => ?_, fun h0 => ?_⟩
  · have h3 := runes_small_from s ha s.size 0 [] (by omega)
    rw [h2] at h3
    have h4 := congrArg Array.toList h3
    simp only [List.nil_append, List.drop_zero] at h4
    have inj : ∀ a b : List Int, a.map (Value.int .i32) = b.map (Value.int .i32) → a = b := by
      intro a
      induction a with
      | nil => intro b h; cases b with | nil => rfl | cons x r => cases h
      | cons x r ih =>
        intro b h
        cases b with
        | nil => cases h
        | cons y t =>
          rw [List.map_cons, List.map_cons] at h
          injection h with e1 e2
          injection e1 with _ e1
          rw [e1, ih t e2]
    exact inj _ _ h4
  · rw [h0] at h1
    exact List.eq_nil_of_length_eq_zero (by simpa using h1)
theorem body_small {e : En} (h : okE e = true) : ∀ c ∈ bodyL e, c.toNat < 128 := by
  intro c hm
  unfold bodyL at hm
  have hdig : ∀ u, c ∈ decL u → c.toNat < 128 := fun u hc => by
    have := dec_dig u c hc
    unfold digB at this; simp at this; omega
  rcases List.mem_append.mp hm with hm | hm
  · have := (okE_all h).2.1 c hm
    unfold letterB at this; simp at this; omega
  · rcases List.mem_append.mp hm with hm | hm
    · split at hm
      · cases hm
      · rcases List.mem_cons.mp hm with hm | hm
        · subst hm; decide
        · exact hdig _ hm
    · rcases List.mem_cons.mp hm with hm | hm
      · subst hm; decide
      · exact hdig _ hm
theorem run_small : ∀ {l : List En}, (∀ e ∈ l, okE e = true) → ∀ c ∈ runL l, c.toNat < 128
  | [], _, c, hm => by simp [runL] at hm
  | e :: r, h, c, hm => by
    rw [run_cons] at hm
    rcases List.mem_append.mp hm with hm | hm
    · exact body_small (h e (List.mem_cons_self ..)) c hm
    · rcases List.mem_cons.mp hm with hm | hm
      · subst hm; decide
      · exact run_small (fun x hx => h x (List.mem_cons_of_mem _ hx)) c hm
theorem text_small {l : List En} (h : ∀ e ∈ l, okE e = true) : ∀ c ∈ textL l, c.toNat < 128 := by
  intro c hm
  unfold textL sealL at hm
  rcases List.mem_append.mp hm with hm | hm
  · exact run_small h c hm
  · rcases List.mem_cons.mp hm with hm | hm
    · subst hm; decide
    · have := dec_dig _ c hm
      unfold digB at this; simp at this; omega

end Go.Proofs.YtklphdomjhliaaaDoor.B
