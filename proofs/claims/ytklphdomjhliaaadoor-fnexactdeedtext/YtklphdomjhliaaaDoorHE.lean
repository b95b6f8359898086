/-
  Contracts of the program's words: strings.Split at one byte, strings.CutPrefix, and how words are read one by one.
-/
import Derived.Test.YtklphdomjhliaaaDoorHD
import Derived.Lib.Bytealg
import Derived.Laws.Externs
import Derived.Laws.Rows
import Derived.Lib.AppendZerosOnto
namespace Go.Proofs.YtklphdomjhliaaaDoor.W
open Go.RowKit K R B

theorem countW (s : ByteArray) (c : UInt8) (w : World) : Calls Tryd.prog 62 #[.string s, .string ⟨#[c]⟩] w fun e w' => e = .returned (.int .i64 ((s.data.toList.count c : Nat) : Int)) ∧ w = w' := by
  obtain ⟨M, hM⟩ : ∃ M : Nat, M = s.data.toList.count c := ⟨_, rfl⟩
  have hx : (callFunc 74 #[.string s, .int .u8 (c.toNat : Int)]).run Tryd.prog w = .ok (.value (.int .i64 (M : Int))) w := by
    rw [run_callFunc_extern Tryd.func74 (by kernel_rfl) (by kernel_rfl) (by kernel_rfl) (e := Extern.BytealgCount.count) (by kernel_rfl), Lib.run_countString]
    unfold Lib.countByte
    rw [hM]
    simp [Result.andThen]
  rw [← hM]
  clear hM
  go_enter Tryd.func62, Tryd.ntmps62
  have hx2 : (callFunc 74 #[.string s, .int .u8 (((⟨#[c]⟩ : ByteArray)[0]'(by show 0 < 1; omega)).toNat : Int)]).run Tryd.prog w = .ok (.value (.int .i64 (M : Int))) w := hx
  go_wp2
  go_ret
  exact ⟨rfl, rfl⟩

theorem byteW (s : ByteArray) (c : UInt8) (w : World) : Calls Tryd.prog 80 #[.string s, .int .u8 (c.toNat : Int)] w fun e w' => e = .returned (.int .i64 (Lib.indexByte s.data.toList c)) ∧ w = w' := by
  obtain ⟨M, hM⟩ : ∃ M : Int, M = Lib.indexByte s.data.toList c := ⟨_, rfl⟩
  have hx : (callFunc 86 #[.string s, .int .u8 (c.toNat : Int)]).run Tryd.prog w = .ok (.value (.int .i64 M)) w := by
    rw [run_callFunc_extern Tryd.func86 (by kernel_rfl) (by kernel_rfl) (by kernel_rfl) (e := Extern.BytealgIndexByte.indexByte) (by kernel_rfl), Lib.run_indexByteString]
    rw [hM]
    simp [Result.andThen]
  rw [← hM]
  clear hM
  go_enter Tryd.func80, Tryd.ntmps80
  go_wp2
  go_ret
  exact ⟨rfl, rfl⟩

theorem indexW (s : ByteArray) (c : UInt8) (w : World) : Calls Tryd.prog 63 #[.string s, .string ⟨#[c]⟩] w fun e w' => e = .returned (.int .i64 (Lib.indexByte s.data.toList c)) ∧ w = w' := by
  have HX := Lib.hid (fun W => byteW s c W)
  have HI : ∀ W, Calls Tryd.prog 75 #[.string s, .string ⟨#[c]⟩] W fun e w' => e = .returned (.int .i64 (Lib.indexByte s.data.toList c)) ∧ W = w' := by
    intro W
    obtain ⟨M, hM⟩ : ∃ M : Int, M = Lib.indexByte s.data.toList c := ⟨_, rfl⟩
    rw [← hM] at HX ⊢
    by_cases hq : s.toList = [c]
    · have HM := Lib.hid (show M = 0 by rw [hM, show s.data.toList = [c] by rw [← ByteArray.toList_eq, hq]]; simp [Lib.indexByte])
      have hq2 : ([c] == s.toList) = true := by rw [hq]; simp
      clear hM hq
      go_enter Tryd.func75, Tryd.ntmps75
      go_wp2
      go_ret
      exact ⟨ret_int HM.out.symm, rfl⟩
    · have hq2 : ([c] == s.toList) = false := by simpa using fun h => hq h.symm
      have HC : Hid (∀ W, Calls Tryd.prog 80 #[.string s, .int .u8 (((⟨#[c]⟩ : ByteArray)[0]'(by show 0 < 1; omega)).toNat : Int)] W fun e w' => e = .returned (.int .i64 M) ∧ W = w') := HX
      clear hM hq HX
      go_enter Tryd.func75, Tryd.ntmps75
      go_wp2_with (go_at_call 80; refine Calls.mono (HC.out _) ?_; rintro e w1 ⟨rfl, rfl⟩)
      go_ret
      exact ⟨rfl, rfl⟩
  have HII := Lib.hid HI
  clear HI
  go_enter Tryd.func63, Tryd.ntmps63
  go_wp2_with (go_at_call 75; refine Calls.mono (HII.out _) ?_; rintro e w1 ⟨rfl, rfl⟩)
  go_ret
  exact ⟨rfl, rfl⟩

/-- where a byte stands first -/
theorem ix_cases (l : List UInt8) (c : UInt8) : (Lib.indexByte l c = -1 ∧ c ∉ l) ∨ ∃ a b, l = a ++ c :: b ∧ c ∉ a ∧ Lib.indexByte l c = (a.length : Int) := by
  induction l with
  | nil => exact .inl ⟨rfl, by simp⟩
  | cons x r ih =>
    unfold Lib.indexByte
    by_cases hx : x = c
    · subst hx
      exact .inr ⟨[], r, rfl, by simp, by simp⟩
    · have hx' : (x == c) = false := by simpa using hx
      rw [hx']
      simp only [Bool.false_eq_true, if_false]
      rcases ih with ⟨e, hn⟩ | ⟨a, b, e, hn, hi⟩
      · rw [e]
        exact .inl ⟨rfl, fun hm => by rcases List.mem_cons.mp hm with h | h; exact hx h.symm; exact hn h⟩
      · rw [hi]
        have : ((a.length : Int) == -1) = false := by simp
        rw [this]
        exact .inr ⟨x :: a, b, by rw [e]; rfl, fun hm => by rcases List.mem_cons.mp hm with h | h; exact hx h.symm; exact hn h, by simp⟩
theorem split_count (c : UInt8) : ∀ (l cur : List UInt8), (splitGo c cur l).length = l.count c + 1
  | [], _ => by simp [splitGo]
  | x :: r, cur => by
    rw [splitGo]
    split
    · rename_i h
      rw [List.length_cons, split_count c r, h, List.count_cons_self]
    · rename_i h
      rw [split_count c r, List.count_cons_of_ne h]
/-- the row into which a text is cut: the pieces so far, and empty ones -/
def rowW (n : Nat) (acc : List (List UInt8)) : Array Value := ((acc.map fun l => Value.string (ofL l)) ++ List.replicate (n - acc.length) (Value.string ⟨#[]⟩)).toArray
theorem rowW_size (n : Nat) (acc : List (List UInt8)) (h : acc.length ≤ n) : (rowW n acc).size = n := by unfold rowW; simp; omega
theorem rowW_set (n : Nat) (acc : List (List UInt8)) (x : List UInt8) (h : acc.length < n) : (rowW n acc).setIfInBounds acc.length (.string (ofL x)) = rowW n (acc ++ [x]) := by
  unfold rowW
  apply Array.toList_inj.mp
  have e : n - acc.length = (n - (acc.length + 1)) + 1 := by omega
  simp only [Array.toList_setIfInBounds, List.map_append, List.map_cons, List.map_nil, List.length_append, List.length_cons, List.length_nil]
  rw [e, List.replicate_succ]
  simp
theorem rowW_one (n : Nat) (acc : List (List UInt8)) : (rowW n acc).all (·.oneCell') = true := by
  unfold rowW; simp [Value.oneCell']
theorem made_strs (n : Nat) : (madeCells (Value.cells (.string ⟨#[]⟩)) (n * 1)).toList = List.replicate n (Value.string ⟨#[]⟩) := by
  unfold madeCells
  apply List.ext_getElem
  · simp
  · intro i h1 h2
    simp [Value.cells, Nat.mod_one]
set_option maxRecDepth 100000 in
theorem make_strs (W : World) (n : Nat) (hn : n ≤ 1000000) : (Instr.makeSlice 41 (.int .i64 (n : Int)) (.int .i64 (n : Int))).run Tryd.prog W = .ok (.slice (some ⟨W.heap.size, 0, none⟩) n n) (W.alloc (.cells (rowW n []) 9)) := by
  obtain ⟨i, hi, hp⟩ := Option.map_eq_some_iff.mp (show (Tryd.prog.info? 9).map (fun i => (i.zero, i.size, i.bytes)) = some (some (.string ⟨#[]⟩), 1, 16) by kernel_rfl)
  injection hp with hz h2
  injection h2 with h1 hb
  rw [run_make W 41 9 i (.string ⟨#[]⟩) Tryd.underlying41 hi hz .i64 .i64 n n (by omega) (Int.le_refl _) (by rw [hb]; omega) (by omega)]
  simp only [Int.toNat_natCast]
  congr 3
  rw [h1]
  apply Array.toList_inj.mp
  rw [made_strs]
  unfold rowW; simp
/-- at the loop's head -/
def CutW (w : World) (s : ByteArray) (c : UInt8) (n : Nat) (sv iv : Value) (wr : World) : Prop :=
  ∃ (cur : ByteArray) (acc : List (List UInt8)), sv = .string cur ∧ iv = .int .i64 (acc.length : Nat) ∧ wr.heap[w.heap.size]? = some (.cells (rowW n acc) 9 (0, 0)) ∧ acc.length + cur.data.toList.count c + 1 = n ∧ cur.size ≤ s.size ∧ Below w.heap.size w wr ∧
    acc ++ splitL c cur.data.toList = splitL c s.data.toList
/-- what is told of a text that was cut -/
def SplitW (w : World) (s : ByteArray) (c : UInt8) (e : Ending) (w' : World) : Prop :=
  e = .returned (.slice (some ⟨w.heap.size, 0, none⟩) (splitL c s.data.toList).length (splitL c s.data.toList).length) ∧ w'.heap[w.heap.size]? = some (.cells (rowW (splitL c s.data.toList).length (splitL c s.data.toList)) 9 (0, 0)) ∧ Below w.heap.size w w'

set_option maxHeartbeats 8000000 in
set_option maxRecDepth 100000 in
theorem genW (s : ByteArray) (c : UInt8) (w : World) (hs : s.size ≤ 100) :
    Calls Tryd.prog 52 #[.string s, .string ⟨#[c]⟩, .int .i64 0, .int .i64 (-1)] w (SplitW w s c) := by
  have HC := Lib.hid (fun W => countW s c W)
  obtain ⟨m, hm⟩ : ∃ m, m = s.data.toList.count c := ⟨_, rfl⟩
  have hms : m ≤ s.size := by rw [hm, ← len_l]; exact List.count_le_length ..
  rw [← hm] at HC
  have HN := Lib.hid (show (splitL c s.data.toList).length = m + 1 by rw [hm]; exact split_count c _ _)
  have HM := Lib.hid hm
  clear hm
  have z1 : ¬ (m : Int) + 1 < 0 := by omega
  have hmin : min (m : Int) (s.size : Int) = (m : Int) := by omega
  have hmk : ∀ W : World, (Instr.makeSlice 41 (.int .i64 ((m : Int) + 1)) (.int .i64 ((m : Int) + 1))).run Tryd.prog W = .ok (.slice (some ⟨W.heap.size, 0, none⟩) (m + 1) (m + 1)) (W.alloc (.cells (rowW (m + 1) []) 9)) := fun W => make_strs W (m + 1) (by omega)
  obtain ⟨W0, hW0⟩ : ∃ W, W = w.alloc (.cells (rowW (m + 1) []) 9) := ⟨_, rfl⟩
  have HR := Lib.hid (show W0.heap[w.heap.size]? = some (.cells (rowW (m + 1) []) 9 (0, 0)) by rw [hW0]; exact heap_alloc_new _ _)
  have HB := Lib.hid (show Below w.heap.size w W0 by rw [hW0]; exact (Below.refl _ _).alloc (Nat.le_refl _) _)
  have HW := Lib.hid hW0
  clear hW0
  go_enter Tryd.func52, Tryd.ntmps52
  go_wp2_with (go_at_call 62; refine Calls.mono (HC.out _) ?_; rintro e w1 ⟨rfl, rfl⟩)
  rw [← HW.out]
  go_loopw [0, 10] (fun sv iv wr => CutW w s c (m + 1) sv iv wr) (fun _ iv _ => m - (intOf iv).toNat)
  case atStart => exact ⟨s, [], rfl, rfl, HR.out, by rw [← HM.out]; simp, Nat.le_refl _, HB.out, rfl⟩
  case round =>
    obtain ⟨cur, acc, rfl, rfl, hrow, hcnt, hcs, hb, heq⟩ := hrel
    have HX := Lib.hid (fun W => indexW cur c W)
    have hal : acc.length ≤ m := by omega
    have hsz := rowW_size (m + 1) acc (by omega)
    have hcell : wr.cell? ⟨w.heap.size, acc.length, none⟩ = some (.string ⟨#[]⟩) := by
      rw [cell_of_row _ _ _ _ _ _ hrow]
      unfold rowW
      rw [show m + 1 - acc.length = (m - acc.length) + 1 by omega, List.replicate_succ]
      simp
    have hfr := frozen_of_row _ _ acc.length _ _ hrow
    have HRO := Lib.hid hrow
    have HBL := Lib.hid hb
    have HE := Lib.hid heq
    have HCN := Lib.hid hcnt
    have z2 : (0 : Int) ≤ (acc.length : Int) := by omega
    have z3 : (acc.length : Int) < (m : Int) + 1 := by omega
    by_cases hlt : acc.length < m
    · have z4 : (acc.length : Int) < (m : Int) := by omega
      rcases ix_cases cur.data.toList c with ⟨hi, hno⟩ | ⟨a, b, hab, hna, hi⟩
      · exact absurd hcnt (by rw [List.count_eq_zero.mpr hno]; omega)
      · rw [hi] at HX
        have hcl : cur.size = a.length + b.length + 1 := by rw [← len_l, hab]; simp; omega
        have e1 : cur.extract 0 a.length = ofL a := by rw [ext_l, hab]; simp
        have e2 : cur.extract (a.length + 1) cur.size = ofL b := by
          rw [ext_l, ← len_l, List.take_length, hab, show a ++ c :: b = (a ++ [c]) ++ b by simp, List.drop_left' (by simp)]
        have HS1 := Lib.hid (rowW_set (m + 1) acc a (by omega))
        have HS2 := Lib.hid (heap_setCell_same wr w.heap.size acc.length _ _ (.string (ofL a)) hrow)
        have HS3 := Lib.hid (show (acc ++ [a]) ++ splitL c b = splitL c s.data.toList by
          rw [← heq, hab]
          unfold splitL
          rw [split_at c a b [] hna]
          simp)
        have HS4 := Lib.hid (show (acc ++ [a]).length + b.count c + 1 = m + 1 by
          rw [hab, List.count_append, List.count_eq_zero.mpr hna, List.count_cons_self] at hcnt
          rw [List.length_append]; simp; omega)
        clear hrow hb heq hcnt hab hna hi hsz
        have z5 : (0 : Int) ≤ (a.length : Int) := by omega
        have z6 : (a.length : Int) ≤ (cur.size : Int) := by omega
        have z7 : (a.length : Int) + 1 ≤ (cur.size : Int) := by omega
        have z8 : ¬ (a.length : Int) < 0 := by omega
        go_wp2_with (go_at_call 63; refine Calls.mono (HX.out _) ?_; rintro e w1 ⟨rfl, rfl⟩)
        go_roundw
        case rel =>
          refine ⟨ofL b, acc ++ [a], ?_, ?_, ?_, ?_, ?_, ?_, ?_⟩
          · rw [← e2, hcl]
          · simp
          · rw [HS2.out, HS1.out]
          · rw [ofL_data]; exact HS4.out
          · rw [ofL_size]; omega
          · exact HBL.out.setCell (Nat.le_refl _) _
          · rw [ofL_data]; exact HS3.out
        case measure => simp [intOf]; omega
    · have hz : acc.length = m := by omega
      have HNO := Lib.hid (show splitL c cur.data.toList = [cur.data.toList] by
        unfold splitL
        rw [split_no c _ _ (List.count_eq_zero.mp (by omega))]; rfl)
      have HS1 := Lib.hid (rowW_set (m + 1) acc cur.data.toList (by omega))
      have HS2 := Lib.hid (heap_setCell_same wr w.heap.size acc.length _ _ (.string (ofL cur.data.toList)) hrow)
      have HD := Lib.hid (of_data cur)
      have HZ := Lib.hid hz
      clear hrow hb heq hcnt hsz
      have z4 : ¬ (acc.length : Int) < (m : Int) := by omega
      have z9 : (acc.length : Int) + 1 ≤ (m : Int) + 1 := by omega
      have z10 : (0 : Int) ≤ (acc.length : Int) + 1 := by omega
      clear hz
      go_wp2
      go_ret
      refine ⟨by rw [HN.out, ← HZ.out]; rfl, ?_, HBL.out.setCell (Nat.le_refl _) _⟩
      have h := HS2.out
      rw [HD.out] at h
      have h1 := HS1.out
      rw [HD.out] at h1
      rw [h, ← HE.out, HNO.out, h1]
      rw [List.length_append, List.length_singleton, HZ.out]

theorem splitW (s : ByteArray) (c : UInt8) (w : World) (hs : s.size ≤ 100) :
    Calls Tryd.prog 45 #[.string s, .string ⟨#[c]⟩] w (SplitW w s c) := by
  have HG := Lib.hid (fun W => genW s c W hs)
  go_enter Tryd.func45, Tryd.ntmps45
  go_wp2_with (go_at_call 52; refine Calls.mono (HG.out _) ?_; rintro e w1 ⟨rfl, h1, h2⟩)
  go_ret
  exact ⟨rfl, h1, h2⟩

/-- a word without the dot ahead of it -/
def dotB (l : List UInt8) : Bool := match l with | c :: _ => c == 46 | [] => false
theorem prefixW (s : ByteArray) (w : World) :
    Calls Tryd.prog 64 #[.string s, .string ⟨#[46]⟩] w fun e w' => e = .returned (.bool (dotB s.data.toList)) ∧ w = w' := by
  cases hl : s.data.toList with
  | nil =>
    have hz : s.size = 0 := by rw [← len_l, hl]; rfl
    have z1 : ¬ (s.size : Int) ≥ 1 := by omega
    have z0 : (s.size : Int) = 0 := by omega
    clear hl
    go_enter Tryd.func64, Tryd.ntmps64
    go_wp2
    go_ret
    exact ⟨rfl, rfl⟩
  | cons c r =>
    have hz : s.size = r.length + 1 := by rw [← len_l, hl]; rfl
    have z1 : (1 : Int) ≤ (s.size : Int) := by omega
    have HQ := Lib.hid (show ((s.extract 0 1).toList == [46]) = dotB (c :: r) by rw [ext_l, hl, ByteArray.toList_eq, ofL_data]; simp [dotB])
    clear hl
    go_enter Tryd.func64, Tryd.ntmps64
    go_wp2
    go_ret
    exact ⟨ret_bool HQ.out, rfl⟩

/-- what stands behind the dot, or the word -/
def cutL (s : ByteArray) : ByteArray := if dotB s.data.toList = true then ofL (s.data.toList.drop 1) else s
theorem cutI (s : ByteArray) (w : World) :
    Calls Tryd.prog 46 #[.string s, .string ⟨#[46]⟩] w fun e w' => e = .returned (.tuple #[.string (cutL s), .bool (dotB s.data.toList)]) ∧ w = w' := by
  have HP := Lib.hid (fun W => prefixW s W)
  have HI : ∀ W, Calls Tryd.prog 53 #[.string s, .string ⟨#[46]⟩] W fun e w' => e = .returned (.tuple #[.string (cutL s), .bool (dotB s.data.toList)]) ∧ W = w' := by
    intro W
    cases hd : dotB s.data.toList with
    | false =>
      rw [hd] at HP
      have HC := Lib.hid (show cutL s = s by unfold cutL; rw [hd]; rfl)
      clear hd
      go_enter Tryd.func53, Tryd.ntmps53
      go_wp2_with (go_at_call 64; refine Calls.mono (HP.out _) ?_; rintro e w1 ⟨rfl, rfl⟩)
      go_ret2
      exact ⟨by rw [HC.out]; rfl, rfl⟩
    | true =>
      rw [hd] at HP
      have hz : 1 ≤ s.size := by
        rw [← len_l]
        cases hl : s.data.toList with
        | nil => rw [hl] at hd; cases hd
        | cons c r => simp
      have z1 : (1 : Int) ≤ (s.size : Int) := by omega
      have HC := Lib.hid (show cutL s = s.extract 1 s.size by unfold cutL; rw [hd, ext_l, ← len_l, List.take_length]; rfl)
      clear hd
      go_enter Tryd.func53, Tryd.ntmps53
      go_wp2_with (go_at_call 64; refine Calls.mono (HP.out _) ?_; rintro e w1 ⟨rfl, rfl⟩)
      go_ret2
      exact ⟨by rw [HC.out]; rfl, rfl⟩
  have HII := Lib.hid HI
  clear HI HP
  go_enter Tryd.func46, Tryd.ntmps46
  go_wp2_with (go_at_call 53; refine Calls.mono (HII.out _) ?_; rintro e w1 ⟨rfl, rfl⟩)
  go_ret2
  exact ⟨rfl, rfl⟩

/-- the panic of a reader -/
def badV : Ending := .panicked [{ v := .iface 63 (.agg #[]), recovered := false }]
theorem mal_concrete : Tryd.prog.concrete 63 = true := by kernel_rfl
/-- the words at block g -/
def Wds (w : World) (g : Nat) (l : List (List UInt8)) : Prop :=
  ∃ b off c, w.heap[g]? = some (.cells #[.slice (some ⟨b, off, none⟩) l.length c] 75 (0, 0)) ∧ b < g ∧ l.length ≤ c ∧ c ≤ maxLen ∧ ∀ i (h : i < l.length), w.cell? ⟨b, off + i, none⟩ = some (.string (ofL l[i]))
theorem Wds.lt {w : World} {g : Nat} {l : List (List UInt8)} (h : Wds w g l) : g < w.heap.size := by
  obtain ⟨b, off, c, h1, _⟩ := h
  exact (Array.getElem?_eq_some_iff.1 h1).1
theorem Wds.below {B : Nat} {w w' : World} {g : Nat} {l : List (List UInt8)} (h : Wds w g l) (hb : Below B w w') (hg : g < B) : Wds w' g l := by
  obtain ⟨b, off, c, h1, h2, h3, h4, h5⟩ := h
  exact ⟨b, off, c, (hb.block g hg).trans h1, h2, h3, h4, fun i hi => (hb.cell (p := ⟨b, off + i, none⟩) (by show b < B; omega)).trans (h5 i hi)⟩
theorem wds_cut {w : World} {g b off c : Nat} {x : List UInt8} {r : List (List UInt8)} (h1 : w.heap[g]? = some (.cells #[.slice (some ⟨b, off, none⟩) (r.length + 1) c] 75 (0, 0))) (h2 : b < g) (h3 : r.length + 1 ≤ c) (h4 : c ≤ maxLen) (h5 : ∀ i (h : i < (x :: r).length), w.cell? ⟨b, off + i, none⟩ = some (.string (ofL (x :: r)[i]))) :
    Wds (w.setCell ⟨g, 0, none⟩ (.slice (some ⟨b, off + 1, none⟩) r.length (c - 1))) g r := by
  have hs := heap_setCell_same w g 0 _ _ (.slice (some ⟨b, off + 1, none⟩) r.length (c - 1)) h1
  refine ⟨b, off + 1, c - 1, ?_, h2, by omega, by omega, fun i hi => ?_⟩
  · rw [hs]; simp
  · rw [World.cell?_of_block (heap_setCell_other w ⟨g, 0, none⟩ _ _ (by show b ≠ g; omega))]
    have := h5 (i + 1) (by simp; omega)
    rw [show off + (i + 1) = off + 1 + i by omega] at this
    exact this
theorem wds_end {w : World} {g b off : Nat} {c : Nat} (h1 : w.heap[g]? = some (.cells #[.slice (some ⟨b, off, none⟩) 1 c] 75 (0, 0))) (h2 : b < g) :
    Wds (w.setCell ⟨g, 0, none⟩ (.slice (some ⟨b, off, none⟩) 0 0)) g [] := by
  have hs := heap_setCell_same w g 0 _ _ (.slice (some ⟨b, off, none⟩) 0 0) h1
  exact ⟨b, off, 0, by rw [hs]; simp, h2, Nat.le_refl _, by unfold maxLen; omega, fun i hi => absurd hi (by simp)⟩
theorem grown_putW {a w : World} {g : Nat} (h : a.grownBy w (some g)) (i : Nat) (u : Value) : a.grownBy (w.setCell ⟨g, i, none⟩ u) (some g) :=
  ⟨h.os, h.tape, h.output, by simpa [World.setCell] using h.size, fun k hk hn => (heap_setCell_other _ _ _ _ (by show k ≠ g; intro e; exact hn (by rw [e]))).trans (h.block k hk hn)⟩
theorem grown_reflW (w : World) (g : Nat) : w.grownBy w (some g) := ⟨rfl, rfl, rfl, Nat.le_refl _, fun _ _ _ => rfl⟩

set_option maxHeartbeats 2000000 in
set_option maxRecDepth 100000 in
theorem nextNil (w : World) (g : Nat) (h : Wds w g []) : Calls Tryd.prog 40 #[.pointer (some ⟨g, 0, none⟩)] w fun e w' => e = badV ∧ w = w' := by
  obtain ⟨b, off, c, h1, _⟩ := h
  have c0 : w.cell? ⟨g, 0, none⟩ = some (.slice (some ⟨b, off, none⟩) 0 c) := by rw [cell_of_row _ _ _ _ _ _ h1]; rfl
  have hcon := mal_concrete
  unfold badV
  go_enter Tryd.func40, Tryd.ntmps40
  go_wp2
  exact ⟨rfl, rfl, rfl⟩
set_option maxHeartbeats 2000000 in
set_option maxRecDepth 100000 in
theorem nextCons (w : World) (g : Nat) (x : List UInt8) (r : List (List UInt8)) (h : Wds w g (x :: r)) :
    Calls Tryd.prog 40 #[.pointer (some ⟨g, 0, none⟩)] w fun e w' => e = .returned (.string (ofL x)) ∧ Wds w' g r ∧ w.grownBy w' (some g) := by
  obtain ⟨b, off, c, h1, h2, h3, h4, h5⟩ := h
  rw [List.length_cons] at h1 h3
  have c0 : w.cell? ⟨g, 0, none⟩ = some (.slice (some ⟨b, off, none⟩) (r.length + 1) c) := by rw [cell_of_row _ _ _ _ _ _ h1]; rfl
  have f0 := frozen_of_row _ _ 0 _ _ h1
  have hx := h5 0 (by simp)
  simp only [Nat.add_zero, List.getElem_cons_zero] at hx
  have HC := Lib.hid (wds_cut h1 h2 h3 h4 h5)
  have HA := Lib.hid (show r.length = 0 → _ from fun e => wds_end (c := c) (by rw [e] at h1; exact h1) h2)
  have HR := Lib.hid (show r.length = 0 → r = [] from List.eq_nil_of_length_eq_zero)
  clear h1 h5
  have z0 : (0 : Int) ≤ (r.length : Int) + 1 := by omega
  have z1 : (1 : Int) ≤ (c : Int) := by omega
  go_enter Tryd.func40, Tryd.ntmps40
  go_wp2
  · obtain rfl : r = [] := List.eq_nil_of_length_eq_zero (by omega)
    go_ret
    exact ⟨rfl, HA.out rfl, grown_putW (grown_reflW _ _) _ _⟩
  · go_ret
    exact ⟨rfl, HC.out, grown_putW (grown_reflW _ _) _ _⟩

/-- a word as a key, as the program reads it -/
def keyQ (x : List UInt8) : ByteArray := if dotB x = true then ofL (x.drop 1) else ofL [45]
set_option maxHeartbeats 2000000 in
set_option maxRecDepth 100000 in
theorem keyNil (w : World) (g : Nat) (h : Wds w g []) : Calls Tryd.prog 41 #[.pointer (some ⟨g, 0, none⟩)] w fun e w' => e = badV ∧ w = w' := by
  have HN := Lib.hid (nextNil w g h)
  unfold badV at *
  go_enter Tryd.func41, Tryd.ntmps41
  go_wp2_with (go_at_call 40; refine Calls.mono HN.out ?_; rintro e w1 ⟨rfl, rfl⟩)
  exact ⟨rfl, rfl, rfl⟩
set_option maxHeartbeats 2000000 in
set_option maxRecDepth 100000 in
theorem keyCons (w : World) (g : Nat) (x : List UInt8) (r : List (List UInt8)) (h : Wds w g (x :: r)) :
    Calls Tryd.prog 41 #[.pointer (some ⟨g, 0, none⟩)] w fun e w' => e = .returned (.string (keyQ x)) ∧ Wds w' g r ∧ w.grownBy w' (some g) := by
  have HN := Lib.hid (nextCons w g x r h)
  have HC := Lib.hid (fun W => cutI (ofL x) W)
  rw [ofL_data] at HC
  cases hd : dotB x with
  | false =>
    rw [hd] at HC
    have HK := Lib.hid (show keyQ x = (⟨#[45]⟩ : ByteArray) by unfold keyQ; rw [hd]; rfl)
    clear hd h
    go_enter Tryd.func41, Tryd.ntmps41
    go_wp2_with (first | (go_at_call 40; refine Calls.mono HN.out ?_; rintro e w1 ⟨rfl, h1, h2⟩) | (go_at_call 46; refine Calls.mono (HC.out _) ?_; rintro e w2 ⟨rfl, rfl⟩))
    go_ret
    exact ⟨by rw [HK.out]; rfl, h1, h2⟩
  | true =>
    rw [hd] at HC
    have HK := Lib.hid (show keyQ x = cutL (ofL x) by unfold keyQ cutL; rw [ofL_data, hd]; rfl)
    clear hd h
    go_enter Tryd.func41, Tryd.ntmps41
    go_wp2_with (first | (go_at_call 40; refine Calls.mono HN.out ?_; rintro e w1 ⟨rfl, h1, h2⟩) | (go_at_call 46; refine Calls.mono (HC.out _) ?_; rintro e w2 ⟨rfl, rfl⟩))
    go_ret
    exact ⟨by rw [HK.out]; rfl, h1, h2⟩

set_option maxHeartbeats 2000000 in
set_option maxRecDepth 100000 in
theorem numNil (w : World) (g : Nat) (h : Wds w g []) : Calls Tryd.prog 42 #[.pointer (some ⟨g, 0, none⟩)] w fun e w' => e = badV ∧ w = w' := by
  have HN := Lib.hid (nextNil w g h)
  unfold badV at *
  go_enter Tryd.func42, Tryd.ntmps42
  go_wp2_with (go_at_call 40; refine Calls.mono HN.out ?_; rintro e w1 ⟨rfl, rfl⟩)
  exact ⟨rfl, rfl, rfl⟩
theorem grownBelowW {w w' w'' : World} {g : Nat} (h : w.grownBy w' (some g)) (hb : Below w'.heap.size w' w'') : w.grownBy w'' (some g) :=
  ⟨hb.os.trans h.os, hb.tape.trans h.tape, hb.output.trans h.output, Nat.le_trans h.size hb.size, fun k hk hn => (hb.block k (Nat.lt_of_lt_of_le hk h.size)).trans (h.block k hk hn)⟩
theorem grown_bW {B g : Nat} {w w' : World} (hg : w.grownBy w' (some g)) (hB : B ≤ g) (hs : B ≤ w.heap.size) : Below B w w' := (Below.refl B w).grown hg hs (fun k hk => by injection hk with e; omega)
set_option maxHeartbeats 2000000 in
set_option maxRecDepth 100000 in
theorem numCons (w : World) (g B : Nat) (x : List UInt8) (r : List (List UInt8)) (h : Wds w g (x :: r)) (hx : x.length ≤ 100) (hB : B ≤ g) (hE : ErrB B w) :
    Calls Tryd.prog 42 #[.pointer (some ⟨g, 0, none⟩)] w fun e w' => ((atoiR x).2 = true ∧ e = .returned (.int .i64 (atoiR x).1) ∧ Wds w' g r ∨ (atoiR x).2 = false ∧ e = badV) ∧ w.grownBy w' (some g) := by
  have HN := Lib.hid (nextCons w g x r h)
  have hgw := h.lt
  have HA := Lib.hid (fun W hW => atoiI (ofL x) B W (by rw [ofL_size]; omega) hW)
  rw [ofL_data] at HA
  have HE := Lib.hid hE
  clear h hE hx
  have hcon := mal_concrete
  unfold badV
  obtain ⟨V, hV⟩ : ∃ V, V = (atoiR x).1 := ⟨_, rfl⟩
  obtain ⟨K, hK⟩ : ∃ K, K = (atoiR x).2 := ⟨_, rfl⟩
  rw [← hV, ← hK] at HA ⊢
  clear hV hK
  go_enter Tryd.func42, Tryd.ntmps42
  go_wp2_with (first
    | (go_at_call 40; refine Calls.mono HN.out ?_; rintro e w1 ⟨rfl, h1, h2⟩; have H1 := Lib.hid h1; have H2 := Lib.hid h2; clear h1 h2)
    | (go_at_call 47; refine Calls.mono (HA.out _ (HE.out.on (grown_bW H2.out hB (by omega)))) ?_; rintro e w3 ⟨er, rfl, her, hb3⟩; have H3 := Lib.hid (H1.out.below hb3 H1.out.lt); have H4 := Lib.hid (grownBelowW H2.out hb3); have HER := Lib.hid her; clear her hb3))
  rcases HER.out with ⟨hk, rfl⟩ | ⟨hk, te, pe, rfl⟩
  · subst hk
    clear HER
    go_wp2
    go_ret
    exact ⟨⟨rfl, H3.out⟩, H4.out⟩
  · subst hk
    clear HER
    go_wp2
    exact ⟨rfl, rfl, H4.out⟩
end Go.Proofs.YtklphdomjhliaaaDoor.W
