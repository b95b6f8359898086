/-
  Contracts of the program's kindNamed, readDeed, wellFormed and DeedRead.
-/
import Derived.Test.YtklphdomjhliaaaDoorHE
import Derived.Recover
import Derived.Defers
import Derived.StillTailTactics
namespace Go.Proofs.YtklphdomjhliaaaDoor.W
open Go.RowKit K R B

/-- two results, the second in a box -/
theorem results_tmp_cell {fn : Func} {p u : Tmp} {ty : TypeId} (h : fn.results = #[.tmp u, .cell p ty]) (tmps : Array Value) (P : Program) (w : World) :
    (results fn tmps).run P w =
      ((asAddr (tmps.getD p undef)).run P w).andThen fun a w₁ => ((loadVar ty a).run P w₁).andThen fun v w₂ => .ok (.tuple #[tmps.getD u undef, v]) w₂ := by
  simp only [results, h]
  simp [Sem.run_bind, Result.andThen]
theorem ret_tmp_cell {fn : Func} {p u : Tmp} {ty : TypeId} (h : fn.results = #[.tmp u, .cell p ty]) (tmps : Array Value) (w : World) (g : Nat) (cs : Array Value) (x : Value)
    (hp : tmps.getD p undef = .pointer (some ⟨g, 0, none⟩)) (hx : tmps.getD u undef = x) (hl : (loadVar ty ⟨g, 0, none⟩).run Tryd.prog w = .ok (.agg cs) w) :
    (results fn tmps).run Tryd.prog w = .ok (.tuple #[x, .agg cs]) w := by
  rw [results_tmp_cell h, hp, hx]
  simp [asAddr, Result.andThen, hl]

/-- the kinds so far are not the word's -/
def notYet (l : List UInt8) (j : Nat) : Prop := ∀ i : Nat, 1 ≤ i → i < j → nmL (i : Int) ≠ l
theorem notYet_end {l : List UInt8} (h : notYet l 7) : kindL l = 0 := by
  have a1 := h 1 (by omega) (by omega)
  have a2 := h 2 (by omega) (by omega)
  have a3 := h 3 (by omega) (by omega)
  have a4 := h 4 (by omega) (by omega)
  have a5 := h 5 (by omega) (by omega)
  have a6 := h 6 (by omega) (by omega)
  unfold kindL
  rw [if_neg (fun e => a1 e.symm), if_neg (fun e => a2 e.symm), if_neg (fun e => a3 e.symm), if_neg (fun e => a4 e.symm), if_neg (fun e => a5 e.symm), if_neg (fun e => a6 e.symm)]
def KindW (w : World) (s : ByteArray) (iv : Value) (wr : World) : Prop :=
  ∃ j : Nat, 1 ≤ j ∧ j ≤ 7 ∧ iv = .int .i64 (j : Nat) ∧ notYet s.data.toList j ∧ wr.heap[w.heap.size]? = some (.cells #[.string ⟨#[]⟩, .bool false, .bool false] 46 (0, 0)) ∧ Below w.heap.size w wr

set_option maxHeartbeats 8000000 in
set_option maxRecDepth 100000 in
theorem kindI (s : ByteArray) (w : World) :
    Calls Tryd.prog 39 #[.string s] w fun e w' => (kinB (kindL s.data.toList) = true ∧ e = .returned (.tuple #[.int .i64 (kindL s.data.toList), .agg #[.string (ofL (nmL (kindL s.data.toList))), .bool (hkB (kindL s.data.toList)), .bool (hnB (kindL s.data.toList))]]) ∨ kindL s.data.toList = 0 ∧ e = badV) ∧ Below w.heap.size w w' := by
  have hcon := mal_concrete
  go_enter Tryd.func39, Tryd.ntmps39
  go_wp2
  go_loopw [4] (fun iv wr => KindW w s iv wr) (fun iv _ => 7 - (intOf iv).toNat)
  case atStart => exact ⟨1, by omega, by omega, rfl, fun i h1 h2 => by omega, heap_alloc_new _ _, (Below.refl _ _).alloc (Nat.le_refl _) _⟩
  case round =>
    obtain ⟨j, hj1, hj7, rfl, hny, hbox, hb⟩ := hrel
    have HBX := Lib.hid hbox
    have HB := Lib.hid hb
    have HNY := Lib.hid hny
    have hsz := hb.size
    clear hbox hb hny
    have hlt := (Array.getElem?_eq_some_iff.1 HBX.out).1
    by_cases h6 : j ≤ 6
    · have HF := Lib.hid (fun W => formI (j : Int) W)
      have hkin : kinB (j : Int) = true := by unfold kinB; simp; omega
      have HKN := Lib.hid (kind_nm hkin)
      have HKI := Lib.hid hkin
      rw [hkin] at HF
      have HTL := Lib.hid (show (ofL (nmL (j : Int))).toList = nmL (j : Int) by rw [ByteArray.toList_eq, ofL_data])
      have HSL := Lib.hid (show s.toList = s.data.toList from ByteArray.toList_eq s)
      obtain ⟨N, hN⟩ : ∃ N, N = ofL (nmL (j : Int)) := ⟨_, rfl⟩
      obtain ⟨hk, hhk⟩ : ∃ b, b = hkB (j : Int) := ⟨_, rfl⟩
      obtain ⟨hn, hhn⟩ : ∃ b, b = hnB (j : Int) := ⟨_, rfl⟩
      rw [← hN, ← hhk, ← hhn] at HF
      rw [← hN] at HTL
      have HNN := Lib.hid hN
      have HHK := Lib.hid hhk
      have HHN := Lib.hid hhn
      clear hN hhk hhn hkin
      have z6 : (j : Int) ≤ 6 := by omega
      by_cases he : nmL (j : Int) = s.data.toList
      · have heq : (N.toList == s.toList) = true := by rw [HTL.out, HSL.out, he]; simp
        have HKK := Lib.hid (show kindL s.data.toList = (j : Int) by rw [← he]; exact HKN.out)
        clear he
        go_upto_region 6 with (go_at_call 21; refine Calls.mono (HF.out _) ?_; rintro e w1 ⟨rfl, hb1⟩; have hs1 := hb1.size)
        have hrow := heap_alloc_new w1 (.cells #[.string N, .bool hk, .bool hn] 46)
        have hbo := (heap_alloc_old w1 (.cells #[.string N, .bool hk, .bool hn] 46) (r := w.heap.size) (by omega)).trans ((hb1.block w.heap.size (by omega)).trans HBX.out)
        have HBB := Lib.hid ((HB.out.trans (hb1.mono hsz)).alloc (show w.heap.size ≤ w1.heap.size by omega) (.cells #[.string N, .bool hk, .bool hn] 46))
        obtain ⟨W1, hW1⟩ : ∃ W, W = w1.alloc (.cells #[.string N, .bool hk, .bool hn] 46) := ⟨_, rfl⟩
        rw [← hW1] at hrow hbo HBB ⊢
        have HBO := Lib.hid hbo
        obtain ⟨a0, a1, a2⟩ := cells_three hrow
        obtain ⟨b0, b1, b2⟩ := cells_three hbo
        have f0 := fun j => frozen_of_row W1 w.heap.size j _ _ hbo
        clear hW1 hrow hbo hb1 HF HNY
        go_still_tail 3, (by kernel_rfl)
        change wpList _ _ _ _ _ W1.drew
        have d0 : W1.drew.cell? ⟨w.heap.size, 0, none⟩ = some (.string ⟨#[]⟩) := b0
        have d1 : W1.drew.cell? ⟨w.heap.size, 1, none⟩ = some (.bool false) := b1
        have d2 : W1.drew.cell? ⟨w.heap.size, 2, none⟩ = some (.bool false) := b2
        have g0 : ∀ j, W1.drew.frozen? ⟨w.heap.size, j, none⟩ = false := f0
        clear a0 a1 a2 b0 b1 b2 f0
        have HB2 := Lib.hid (show W1.drew.heap[w.heap.size]? = _ from HBO.out)
        have HB3 := Lib.hid (belw (W := W1.drew) HBB.out (by rfl) (by rfl) (by rfl) (by rfl))
        obtain ⟨W2, hW2⟩ : ∃ W, W = W1.drew := ⟨_, rfl⟩
        rw [← hW2] at d0 d1 d2 g0 HB2 HB3 ⊢
        clear hW2 HBB HBO
        go_wp2
        refine bodyPost_ret (v := .tuple #[.int .i64 (j : Int), .agg #[.string N, .bool hk, .bool hn]]) ?_ rfl ⟨.inl ⟨by rw [HKK.out]; exact HKI.out, by rw [HKK.out, HNN.out, HHK.out, HHN.out]⟩, ?_⟩
        · exact ret_tmp_cell rfl _ _ w.heap.size _ _ rfl rfl (load_form (box_three HB2.out _ _ _))
        · exact ((HB3.out.setCell (Nat.le_refl _) _).setCell (Nat.le_refl _) _).setCell (Nat.le_refl _) _
      · have heq : (N.toList == s.toList) = false := by rw [HTL.out, HSL.out]; simpa using he
        have HNE := Lib.hid he
        clear he
        go_wp2_with (go_at_call 21; refine Calls.mono (HF.out _) ?_; rintro e w1 ⟨rfl, hb1⟩; have hs1 := hb1.size)
        go_roundw
        case rel =>
          refine ⟨j + 1, by omega, by omega, by go_num, fun i h1 h2 => ?_, ?_, ?_⟩
          · by_cases hi : i = j
            · rw [hi]; exact HNE.out
            · exact HNY.out i h1 (by omega)
          · exact (heap_alloc_old w1 _ (r := w.heap.size) (by omega)).trans ((hb1.block w.heap.size (by omega)).trans HBX.out)
          · exact (HB.out.trans (hb1.mono hsz)).alloc (by omega) _
        case measure => simp [intOf]; omega
    · obtain rfl : j = 7 := by omega
      have HK := Lib.hid (notYet_end HNY.out)
      go_wp2
      exact ⟨rfl, .inr ⟨HK.out, rfl⟩, HB.out⟩

theorem split_mem (c : UInt8) : ∀ (l cur : List UInt8), ∀ x ∈ splitGo c cur l, x.length ≤ cur.length + l.length
  | [], cur, x, hx => by
    rw [splitGo, List.mem_singleton] at hx; rw [hx]; simp
  | y :: r, cur, x, hx => by
    rw [splitGo] at hx
    split at hx
    · rcases List.mem_cons.mp hx with h | h
      · rw [h]; omega
      · have := split_mem c r [] x h
        rw [List.length_cons]; simp at this; omega
    · have := split_mem c r _ x hx
      rw [List.length_append] at this
      rw [List.length_cons]; simp at this; omega
/-- what belongs to a word, as the program reads it -/
def parQ (k : Int) (a b : Bool) (r : List (List UInt8)) : Option De :=
  match a, b, r with
  | true, true, x :: y :: _ => if (atoiR y).2 = true then some ⟨k, keyQ x, (atoiR y).1⟩ else none
  | true, false, x :: _ => some ⟨k, keyQ x, 0⟩
  | false, true, y :: _ => if (atoiR y).2 = true then some ⟨k, ByteArray.empty, (atoiR y).1⟩ else none
  | false, false, _ => some ⟨k, ByteArray.empty, 0⟩
  | _, _, _ => none
/-- words read as a deed, as the program reads them -/
def parP (ws : List (List UInt8)) : Option De :=
  match ws with
  | [] => none
  | w0 :: r => if kinB (kindL w0) = true then parQ (kindL w0) (hkB (kindL w0)) (hnB (kindL w0)) r else none
theorem keyQ_dot (k : ByteArray) : keyQ (46 :: k.data.toList) = k := by
  unfold keyQ
  rw [if_pos (by rfl)]
  exact of_data k
theorem parP_deed {d : De} (h : deedL d ≠ []) : parP (splitL 32 (deedL d)) = some d := by
  obtain ⟨h1, h2, _⟩ := deed_ne h
  have hk := fit_key h2
  have hn := fit_num h2
  rw [split_deed h]
  have ha : atoiR (decL d.num.toNat) = (d.num, true) := by
    rw [atoi_dec _ (by omega)]; congr 1; omega
  obtain ⟨k, key, num⟩ := d
  simp only at *
  unfold parP
  simp only [kind_nm h1, h1, if_true]
  unfold parQ
  cases hkk : hkB k <;> cases hnn : hnB k
  · rw [hk.2 hkk, hn.2.2 hnn]
  · simp only [Bool.false_eq_true, if_false, if_true, List.nil_append, ha]
    rw [hk.2 hkk]
  · simp only [Bool.false_eq_true, if_false, if_true, List.append_nil, keyQ_dot]
    rw [hn.2.2 hnn]
  · simp only [if_true, List.cons_append, List.nil_append, ha, keyQ_dot]
theorem readP {t : List UInt8} : readD t = (match parP (splitL 32 t) with | some d => if t ≠ [] ∧ deedL d = t then some d else none | none => none) := by
  cases hr : readD t with
  | some d =>
    obtain ⟨hne, hd⟩ := readD_some hr
    rw [← hd] at hne ⊢
    rw [parP_deed hne]
    simp [hne]
  | none =>
    cases hp : parP (splitL 32 t) with
    | none => rfl
    | some d =>
      simp only
      split
      · rename_i h
        rw [readD_of h.1 h.2] at hr; cases hr
      · rfl

set_option maxHeartbeats 2000000 in
set_option maxRecDepth 100000 in
theorem wordsI (s : ByteArray) (w : World) (hs : s.size ≤ 100) :
    Calls Tryd.prog 38 #[.string s] w fun e w' => ∃ g, e = .returned (.pointer (some ⟨g, 0, none⟩)) ∧ Wds w' g (splitL 32 s.data.toList) ∧ w.heap.size ≤ g ∧ Below w.heap.size w w' := by
  have HS := Lib.hid (fun W => splitW s 32 W hs)
  obtain ⟨l, hl⟩ : ∃ l, l = splitL 32 s.data.toList := ⟨_, rfl⟩
  have hln : l.length ≤ 101 := by
    rw [hl]; unfold splitL; rw [split_count]
    have := List.count_le_length (a := (32 : UInt8)) (l := s.data.toList)
    rw [len_l] at this; omega
  unfold SplitW at HS
  rw [← hl] at HS ⊢
  clear hl
  go_enter Tryd.func38, Tryd.ntmps38
  go_wp2_with (go_at_call 45; refine Calls.mono (HS.out _) ?_; rintro e w1 ⟨rfl, h1, h2⟩)
  go_ret
  have hlt := (Array.getElem?_eq_some_iff.1 h1).1
  refine ⟨w1.heap.size, rfl, ⟨w.heap.size, 0, l.length, heap_alloc_new _ _, hlt, Nat.le_refl _, by unfold maxLen; omega, fun i hi => ?_⟩, h2.size, h2.alloc h2.size _⟩
  rw [World.cell?_of_block (heap_alloc_old w1 _ hlt), cell_of_row _ _ _ _ _ _ h1, Nat.zero_add]
  unfold rowW
  rw [Nat.sub_self]
  simp [hi]
end Go.Proofs.YtklphdomjhliaaaDoor.W
