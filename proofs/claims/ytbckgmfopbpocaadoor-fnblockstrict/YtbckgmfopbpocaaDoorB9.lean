/-
  The contract of the model's BlockRead.
-/
import Derived.Test.YtbckgmfopbpocaaDoorB8
import Derived.Test.YtbckgmfopbpocaaDoorEK
namespace Go.Proofs.YtbckgmfopbpocaaDoor.W
open Go.RowKit K R B

theorem read_long {t : List UInt8} (h : 400 < t.length) : readL t = none := by
  rw [read_none]
  rintro l ⟨_, h2⟩
  have := block_len l
  rw [h2] at this; omega
theorem hear_key (s : List UInt8) : (hearL s).key.size ≤ s.length := by
  unfold hearL
  split
  · rename_i a b hab
    have ha := split_mem (c := 45) (l := s) (x := a) (by rw [hab]; simp)
    split
    · rename_i k v hkv
      have hk := split_mem (c := 61) (l := a) (x := k) (by rw [hkv]; simp)
      show (ofL k).size ≤ _
      rw [ofL_size]; omega
    · show (ofL a).size ≤ _
      rw [ofL_size]; omega
  · exact Nat.zero_le _
/-- a row of strings and a row of entries are not the same block -/
theorem own_apart {w : World} {b1 b2 : Nat} {v1 v2 : Value} {l1 : List ByteArray} {l2 : List En} (h1 : Own w b1 v1 l1) (h2 : OwnE w b2 v2 l2) (k : Nat) (e1 : v1.ownBlock = some k) (e2 : v2.ownBlock = some k) : False := by
  rcases h1.2 with ⟨rfl, _⟩ | ⟨g1, c1, cur1, rfl, _, hg1, _⟩
  · cases e1
  · rcases h2.2 with ⟨rfl, _⟩ | ⟨g2, c2, cur2, rfl, _, hg2, _⟩
    · cases e2
    · have e3 : g1 = k := by injection e1
      have e4 : g2 = k := by injection e2
      subst e3
      subst e4
      rw [hg1] at hg2
      injection hg2 with e
      injection e with _ e
      revert e
      decide
theorem own_kept {w w' : World} {b1 b2 : Nat} {v1 v2 : Value} {l1 : List ByteArray} {l2 : List En} (h1 : Own w b1 v1 l1) (h2 : OwnE w b2 v2 l2) (hg : w.grownBy w' v2.ownBlock) : Own w' b1 v1 l1 :=
  World.ownsRow.kept h1 hg (by
    cases e : v1.ownBlock with
    | none => exact .inl rfl
    | some k => exact .inr (fun x => own_apart h1 h2 k e x.symm))
theorem split_head (c : UInt8) (l : List UInt8) : ∃ r, splitL c l = headL (splitL c l) :: r := by
  have := split_ne c l []
  unfold splitL
  cases e : splitGo c [] l with
  | nil => exact absurd e this
  | cons a r => exact ⟨r, rfl⟩
def readV (v : Value) (o : Option (List En)) : Value := .tuple #[v, .bool o.isSome]
/-- what BlockRead answers -/
def ReadA (w : World) (o : Option (List En)) (e : Ending) (w' : World) : Prop :=
  ∃ v, e = .returned (.tuple #[v, .bool o.isSome]) ∧ OwnE w' w.heap.size v (o.getD []) ∧ Below w.heap.size w w'
theorem strs_eq {a b : ByteArray} : (a.toList == b.toList) = eqs a b := rfl

set_option maxHeartbeats 8000000 in
set_option maxRecDepth 100000 in
/-- the model's BlockRead -/
theorem readS (s : ByteArray) (w : World) (hs : s.size ≤ 1000000000) :
    Calls Tryd.prog 16 #[.string s] w (ReadA w (readL s.data.toList)) := by
  by_cases h4 : s.size ≤ 400
  case neg =>
    have HR := Lib.hid (read_long (t := s.data.toList) (by rw [len_l]; omega))
    have h4i : (400 : Int) < (s.size : Int) := by omega
    go_enter Tryd.func16, Tryd.ntmps16
    go_wp2
    go_ret2
    exact ⟨_, by rw [HR.out]; rfl, by rw [HR.out]; exact emptyE w, (Below.refl _ _).alloc (Nat.le_refl _) _⟩
  have h4i : ¬ (400 : Int) < (s.size : Int) := by omega
  obtain ⟨hd, hhd⟩ : ∃ hd, hd = headL (splitL 33 s.data.toList) := ⟨_, rfl⟩
  have hhl : hd.length ≤ s.size := by
    rw [hhd]
    have hne := split_ne 33 s.data.toList []
    have hm := fun x h => split_mem (c := 33) (l := s.data.toList) (x := x) h
    unfold splitL at *
    generalize splitGo 33 [] s.data.toList = L at *
    cases L with
    | nil => exact absurd rfl hne
    | cons a r => have := hm a (List.mem_cons_self ..); rw [len_l] at this; exact this
  obtain ⟨L, hL⟩ : ∃ L, L = splitL 59 hd := ⟨_, rfl⟩
  have hLne : L ≠ [] := by rw [hL]; exact split_ne 59 hd []
  have hLm : ∀ x ∈ L, x.length ≤ 400 := fun x hx => by rw [hL] at hx; have := split_mem hx; omega
  have hpar : parseL s.data.toList = L.dropLast.map hearL := by rw [hL, hhd]; rfl
  have hLn : 1 ≤ L.length := by cases L with | nil => exact absurd rfl hLne | cons _ _ => simp
  have hLn2 : L.length ≤ 401 := by
    have h : ∀ (l cur : List UInt8), (splitGo 59 cur l).length ≤ l.length + 1 := by
      intro l
      induction l with
      | nil => intro cur; simp [splitGo]
      | cons x r ih => intro cur; rw [splitGo]; split <;> (have := ih []; have := ih (cur ++ [x]); simp; omega)
    have := h hd []
    rw [hL]; unfold splitL; omega
  obtain ⟨r1, hr1⟩ := split_head 33 s.data.toList
  rw [← hhd] at hr1
  obtain ⟨SH, hSH⟩ : ∃ S, S = ofL hd := ⟨_, rfl⟩
  obtain ⟨R1, hR1⟩ : ∃ R, R = r1.map ofL := ⟨_, rfl⟩
  have HS1 := Lib.hid (show ∀ W, Calls Tryd.prog 36 #[.string s, .int .u8 33] W fun e w' => ∃ v, e = .returned v ∧ Own w' W.heap.size v (SH :: R1) ∧ Below W.heap.size W w' from fun W => by have := splitS s 33 W (by omega); rw [hr1, List.map_cons, ← hSH, ← hR1] at this; exact this)
  have HS2 := Lib.hid (show ∀ W, Calls Tryd.prog 36 #[.string SH, .int .u8 59] W fun e w' => ∃ v, e = .returned v ∧ Own w' W.heap.size v (L.map ofL) ∧ Below W.heap.size W w' from fun W => by have := splitS (ofL hd) 59 W (by rw [ofL_size]; omega); rw [ofL_data, ← hL, ← hSH] at this; exact this)
  obtain ⟨W0, hW0⟩ : ∃ W, W = w.alloc (.cells #[] 43) := ⟨_, rfl⟩
  have HB0 := Lib.hid (show Below w.heap.size w W0 by rw [hW0]; exact (Below.refl _ _).alloc (Nat.le_refl _) _)
  have HO0 := Lib.hid (show OwnE W0 w.heap.size (.slice (some ⟨w.heap.size, 0, none⟩) 0 0) [] by rw [hW0]; exact emptyE w)
  have HW0 := Lib.hid hW0
  have HPAR := Lib.hid hpar
  clear hW0 hhd hL hpar hLne hr1 hSH hR1
  go_enter Tryd.func16, Tryd.ntmps16
  go_wp2_with fail
  rw [← HW0.out]
  go_at_call 36
  refine Calls.mono (HS1.out _) ?_
  rintro e w1 ⟨v1, rfl, ho1, hb1⟩
  obtain ⟨A1, c1, rfl, hc1, hm1, hst1⟩ := ho1.parts
  obtain ⟨g1, o1, hA1, hg1, q0⟩ := hst1.cell 0 (by simp)
  subst hA1
  rw [Nat.add_zero] at q0
  replace q0 : w1.cell? ⟨g1, o1, none⟩ = some (.string SH) := q0
  have z1 : (0 : Int) < ((SH :: R1).length : Int) := by rw [List.length_cons]; omega
  generalize (SH :: R1).length = n1 at *
  have HO1 := Lib.hid (rowBelow HO0.out hb1)
  have HB1 := Lib.hid (HB0.out.trans (hb1.mono HB0.out.size))
  clear ho1 hb1 hst1 HO0 HB0 HW0 HS1
  go_wp2_with fail
  go_at_call 36
  refine Calls.mono (HS2.out _) ?_
  rintro e w2 ⟨v2, rfl, ho2, hb2⟩
  obtain ⟨A2, c2, rfl, hc2, hm2, -⟩ := ho2.parts
  have hlm : (L.map ofL).length = L.length := by simp
  rw [hlm] at ho2 hc2 ⊢
  have HO2 := Lib.hid (rowBelow HO1.out hb2)
  have HB2 := Lib.hid (HB1.out.trans (hb2.mono HB1.out.size))
  have HL2 := Lib.hid ho2
  have hW1 : w.heap.size ≤ w1.heap.size := HB1.out.size
  clear ho2 hb2 HO1 HB1 HS2 q0 z1
  go_wp2_with fail
  go_loopw [4, 6] (fun ov iv wr => ∃ k : Nat, k + 1 ≤ L.length ∧ iv = .int .i64 (k : Nat) ∧ OwnE wr w.heap.size ov ((L.take k).map hearL) ∧ Own wr w1.heap.size (.slice A2 L.length c2) (L.map ofL) ∧ Below w.heap.size w wr) (fun _ iv _ => L.length - (intOf iv).toNat)
  case atStart => exact ⟨0, hLn, rfl, HO2.out, HL2.out, HB2.out⟩
  case round =>
    obtain ⟨k, hk, rfl, ho, hl, hb⟩ := hrel
    have HO := Lib.hid ho
    have HL := Lib.hid hl
    have HB := Lib.hid hb
    have hsz := hb.size
    clear ho hl hb HO2 HL2 HB2
    have e1 : IntKind.i64.wrap ((k : Int) + 1) = (k : Int) + 1 := z64 _ (by omega) (by omega)
    by_cases hlt : k + 1 < L.length
    · obtain ⟨A3, c3, hv3, -, -, hst⟩ := HL.out.parts
      rw [hlm] at hv3 hst
      injection hv3 with ea eb ec
      subst ea ec
      obtain ⟨g2, o2, hA, hg2, q0⟩ := hst.cell k (by simp; omega)
      subst hA
      have hLk : (L.map ofL)[k]'(by simp; omega) = ofL (L[k]'(by omega)) := by simp
      rw [hLk] at q0
      have hkl := hLm _ (List.getElem_mem (by omega : k < L.length))
      have HH := Lib.hid (show ∀ W, Calls Tryd.prog 37 #[.string (ofL (L[k]'(by omega)))] W fun e w' => e = .returned (enV (hearL (L[k]'(by omega)))) ∧ Below W.heap.size W w' from fun W => by have := hearS (ofL (L[k]'(by omega))) W (by rw [ofL_size]; omega); rwa [ofL_data] at this)
      have HTK := Lib.hid (show (L.take (k + 1)).map hearL = (L.take k).map hearL ++ [hearL (L[k]'(by omega))] by rw [List.take_succ_eq_append_getElem (by omega), List.map_append]; rfl)
      have hln : ((L.take k).map hearL).length ≤ 401 := by rw [List.length_map, List.length_take]; omega
      obtain ⟨E, hE⟩ : ∃ E, E = hearL (L[k]'(by omega)) := ⟨_, rfl⟩
      obtain ⟨O, hO⟩ : ∃ O, O = (L.take k).map hearL := ⟨_, rfl⟩
      obtain ⟨SK, hSK⟩ : ∃ S, S = ofL (L[k]'(by omega)) := ⟨_, rfl⟩
      rw [← hE, ← hSK] at HH
      rw [← hSK] at q0
      rw [← hE, ← hO] at HTK
      rw [← hO] at HO hln
      have z0 : (0 : Int) ≤ (k : Int) := by omega
      have z1 : (k : Int) < (L.length : Int) := by omega
      have z2 : (k : Int) + 1 < (L.length : Int) := by omega
      clear hst hE hO hSK hkl hLk
      go_wp2_with fail
      go_at_call 37
      refine Calls.mono (HH.out _) ?_
      rintro e w3 ⟨rfl, hb3⟩
      have HO3 := Lib.hid (rowBelow HO.out hb3)
      have HL3 := Lib.hid (rowBelow HL.out hb3)
      have HB3 := Lib.hid (HB.out.trans (hb3.mono hsz))
      have hsz3 := HB3.out.size
      have bA : Below w3.heap.size w3 (w3.alloc (.cells #[.string E.key, .int .i64 E.val, .bool E.gone, .int .i64 E.time] 43)) := (Below.refl _ _).alloc (Nat.le_refl _) _
      have HOA := Lib.hid (rowBelow HO3.out bA)
      have HLA := Lib.hid (rowBelow HL3.out bA)
      have HBA := Lib.hid (HB3.out.trans (bA.mono hsz3))
      obtain ⟨y0, y1, y2, y3, -, -, -, -⟩ := row_four (heap_alloc_new w3 (.cells #[.string E.key, .int .i64 E.val, .bool E.gone, .int .i64 E.time] 43))
      unfold enV
      clear hb3 bA HO3 HL3
      go_wp2_with (at_builtin; go_must (refine app_en rfl (.tmp 24) (.tmp 30) rfl (w3.alloc (.cells #[.string E.key, .int .i64 E.val, .bool E.gone, .int .i64 E.time] 43)) w.heap.size _ O rfl HOA.out w3.heap.size 1 E rfl y0 y1 y2 y3 (by omega) HBA.out.size ?_); intro vb wb ob gb; have OB := Lib.hid ob; have LB := Lib.hid (own_kept HLA.out HOA.out gb); have BB := Lib.hid (HBA.out.grown gb HBA.out.size fun k hk => (World.ownsRow.lt HOA.out k hk).1); clear ob gb)
      go_wp2
      go_roundw
      case rel => exact ⟨k + 1, by omega, by go_num, by rw [HTK.out]; exact OB.out, LB.out, BB.out⟩
      case measure => simp [intOf]; omega
    · have hke : k + 1 = L.length := by omega
      have z2 : ¬ (k : Int) + 1 < (L.length : Int) := by omega
      have hdl : (L.take k).map hearL = parseL s.data.toList := by rw [HPAR.out, List.dropLast_eq_take, ← hke]; rfl
      rw [hdl] at HO
      have hkey : ∀ e ∈ parseL s.data.toList, e.key.size ≤ 400 := by
        rw [← hdl]
        intro e he
        obtain ⟨x, hx, rfl⟩ := List.mem_map.mp he
        have h1 := hLm x (List.mem_of_mem_take hx)
        have h2 := hear_key x
        omega
      have hpl : (parseL s.data.toList).length ≤ 401 := by rw [← hdl, List.length_map, List.length_take]; omega
      obtain ⟨AO, cO, hvO, hcO, hmO, hen⟩ := ownE_parts HO.out
      subst hvO
      have HBT := Lib.hid (blockS wr wr.heap.size _ cO AO _ hen (Nat.le_refl _) (by unfold maxLen; omega) (fun e he => by have := hkey e he; unfold maxLen; omega))
      by_cases h0 : s.size = 0
      · have hse : s = ⟨#[]⟩ := by
          have : s.data.toList = [] := List.eq_nil_of_length_eq_zero (by rw [len_l]; exact h0)
          rw [← of_data s, this]; rfl
        have HR := Lib.hid (show readL s.data.toList = none by rw [hse]; exact read_empty)
        subst hse
        clear hdl hkey hen
        go_wp2
        go_ret2
        exact ⟨_, by rw [HR.out]; rfl, by rw [HR.out]; exact ownE_base (emptyE wr) hsz, HB.out.alloc hsz _⟩
      · have hne : s.data.toList ≠ [] := by
          intro e
          have := congrArg List.length e
          rw [len_l] at this
          exact h0 this
        have hb1 : s.toList.isEmpty = false := by
          rw [ByteArray.toList_eq]
          cases e : s.data.toList with
          | nil => exact absurd e hne
          | cons x r => rfl
        obtain ⟨X, hX⟩ : ∃ X, X = ofL (blockL (parseL s.data.toList)) := ⟨_, rfl⟩
        rw [← hX] at HBT
        cases he : (X.toList == s.toList) with
        | true =>
          have hXs : X = s := eqs_iff.mp he
          have HR := Lib.hid (show readL s.data.toList = some (parseL s.data.toList) by
            unfold readL
            rw [if_pos ⟨hne, by rw [hX] at hXs; have := congrArg (fun x : ByteArray => x.data.toList) hXs; simpa [ofL_data] using this⟩])
          clear hdl hkey hen hX hXs hne
          go_wp2_with (go_at_call 12; refine Calls.mono HBT.out ?_; rintro e w5 ⟨rfl, hb5⟩; have HO5 := Lib.hid (rowBelow HO.out hb5); have HB5 := Lib.hid (HB.out.trans (hb5.mono hsz)); clear hb5)
          go_ret2
          exact ⟨_, by rw [HR.out]; rfl, by rw [HR.out]; exact HO5.out, HB5.out⟩
        | false =>
          have hXs : X ≠ s := eqs_false.mp he
          have HR := Lib.hid (show readL s.data.toList = none by
            unfold readL
            rw [if_neg (fun h => hXs (by rw [hX, h.2, of_data]))])
          clear hdl hkey hen hX hXs hne
          go_wp2_with (go_at_call 12; refine Calls.mono HBT.out ?_; rintro e w5 ⟨rfl, hb5⟩; have HB5 := Lib.hid (HB.out.trans (hb5.mono hsz)); clear hb5)
          go_ret2
          exact ⟨_, by rw [HR.out]; rfl, by rw [HR.out]; exact ownE_base (emptyE w5) HB5.out.size, HB5.out.alloc HB5.out.size _⟩

end Go.Proofs.YtbckgmfopbpocaaDoor.W
