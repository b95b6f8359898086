/-
  Contract of the model's SieveSeek: the walk.
  Contracts of the model's SieveSeek, at every filter and string that Go can hold, and of its SieveMeets at filters that are ones.
  Contract of the model's SieveMeets, at every filter and every two strings that Go can hold.
  The model's StoreLooks and StoreSpans.
  The program's partsMatch, and the memory of readTrie: a trie that is filled node by node.
  Contract of the program's partsMatch: it answers as the model's form does.
  The steps of the program's readTrie: branch by branch; no walk.
  What the model's SieveSeek and SieveMeets answer, in mathematics: no walk.
-/
import Derived.Test.YtfhpkcamigkmdaaGreatDoorZAV
import Derived.Test.YtfhpkcamigkmdaaGreatDoorQJ
import Derived.Test.YtfhpkcamigkmdaaGreatDoorJB
import Derived.Test.YtfhpkcamigkmdaaGreatDoorJ4
namespace Go.Proofs.YtfhpkcamigkmdaaGreatDoor.W
open Go.RowKit K

/-- l3Wholes and l3Behind, as they are called behind l3Heads in world w2 -/
theorem seek_calls {L M F : ByteArray} {l : List ByteArray} {kp : Nat} (hsv : svB L M F l kp = true) (A : Option Addr) (n c : Nat) (w2 : World) (B : Nat) (hr : Strs w2 B A n l) (hB : B ≤ w2.heap.size) (A2 : Option Addr) (c2 : Nat) (hst2 : Strs w2 w2.heap.size A2 (hsOf L M F l kp).length (hsOf L M F l kp)) (f : ByteArray) (t : Nat) (ht : (t : Int) = oneOr F 1) (W : World) (hW : W.heap = (w2.alloc (.cells #[] 4)).heap) (h2 : W.os = w2.os) (h3 : W.tape = w2.tape) (h4 : W.output = w2.output) :
    Calls Tryz.prog 123 #[.agg #[.string L, .string M, .string F, .slice A n c, .int .i64 kp], .int .i64 0, .int .i64 t, .slice (some ⟨w2.heap.size, 0, none⟩) 0 0] W fun e w5 =>
      ∃ A5 n5 c5, e = .returned (.slice A5 n5 c5) ∧ Below w2.heap.size w2 w5 ∧ ∀ W6 : World, W6.heap = w5.heap →
        Calls Tryz.prog 122 #[.slice A2 (hsOf L M F l kp).length c2, .slice A5 n5 c5, .string f] W6 fun e w' => e = .returned (.int .i64 (behI (hsOf L M F l kp) (wsOf L M F l kp) f : Nat)) ∧ W6 = w' := by
  have hb : Below w2.heap.size w2 W := Below.heap ((Below.refl _ _).alloc (Nat.le_refl _) _) hW h2 h3 h4
  have hsz : W.heap.size = w2.heap.size + 1 := by rw [hW]; simp
  have ho : OwnB W w2.heap.size (.slice (some ⟨w2.heap.size, 0, none⟩) 0 0) [] := (OwnB.emptyAt w2 _ _ rfl (Nat.le_refl _)).heap hW
  refine (wholes_top hsv A n c W B w2.heap.size w2.heap.size (hr.below hb hB) hB (by omega) ho t ht).mono ?_
  rintro e w5 ⟨v5, rfl, ob5, hg5⟩
  obtain ⟨A5, c5, hv5, hc5, hm5, hbs5⟩ := ob5.parts
  subst hv5
  have hb5 : Below w2.heap.size w2 w5 := hb.trans (hg5.belowB ho (by omega))
  refine ⟨A5, _, c5, rfl, hb5, fun W6 hW6 => ?_⟩
  have hs2 := hb5.size
  have hlen : (hsOf L M F l kp).length ≤ maxLen := by
    have := ws_len L M F l kp
    omega
  exact behindS W6 w5.heap.size _ c2 _ c5 A2 A5 (hsOf L M F l kp) (wsOf L M F l kp) f (((hst2.below hb5 (Nat.le_refl _)).more hs2).heap hW6) ⟨hbs5.len, fun i hi => by
    obtain ⟨b, off, hA, hlt, hcell⟩ := hbs5.cell i hi
    exact ⟨b, off, hA, hlt, by rw [World.cell?_of_block (w := w5) (a := ⟨b, off + i, none⟩) (by rw [hW6])]; exact hcell⟩⟩ hlen (ws_len L M F l kp)

/-- behind both calls -/
def SeekD (w2 : World) (k : Nat) (s7 : Value) (wx : World) : Prop := s7 = .int .i64 (k : Nat) ∧ Below w2.heap.size w2 wx

end Go.Proofs.YtfhpkcamigkmdaaGreatDoor.W
namespace Go.Proofs.YtfhpkcamigkmdaaGreatDoor.W
open Go.RowKit K

theorem leq_eq (a b : ByteArray) : (Op.bytesLess a.toList b.toList || (a.toList == b.toList)) = !lt b a := by
  have e1 : Op.bytesLess a.toList b.toList = lt a b := rfl
  have e2 : (a.toList == b.toList) = eqs a b := rfl
  rw [e1, e2]
  rcases Bool.eq_false_or_eq_true (lt b a) with h | h
  · rw [h, lt_asymm h, eqs_false.mpr (fun e => lt_ne h e.symm)]; rfl
  · rw [h]
    rcases Bool.eq_false_or_eq_true (lt a b) with h2 | h2
    · rw [h2]; rfl
    · rw [h2, lt_total h2 h, eqs_self]; rfl
theorem gtr_eq (a b : ByteArray) : (!Op.bytesLess a.toList b.toList && !(a.toList == b.toList)) = lt b a := by
  have := leq_eq a b
  rw [← Bool.not_or, this, Bool.not_not]
/-- what is there is not behind -/
def atMost (o : Option ByteArray) (t : ByteArray) : Bool := o.any fun h => !lt t h
/-- what SieveMeets answers -/
def meetO (L M F : ByteArray) (l : List ByteArray) (keep : Int) (f t : ByteArray) : Bool := keyB t && (!lt t f && atMost (seekO L M F l keep f) t)

set_option maxRecDepth 8000 in
set_option maxHeartbeats 8000000 in
theorem meetsYes (L M F : ByteArray) (A : Option Addr) (n c : Nat) (l : List ByteArray) (kp : Nat) (f to_ : ByteArray) (w : World) (hL : L.size ≤ maxLen) (hM : M.size ≤ maxLen) (hF : F.size ≤ maxLen) (hff : f.size ≤ maxLen) (htf : to_.size ≤ maxLen) (hr : Strs w w.heap.size A n l) (hnc : n ≤ c) (hc : c ≤ maxLen) (hfit : ∀ i (h : i < l.length), l[i].size ≤ 1000000000000) (hsv : svB L M F l kp = true) (hkf : keyB f = true) (hkt : keyB to_ = true) (hle : Op.bytesLess to_.toList f.toList = false) :
    Calls Tryz.prog 77 #[.agg #[.string L, .string M, .string F, .slice A n c, .int .i64 kp], .string f, .string to_] w fun e w' => e = .returned (.bool (meetO L M F l kp f to_)) ∧ Below w.heap.size w w' := by
  have hlen := hr.len
  subst hlen
  have HR := Lib.hid hr
  have HFI := Lib.hid hfit
  have HSV := Lib.hid hsv
  have HOK := Lib.hid (show ∀ W : World, Below w.heap.size w W → Calls Tryz.prog 120 #[.agg #[.string L, .string M, .string F, .slice A l.length c, .int .i64 kp]] W fun e w' => e = .returned (.bool true) ∧ Below W.heap.size W w' from fun W hW => by
    have hh := okSv L M F A l.length c l kp W hL hM hF ((hr.below hW (Nat.le_refl _)).more hW.size) hnc hc hfit
    rw [hsv] at hh; exact hh)
  have HKY := Lib.hid (show ∀ W : World, Calls Tryz.prog 66 #[.string f] W fun e w' => e = .returned (.bool true) ∧ W = w' from fun W => by have hh := keyS f W hff; rw [hkf] at hh; exact hh)
  have HKT := Lib.hid (show ∀ W : World, Calls Tryz.prog 66 #[.string to_] W fun e w' => e = .returned (.bool true) ∧ W = w' from fun W => by have hh := keyS to_ W htf; rw [hkt] at hh; exact hh)
  have HSO := Lib.hid (show meetO L M F l kp f to_ = atMost ((hsOf L M F l kp)[behI (hsOf L M F l kp) (wsOf L M F l kp) f]?) to_ by
    have e1 : lt to_ f = false := hle
    unfold meetO seekO
    rw [if_pos ⟨hsv, hkf⟩, Int.toNat_natCast, hkt, e1]
    rfl)
  have hfo : formB L M F l.length kp = true := by unfold svB at hsv; rw [Bool.and_eq_true] at hsv; exact hsv.1
  obtain ⟨p1, p2, p3, p4, p5, p6⟩ := form_parts hfo
  clear hr hfit hsv hfo hkf hkt
  go_enter Tryz.func77, Tryz.ntmps77
  go_wp2_with fail
  go_at_call 120
  refine Calls.mono (HOK.out _ (by exact (Below.refl _ _).alloc (Nat.le_refl _) _)) ?_
  rintro e w1 ⟨rfl, hb1⟩
  have hbx : w1.heap[w.heap.size]? = some (Obj.cells #[.string L, .string M, .string F, .slice A l.length c, .int .i64 kp] 92) := by rw [hb1.block _ (by simp)]; exact heap_alloc_new _ _
  have hbw : Below w.heap.size w w1 := ((Below.refl _ _).alloc (Nat.le_refl _) _).trans (hb1.mono (by simp))
  have hs1 : w.heap.size < w1.heap.size := (Array.getElem?_eq_some_iff.1 hbx).1
  have a0 : w1.cell? ⟨w.heap.size, 0, none⟩ = some (.string L) := by rw [cell_of_row _ _ _ _ _ _ hbx]; rfl
  have a1 : w1.cell? ⟨w.heap.size, 1, none⟩ = some (.string M) := by rw [cell_of_row _ _ _ _ _ _ hbx]; rfl
  have a2 : w1.cell? ⟨w.heap.size, 2, none⟩ = some (.string F) := by rw [cell_of_row _ _ _ _ _ _ hbx]; rfl
  have a3 : w1.cell? ⟨w.heap.size, 3, none⟩ = some (.slice A l.length c) := by rw [cell_of_row _ _ _ _ _ _ hbx]; rfl
  have a4 : w1.cell? ⟨w.heap.size, 4, none⟩ = some (.int .i64 kp) := by rw [cell_of_row _ _ _ _ _ _ hbx]; rfl
  have HHS := Lib.hid (show Calls Tryz.prog 121 #[.agg #[.string L, .string M, .string F, .slice A l.length c, .int .i64 kp]] w1 (New w1 (hsOf L M F l kp)) from headsS L M F A l.length c l kp w.heap.size w1 p1 p2 p3 (by omega) HFI.out (HR.out.below hbw (Nat.le_refl _)) (by omega))
  have HBX := Lib.hid hbx
  have HBW := Lib.hid hbw
  clear hbx hbw hb1
  go_wp2_with (first
    | (go_at_call 66; with_reducible refine (HKY.out _).mono ?_; rintro e w' ⟨rfl, rfl⟩)
    | (go_at_call 66; refine (HKT.out _).mono ?_; rintro e w' ⟨rfl, rfl⟩)
    | (go_at_call 121; fail))
  · exfalso
    have h : (!Op.bytesLess f.toList to_.toList) = true ∧ (!f.toList == to_.toList) = true := by assumption
    have h1 := gtr_eq f to_
    rw [h.1, h.2, show lt to_ f = false from hle] at h1
    cases h1
  go_at_call 121
  refine HHS.out.mono ?_
  rintro e w2 ⟨v2, rfl, ho2, hb2⟩
  obtain ⟨A2, c2, hv2, hc2, hm2, hst2⟩ := ho2.parts
  subst hv2
  have hbx2 : w2.heap[w.heap.size]? = some (Obj.cells #[.string L, .string M, .string F, .slice A l.length c, .int .i64 kp] 92) := by rw [hb2.block _ hs1]; exact HBX.out
  have hs2 : w1.heap.size ≤ w2.heap.size := hb2.size
  have HBW2 := Lib.hid (HBW.out.trans (hb2.mono (by omega)))
  obtain ⟨t, ht⟩ : ∃ t : Nat, (t : Int) = oneOr F 1 := ⟨(svOf L M F l kp).sel 1, (oneOr_sel L M F l kp 1).symm⟩
  have HON := Lib.hid (show ∀ W : World, Calls Tryz.prog 124 #[.string F, .int .i64 1] W fun e w' => e = .returned (.int .i64 t) ∧ W = w' from fun W => by
    have hh := oneS F 1 W (by unfold maxLen; omega) (by omega) (by omega)
    have e1 : (1 : Int).toNat = 1 := rfl
    rw [e1, ← ht] at hh; exact hh)
  have HWC := Lib.hid (fun W h1 h2 h3 h4 => seek_calls HSV.out A l.length c w2 w.heap.size (HR.out.below HBW2.out (Nat.le_refl _)) (by omega) A2 c2 hst2 f t ht W h1 h2 h3 h4)
  have HST := Lib.hid hst2
  have hble := beh_le (hsOf L M F l kp) (wsOf L M F l kp) f
  obtain ⟨k, hk⟩ : ∃ k, k = behI (hsOf L M F l kp) (wsOf L M F l kp) f := ⟨_, rfl⟩
  rw [← hk] at HWC hble HSO
  obtain ⟨hs, hhs⟩ : ∃ hs, hs = hsOf L M F l kp := ⟨_, rfl⟩
  rw [← hhs] at HWC HST hble HSO hc2 ⊢
  have d0 : w2.cell? ⟨w.heap.size, 0, none⟩ = some (.string L) := by rw [cell_of_row _ _ _ _ _ _ hbx2]; rfl
  have d1 : w2.cell? ⟨w.heap.size, 1, none⟩ = some (.string M) := by rw [cell_of_row _ _ _ _ _ _ hbx2]; rfl
  have d2 : w2.cell? ⟨w.heap.size, 2, none⟩ = some (.string F) := by rw [cell_of_row _ _ _ _ _ _ hbx2]; rfl
  have d3 : w2.cell? ⟨w.heap.size, 3, none⟩ = some (.slice A l.length c) := by rw [cell_of_row _ _ _ _ _ _ hbx2]; rfl
  have d4 : w2.cell? ⟨w.heap.size, 4, none⟩ = some (.int .i64 kp) := by rw [cell_of_row _ _ _ _ _ _ hbx2]; rfl
  have hbx3 : (w2.alloc (.cells #[] 4)).heap[w.heap.size]? = some (Obj.cells #[.string L, .string M, .string F, .slice A l.length c, .int .i64 kp] 92) := by rw [Below.heap_alloc _ _ _ (by omega)]; exact hbx2
  have g0 : (w2.alloc (.cells #[] 4)).cell? ⟨w.heap.size, 0, none⟩ = some (.string L) := by rw [cell_of_row _ _ _ _ _ _ hbx3]; rfl
  have g1 : (w2.alloc (.cells #[] 4)).cell? ⟨w.heap.size, 1, none⟩ = some (.string M) := by rw [cell_of_row _ _ _ _ _ _ hbx3]; rfl
  have g2 : (w2.alloc (.cells #[] 4)).cell? ⟨w.heap.size, 2, none⟩ = some (.string F) := by rw [cell_of_row _ _ _ _ _ _ hbx3]; rfl
  have g3 : (w2.alloc (.cells #[] 4)).cell? ⟨w.heap.size, 3, none⟩ = some (.slice A l.length c) := by rw [cell_of_row _ _ _ _ _ _ hbx3]; rfl
  have g4 : (w2.alloc (.cells #[] 4)).cell? ⟨w.heap.size, 4, none⟩ = some (.int .i64 kp) := by rw [cell_of_row _ _ _ _ _ _ hbx3]; rfl
  clear a0 a1 a2 a3 a4 hbx2 hbx3 hb2 ho2 hst2 ht hk hhs
  go_wp2_with fail
  go_cut [8] from 29 (fun s7 wx => SeekD w2 k s7 wx)
  case first =>
    go_region_with (first
      | (go_at_call 124; refine (HON.out _).mono ?_; rintro e w4 ⟨rfl, rfl⟩)
      | (go_at_call 123; refine Calls.mono (HWC.out _ (by rfl) (by rfl) (by rfl) (by rfl)) ?_; rintro e w5 ⟨A5, n5, c5, rfl, hb5, hbe⟩; have HB5 := Lib.hid hb5; have HBE := Lib.hid hbe; clear hb5 hbe)
      | (go_at_call 122; refine Calls.mono (HBE.out _ (by rfl)) ?_; rintro e w6 ⟨rfl, rfl⟩))
    all_goals
      go_wp2_with fail
      go_meet
      exact ⟨rfl, HB5.out⟩
  case rest =>
    obtain ⟨rfl, hbx⟩ := hcut
    have HBX3 := Lib.hid hbx
    have HST3 := Lib.hid (HST.out.below hbx (Nat.le_refl _))
    have hs3 := hbx.size
    clear hbx d0 d1 d2 d3 d4 g0 g1 g2 g3 g4
    have hsl : hs.length ≤ maxLen := Nat.le_trans hc2 hm2
    unfold maxLen at hsl
    by_cases hlt : k < hs.length
    · obtain ⟨b, off, hA, hb, hcell⟩ := HST3.out.cell k hlt
      subst hA
      have HM3 := Lib.hid (show atMost (hs[k]?) to_ = !lt to_ hs[k] by rw [List.getElem?_eq_getElem hlt]; rfl)
      go_wp2
      go_ret
      exact ⟨ret_bool (by rw [HSO.out, HM3.out]; exact leq_eq _ _), HBW2.out.trans (HBX3.out.mono (by omega))⟩
    · have hke : k = hs.length := by omega
      subst hke
      go_wp2
      go_ret
      exact ⟨ret_bool (by rw [HSO.out, List.getElem?_eq_none (Nat.le_refl _)]; rfl), HBW2.out.trans (HBX3.out.mono (by omega))⟩

end Go.Proofs.YtfhpkcamigkmdaaGreatDoor.W
namespace Go.Proofs.YtfhpkcamigkmdaaGreatDoor.W
open Go.RowKit K

set_option maxHeartbeats 2000000 in
theorem meetsNo (L M F : ByteArray) (A : Option Addr) (n c : Nat) (l : List ByteArray) (keep : Int) (f to_ : ByteArray) (w : World) (hL : L.size ≤ maxLen) (hM : M.size ≤ maxLen) (hF : F.size ≤ maxLen) (hff : f.size ≤ maxLen) (htf : to_.size ≤ maxLen) (hr : Strs w w.heap.size A n l) (hnc : n ≤ c) (hc : c ≤ maxLen) (hfit : ∀ i (h : i < l.length), l[i].size ≤ 1000000000000)
    (hno : svB L M F l keep = false ∨ keyB f = false ∨ keyB to_ = false ∨ lt to_ f = true) :
    Calls Tryz.prog 77 #[.agg #[.string L, .string M, .string F, .slice A n c, .int .i64 keep], .string f, .string to_] w fun e w' => e = .returned (.bool false) ∧ Below w.heap.size w w' := by
  have hlen := hr.len
  subst hlen
  have HOK := Lib.hid (show ∀ W : World, Below w.heap.size w W → Calls Tryz.prog 120 #[.agg #[.string L, .string M, .string F, .slice A l.length c, .int .i64 keep]] W fun e w' => e = .returned (.bool (svB L M F l keep)) ∧ Below W.heap.size W w' from fun W hW =>
    okSv L M F A l.length c l keep W hL hM hF ((hr.below hW (Nat.le_refl _)).more hW.size) hnc hc hfit)
  have HKF := Lib.hid (show ∀ W : World, Calls Tryz.prog 66 #[.string f] W fun e w' => e = .returned (.bool (keyB f)) ∧ W = w' from fun W => keyS f W hff)
  have HKT := Lib.hid (show ∀ W : World, Calls Tryz.prog 66 #[.string to_] W fun e w' => e = .returned (.bool (keyB to_)) ∧ W = w' from fun W => keyS to_ W htf)
  clear hr hfit
  rcases Bool.eq_false_or_eq_true (svB L M F l keep) with g1 | g1
  · rcases Bool.eq_false_or_eq_true (keyB f) with g2 | g2
    · rcases Bool.eq_false_or_eq_true (keyB to_) with g3 | g3
      · have hlt : lt to_ f = true := by
          rcases hno with h | h | h | h
          · rw [g1] at h; cases h
          · rw [g2] at h; cases h
          · rw [g3] at h; cases h
          · exact h
        have h2 := lt_asymm hlt
        have h3 := eqs_false.mpr (lt_ne hlt).symm
        have h2' : Op.bytesLess f.toList to_.toList = false := h2
        have h3' : (f.toList == to_.toList) = false := h3
        rw [g1] at HOK
        rw [g2] at HKF
        rw [g3] at HKT
        clear hno g1 g2 g3 hlt h2 h3
        go_enter Tryz.func77, Tryz.ntmps77
        go_wp2_with (first
          | (go_at_call 120; refine Calls.mono (HOK.out _ (by exact (Below.refl _ _).alloc (Nat.le_refl _) _)) ?_; rintro e w1 ⟨rfl, hb1⟩)
          | (go_at_call 66; with_reducible refine (HKF.out _).mono ?_; rintro e w' ⟨rfl, rfl⟩)
          | (go_at_call 66; refine (HKT.out _).mono ?_; rintro e w' ⟨rfl, rfl⟩))
        go_ret
        exact ⟨rfl, ((Below.refl _ _).alloc (Nat.le_refl _) _).trans (hb1.mono (by simp))⟩
      · rw [g1] at HOK
        rw [g2] at HKF
        rw [g3] at HKT
        clear hno g1 g2 g3
        go_enter Tryz.func77, Tryz.ntmps77
        go_wp2_with (first
          | (go_at_call 120; refine Calls.mono (HOK.out _ (by exact (Below.refl _ _).alloc (Nat.le_refl _) _)) ?_; rintro e w1 ⟨rfl, hb1⟩)
          | (go_at_call 66; with_reducible refine (HKF.out _).mono ?_; rintro e w' ⟨rfl, rfl⟩)
          | (go_at_call 66; refine (HKT.out _).mono ?_; rintro e w' ⟨rfl, rfl⟩))
        go_ret
        exact ⟨rfl, ((Below.refl _ _).alloc (Nat.le_refl _) _).trans (hb1.mono (by simp))⟩
    · rw [g1] at HOK
      rw [g2] at HKF
      clear hno g1 g2
      go_enter Tryz.func77, Tryz.ntmps77
      go_wp2_with (first
        | (go_at_call 120; refine Calls.mono (HOK.out _ (by exact (Below.refl _ _).alloc (Nat.le_refl _) _)) ?_; rintro e w1 ⟨rfl, hb1⟩)
        | (go_at_call 66; refine (HKF.out _).mono ?_; rintro e w' ⟨rfl, rfl⟩))
      go_ret
      exact ⟨rfl, ((Below.refl _ _).alloc (Nat.le_refl _) _).trans (hb1.mono (by simp))⟩
  · rw [g1] at HOK
    clear hno g1
    go_enter Tryz.func77, Tryz.ntmps77
    go_wp2_with (go_at_call 120; refine Calls.mono (HOK.out _ (by exact (Below.refl _ _).alloc (Nat.le_refl _) _)) ?_; rintro e w1 ⟨rfl, hb1⟩)
    go_ret
    exact ⟨rfl, ((Below.refl _ _).alloc (Nat.le_refl _) _).trans (hb1.mono (by simp))⟩
/-- the model's SieveMeets -/
theorem meetsSv (L M F : ByteArray) (A : Option Addr) (n c : Nat) (l : List ByteArray) (keep : Int) (f to_ : ByteArray) (w : World) (hL : L.size ≤ maxLen) (hM : M.size ≤ maxLen) (hF : F.size ≤ maxLen) (hff : f.size ≤ maxLen) (htf : to_.size ≤ maxLen) (hr : Strs w w.heap.size A n l) (hnc : n ≤ c) (hc : c ≤ maxLen) (hfit : ∀ i (h : i < l.length), l[i].size ≤ 1000000000000) :
    Calls Tryz.prog 77 #[.agg #[.string L, .string M, .string F, .slice A n c, .int .i64 keep], .string f, .string to_] w fun e w' => e = .returned (.bool (meetO L M F l keep f to_)) ∧ Below w.heap.size w w' := by
  have hno : ∀ h : svB L M F l keep = false ∨ keyB f = false ∨ keyB to_ = false ∨ lt to_ f = true, meetO L M F l keep f to_ = false := fun h => by
    unfold meetO
    rcases h with h | h | h | h
    · have e : seekO L M F l keep f = none := by unfold seekO; rw [if_neg (fun h' => by rw [h] at h'; simp at h')]
      rw [e]; simp [atMost]
    · have e : seekO L M F l keep f = none := by unfold seekO; rw [if_neg (fun h' => by rw [h] at h'; simp at h')]
      rw [e]; simp [atMost]
    · rw [h]; rfl
    · rw [h]; simp
  by_cases hall : svB L M F l keep = true ∧ keyB f = true ∧ keyB to_ = true ∧ lt to_ f = false
  · obtain ⟨hsv, hkf, hkt, hle⟩ := hall
    have hfo : formB L M F l.length keep = true := by
      have h := hsv
      unfold svB at h; rw [Bool.and_eq_true] at h; exact h.1
    obtain ⟨-, -, -, -, p5, -⟩ := form_parts hfo
    obtain ⟨kp, rfl⟩ := Int.eq_ofNat_of_zero_le p5
    exact meetsYes L M F A n c l kp f to_ w hL hM hF hff htf hr hnc hc hfit hsv hkf hkt hle
  · have h : svB L M F l keep = false ∨ keyB f = false ∨ keyB to_ = false ∨ lt to_ f = true := by
      rcases Bool.eq_false_or_eq_true (svB L M F l keep) with g1 | g1
      · rcases Bool.eq_false_or_eq_true (keyB f) with g2 | g2
        · rcases Bool.eq_false_or_eq_true (keyB to_) with g3 | g3
          · rcases Bool.eq_false_or_eq_true (lt to_ f) with g4 | g4
            · exact .inr (.inr (.inr g4))
            · exact absurd ⟨g1, g2, g3, g4⟩ hall
          · exact .inr (.inr (.inl g3))
        · exact .inr (.inl g2)
      · exact .inl g1
    rw [hno h]
    exact meetsNo L M F A n c l keep f to_ w hL hM hF hff htf hr hnc hc hfit h

end Go.Proofs.YtfhpkcamigkmdaaGreatDoor.W
namespace Go.Proofs.YtfhpkcamigkmdaaGreatDoor.W
open Go.RowKit K R

/-- how many of the first j pass -/
def cntK (p : Sf → Bool) (l : List Sf) (j : Nat) : Nat := ((l.take j).filter p).length
theorem cntK_zero {p : Sf → Bool} {l : List Sf} : cntK p l 0 = 0 := rfl
theorem cntK_yes {p : Sf → Bool} {l : List Sf} {j : Nat} (h : j < l.length) (hp : p l[j] = true) : cntK p l (j + 1) = cntK p l j + 1 := by
  unfold cntK; rw [← List.take_concat_get h, List.concat_eq_append, List.filter_append, List.length_append]; simp [hp]
theorem cntK_no {p : Sf → Bool} {l : List Sf} {j : Nat} (h : j < l.length) (hp : p l[j] = false) : cntK p l (j + 1) = cntK p l j := by
  unfold cntK; rw [← List.take_concat_get h, List.concat_eq_append, List.filter_append, List.length_append]; simp [hp]
theorem cntK_all {p : Sf → Bool} {l : List Sf} : cntK p l l.length = (l.filter p).length := by unfold cntK; rw [List.take_length]
def meetS (f t : ByteArray) (x : Sf) : Bool := meetO x.letters x.more x.first x.rests x.keep f t
/-- what is answered of how many filters pass -/
def lookZ (s : Sto) (p : Sf → Bool) (q b : Bool) : Int := if b = true ∧ q = true then ((s.sieves.filter p).length : Nat) else -1
def LookA (s : Sto) (p : Sf → Bool) (q : Bool) (w : World) (e : Ending) (w' : World) : Prop := ∃ b, e = .returned (.int .i64 (lookZ s p q b)) ∧ (b = true ↔ StP s) ∧ Below w.heap.size w w'
theorem smallS_fit {x : Sf} (h : smallS x) : x.letters.size ≤ maxLen ∧ x.more.size ≤ maxLen ∧ x.first.size ≤ maxLen ∧ ∀ i (h : i < x.rests.length), x.rests[i].size ≤ 1000000000000 := by
  obtain ⟨⟨h1, h2, h3⟩, h4, h5⟩ := h
  exact ⟨by unfold maxLen; omega, by unfold maxLen; omega, by unfold maxLen; omega, fun i hi => by have := h5 _ (List.getElem_mem hi); omega⟩

set_option maxHeartbeats 4000000 in
theorem looksS (w : World) (A0 A1 A2 A5 : Option Addr) (c0 c1 c2 c5 : Nat) (s : Sto) (hr : StM w w.heap.size A0 A1 A2 A5 c0 c1 c2 c5 s) (hsm : smallSt s) (k : ByteArray) (hk : k.size ≤ maxLen) :
    Calls Tryz.prog 31 #[stV A0 A1 A2 A5 c0 c1 c2 c5 s, .string k] w (LookA s (hasS k) (keyB k) w) := by
  obtain ⟨top, levels, sieves, keep, time, times⟩ := s
  have HSM := Lib.hid hsm
  have HOK := Lib.hid (fun W (hW : StM W W.heap.size A0 A1 A2 A5 c0 c1 c2 c5 ⟨top, levels, sieves, keep, time, times⟩) => okSt W A0 A1 A2 A5 c0 c1 c2 c5 _ hW hsm)
  simp only [stV] at *
  obtain ⟨W0, hW0⟩ : ∃ W0, W0 = w.alloc (.cells #[.slice A0 top.length c0, .slice A1 levels.length c1, .slice A2 sieves.length c2, .int .i64 keep, .int .i64 time, .slice A5 times.length c5] 33) := ⟨_, rfl⟩
  have hbw : Below w.heap.size w W0 := by rw [hW0]; exact (Below.refl _ _).alloc (Nat.le_refl _) _
  have hs0 : W0.heap.size = w.heap.size + 1 := by rw [hW0]; simp
  have x0 : W0.heap[w.heap.size]? = some (.cells #[.slice A0 top.length c0, .slice A1 levels.length c1, .slice A2 sieves.length c2, .int .i64 keep, .int .i64 time, .slice A5 times.length c5] 33 (0, 0)) := by rw [hW0]; exact heap_alloc_new _ _
  have HBX := Lib.hid (show ∀ W, Below W0.heap.size W0 W → _ from fun W hW => st_cells ((hW.block w.heap.size (by omega)).trans x0))
  have HRW := Lib.hid (show ∀ W, Below W0.heap.size W0 W → StM W W.heap.size A0 A1 A2 A5 c0 c1 c2 c5 ⟨top, levels, sieves, keep, time, times⟩ from fun W hW => (hr.below (hbw.trans (hW.mono hbw.size)) (Nat.le_refl _)).more (Nat.le_trans hbw.size hW.size))
  have HB := Lib.hid hbw
  have HW0 := Lib.hid hW0
  obtain ⟨b0, b1, b2, b3, b4, b5⟩ := HBX.out W0 (Below.refl _ _)
  clear hr hbw hs0 x0 hW0 hsm
  go_enter Tryz.func31, Tryz.ntmps31
  go_upto_region 1 with fail
  rw [← HW0.out]
  go_wp2_with fail
  go_at_call 39
  refine Calls.mono (HOK.out W0 (HRW.out W0 (Below.refl _ _))) ?_
  rintro e w1 ⟨b, rfl, hb, hb1⟩
  have HBB := Lib.hid hb
  have HB1 := Lib.hid hb1
  clear hb hb1 b0 b1 b2 b3 b4 b5
  obtain ⟨b0, b1, b2, b3, b4, b5⟩ := HBX.out w1 HB1.out
  cases b with
  | false =>
    go_wp2
    go_ret
    exact ⟨false, by simp [lookZ], (by simpa using HBB.out), HB.out.trans (HB1.out.mono HB.out.size)⟩
  | true =>
    obtain ⟨q0, hq0⟩ : ∃ x, x = keyB k := ⟨_, rfl⟩
    have HQ0 := Lib.hid hq0
    have HK0 := Lib.hid (fun W => keyS k W hk)
    rw [← hq0] at HK0
    clear hq0
    have HSV := Lib.hid (fun (W : World) (L M_ F : ByteArray) (A : Option Addr) (n c : Nat) (l : List ByteArray) (kp : Int) (hL : L.size ≤ maxLen) (hM : M_.size ≤ maxLen) (hF : F.size ≤ maxLen) (hr : Strs W W.heap.size A n l) (hnc : n ≤ c) (hc : c ≤ maxLen) (hfit : ∀ i (h : i < l.length), l[i].size ≤ 1000000000000) => hasSv L M_ F A n c l kp k W hL hM hF hk hr hnc hc hfit)
    clear hk
    cases q0 with
    | false =>
      go_wp2_with (first | (go_at_call 66; refine Calls.mono (HK0.out _) ?_; rintro e w9 ⟨rfl, rfl⟩))
      go_ret
      exact ⟨true, by simp [lookZ, ← HQ0.out], (by simpa using HBB.out), HB.out.trans (HB1.out.mono HB.out.size)⟩
    | true =>
      go_wp2_with fail
      go_at_call 66
      refine Calls.mono (HK0.out _) ?_
      rintro e w9 ⟨rfl, rfl⟩
      clear b0 b1 b3 b4 b5
      have HRS := Lib.hid (Below.refl W0.heap.size W0)
      go_wp2_with fail
      go_loopw [5, 6] (fun nv iv wr => ∃ j m : Nat, j ≤ sieves.length ∧ iv = .int .i64 (j : Nat) ∧ nv = .int .i64 (m : Nat) ∧ m ≤ j ∧ Hid (m = cntK (hasS k) sieves j) ∧ Below W0.heap.size W0 wr) (fun _ iv _ => sieves.length - (intOf iv).toNat)
      case atStart => exact ⟨0, 0, Nat.zero_le _, rfl, rfl, Nat.le_refl _, Lib.hid cntK_zero.symm, HB1.out⟩
      case round =>
        obtain ⟨j, m, hj, rfl, rfl, hmj, HM, hb⟩ := hrel
        clear b2
        obtain ⟨b0, b1, b2, b3, b4, b5⟩ := HBX.out wr hb
        clear b0 b1 b3 b4 b5
        have HBL := Lib.hid hb
        clear hb
        have hn2 : sieves.length ≤ 1048576 := HSM.out.2.2.1.1
        by_cases hlt : j < sieves.length
        · obtain ⟨sb, so, A3, c3, hA2, hsb, s0, s1, s2, s3, s4, hst, e3, e4⟩ := (HRW.out wr HBL.out).sieves.cell j hlt
          have hsx := HSM.out.2.2.1.2 _ (List.getElem_mem hlt)
          obtain ⟨x, hx⟩ : ∃ x, x = sieves[j] := ⟨_, rfl⟩
          have hsx2 : smallS x := by rw [hx]; exact hsx
          obtain ⟨f1, f2, f3, f4⟩ := smallS_fit hsx2
          rw [← hx] at s0 s1 s2 s3 s4 hst e3
          obtain ⟨p, hp⟩ : ∃ p, p = hasS k x := ⟨_, rfl⟩
          have HX := Lib.hid hx
          have HP := Lib.hid hp
          obtain ⟨X0, X1, X2, XR, XK⟩ := x
          have HC := Lib.hid (HSV.out wr X0 X1 X2 A3 XR.length c3 XR XK f1 f2 f3 hst e3 e4 f4)
          have hpe : p = hasO X0 X1 X2 XR XK k := hp
          rw [← hpe] at HC
          subst hA2
          have z0 : (0 : Int) ≤ (j : Int) := by omega
          have z1 : (j : Int) < (sieves.length : Int) := by omega
          clear hsx hsx2 f1 f2 f3 f4 hst e3 e4 hpe hp hx hsb
          go_wp2_with fail
          go_at_call 87
          refine Calls.mono HC.out ?_
          rintro e w2 ⟨rfl, hb2⟩
          have HB2 := Lib.hid (HBL.out.trans (hb2.mono HBL.out.size))
          clear hb2
          cases p with
          | true =>
            have HN := Lib.hid (cntK_yes (p := hasS k) hlt (by rw [← HX.out]; exact HP.out.symm))
            go_wp2
            go_roundw
            case rel => exact ⟨j + 1, m + 1, by omega, by go_num, by go_num, by omega, Lib.hid (by rw [HN.out, HM.out]), HB2.out⟩
            case measure => simp [intOf]; omega
          | false =>
            have HN := Lib.hid (cntK_no (p := hasS k) hlt (by rw [← HX.out]; exact HP.out.symm))
            go_wp2
            go_roundw
            case rel => exact ⟨j + 1, m, by omega, by go_num, by first | rfl | go_num, by omega, Lib.hid (by rw [HN.out, HM.out]), HB2.out⟩
            case measure => simp [intOf]; omega
        · have hke : j = sieves.length := by omega
          subst hke
          have hng : ¬ (sieves.length : Int) < (sieves.length : Int) := by omega
          go_wp2
          go_ret
          exact ⟨true, by rw [HM.out, cntK_all]; simp [lookZ, ← HQ0.out], (by simpa using HBB.out), HB.out.trans (HBL.out.mono HB.out.size)⟩

set_option maxHeartbeats 4000000 in
theorem spansS (w : World) (A0 A1 A2 A5 : Option Addr) (c0 c1 c2 c5 : Nat) (s : Sto) (hr : StM w w.heap.size A0 A1 A2 A5 c0 c1 c2 c5 s) (hsm : smallSt s) (f t : ByteArray) (hf : f.size ≤ maxLen) (ht : t.size ≤ maxLen) :
    Calls Tryz.prog 33 #[stV A0 A1 A2 A5 c0 c1 c2 c5 s, .string f, .string t] w (LookA s (meetS f t) (keyB f && keyB t) w) := by
  obtain ⟨top, levels, sieves, keep, time, times⟩ := s
  have HSM := Lib.hid hsm
  have HOK := Lib.hid (fun W (hW : StM W W.heap.size A0 A1 A2 A5 c0 c1 c2 c5 ⟨top, levels, sieves, keep, time, times⟩) => okSt W A0 A1 A2 A5 c0 c1 c2 c5 _ hW hsm)
  simp only [stV] at *
  obtain ⟨W0, hW0⟩ : ∃ W0, W0 = w.alloc (.cells #[.slice A0 top.length c0, .slice A1 levels.length c1, .slice A2 sieves.length c2, .int .i64 keep, .int .i64 time, .slice A5 times.length c5] 33) := ⟨_, rfl⟩
  have hbw : Below w.heap.size w W0 := by rw [hW0]; exact (Below.refl _ _).alloc (Nat.le_refl _) _
  have hs0 : W0.heap.size = w.heap.size + 1 := by rw [hW0]; simp
  have x0 : W0.heap[w.heap.size]? = some (.cells #[.slice A0 top.length c0, .slice A1 levels.length c1, .slice A2 sieves.length c2, .int .i64 keep, .int .i64 time, .slice A5 times.length c5] 33 (0, 0)) := by rw [hW0]; exact heap_alloc_new _ _
  have HBX := Lib.hid (show ∀ W, Below W0.heap.size W0 W → _ from fun W hW => st_cells ((hW.block w.heap.size (by omega)).trans x0))
  have HRW := Lib.hid (show ∀ W, Below W0.heap.size W0 W → StM W W.heap.size A0 A1 A2 A5 c0 c1 c2 c5 ⟨top, levels, sieves, keep, time, times⟩ from fun W hW => (hr.below (hbw.trans (hW.mono hbw.size)) (Nat.le_refl _)).more (Nat.le_trans hbw.size hW.size))
  have HB := Lib.hid hbw
  have HW0 := Lib.hid hW0
  obtain ⟨b0, b1, b2, b3, b4, b5⟩ := HBX.out W0 (Below.refl _ _)
  clear hr hbw hs0 x0 hW0 hsm
  go_enter Tryz.func33, Tryz.ntmps33
  go_upto_region 1 with fail
  rw [← HW0.out]
  go_wp2_with fail
  go_at_call 39
  refine Calls.mono (HOK.out W0 (HRW.out W0 (Below.refl _ _))) ?_
  rintro e w1 ⟨b, rfl, hb, hb1⟩
  have HBB := Lib.hid hb
  have HB1 := Lib.hid hb1
  clear hb hb1 b0 b1 b2 b3 b4 b5
  obtain ⟨b0, b1, b2, b3, b4, b5⟩ := HBX.out w1 HB1.out
  cases b with
  | false =>
    go_wp2
    go_ret
    exact ⟨false, by simp [lookZ], (by simpa using HBB.out), HB.out.trans (HB1.out.mono HB.out.size)⟩
  | true =>
    obtain ⟨q0, hq0⟩ : ∃ x, x = keyB f := ⟨_, rfl⟩
    have HQ0 := Lib.hid hq0
    have HK0 := Lib.hid (fun W => keyS f W hf)
    obtain ⟨q1, hq1⟩ : ∃ x, x = keyB t := ⟨_, rfl⟩
    have HQ1 := Lib.hid hq1
    have HK1 := Lib.hid (fun W => keyS t W ht)
    rw [← hq0] at HK0
    clear hq0
    rw [← hq1] at HK1
    clear hq1
    have HSV := Lib.hid (fun (W : World) (L M_ F : ByteArray) (A : Option Addr) (n c : Nat) (l : List ByteArray) (kp : Int) (hL : L.size ≤ maxLen) (hM : M_.size ≤ maxLen) (hF : F.size ≤ maxLen) (hr : Strs W W.heap.size A n l) (hnc : n ≤ c) (hc : c ≤ maxLen) (hfit : ∀ i (h : i < l.length), l[i].size ≤ 1000000000000) => meetsSv L M_ F A n c l kp f t W hL hM hF hf ht hr hnc hc hfit)
    clear hf ht
    cases q0 with
    | false =>
      go_wp2_with (go_at_call 66; refine Calls.mono (HK0.out _) ?_; rintro e w9 ⟨rfl, rfl⟩)
      go_ret
      exact ⟨true, by simp [lookZ, ← HQ0.out], (by simpa using HBB.out), HB.out.trans (HB1.out.mono HB.out.size)⟩
    | true =>
    cases q1 with
    | false =>
      go_wp2_with fail
      go_at_call 66
      refine Calls.mono (HK0.out _) ?_
      rintro e w9 ⟨rfl, rfl⟩
      go_wp2_with fail
      go_at_call 66
      refine Calls.mono (HK1.out _) ?_
      rintro e w9 ⟨rfl, rfl⟩
      go_wp2
      go_ret
      exact ⟨true, by simp [lookZ, ← HQ1.out], (by simpa using HBB.out), HB.out.trans (HB1.out.mono HB.out.size)⟩
    | true =>
      go_wp2_with fail
      go_at_call 66
      refine Calls.mono (HK0.out _) ?_
      rintro e w9 ⟨rfl, rfl⟩
      go_wp2_with fail
      go_at_call 66
      refine Calls.mono (HK1.out _) ?_
      rintro e w9 ⟨rfl, rfl⟩
      clear b0 b1 b3 b4 b5
      have HRS := Lib.hid (Below.refl W0.heap.size W0)
      go_wp2_with fail
      go_loopw [7, 8] (fun nv iv wr => ∃ j m : Nat, j ≤ sieves.length ∧ iv = .int .i64 (j : Nat) ∧ nv = .int .i64 (m : Nat) ∧ m ≤ j ∧ Hid (m = cntK (meetS f t) sieves j) ∧ Below W0.heap.size W0 wr) (fun _ iv _ => sieves.length - (intOf iv).toNat)
      case atStart => exact ⟨0, 0, Nat.zero_le _, rfl, rfl, Nat.le_refl _, Lib.hid cntK_zero.symm, HB1.out⟩
      case round =>
        obtain ⟨j, m, hj, rfl, rfl, hmj, HM, hb⟩ := hrel
        clear b2
        obtain ⟨b0, b1, b2, b3, b4, b5⟩ := HBX.out wr hb
        clear b0 b1 b3 b4 b5
        have HBL := Lib.hid hb
        clear hb
        have hn2 : sieves.length ≤ 1048576 := HSM.out.2.2.1.1
        by_cases hlt : j < sieves.length
        · obtain ⟨sb, so, A3, c3, hA2, hsb, s0, s1, s2, s3, s4, hst, e3, e4⟩ := (HRW.out wr HBL.out).sieves.cell j hlt
          have hsx := HSM.out.2.2.1.2 _ (List.getElem_mem hlt)
          obtain ⟨x, hx⟩ : ∃ x, x = sieves[j] := ⟨_, rfl⟩
          have hsx2 : smallS x := by rw [hx]; exact hsx
          obtain ⟨f1, f2, f3, f4⟩ := smallS_fit hsx2
          rw [← hx] at s0 s1 s2 s3 s4 hst e3
          obtain ⟨p, hp⟩ : ∃ p, p = meetS f t x := ⟨_, rfl⟩
          have HX := Lib.hid hx
          have HP := Lib.hid hp
          obtain ⟨X0, X1, X2, XR, XK⟩ := x
          have HC := Lib.hid (HSV.out wr X0 X1 X2 A3 XR.length c3 XR XK f1 f2 f3 hst e3 e4 f4)
          have hpe : p = meetO X0 X1 X2 XR XK f t := hp
          rw [← hpe] at HC
          subst hA2
          have z0 : (0 : Int) ≤ (j : Int) := by omega
          have z1 : (j : Int) < (sieves.length : Int) := by omega
          clear hsx hsx2 f1 f2 f3 f4 hst e3 e4 hpe hp hx hsb
          go_wp2_with fail
          go_at_call 77
          refine Calls.mono HC.out ?_
          rintro e w2 ⟨rfl, hb2⟩
          have HB2 := Lib.hid (HBL.out.trans (hb2.mono HBL.out.size))
          clear hb2
          cases p with
          | true =>
            have HN := Lib.hid (cntK_yes (p := meetS f t) hlt (by rw [← HX.out]; exact HP.out.symm))
            go_wp2
            go_roundw
            case rel => exact ⟨j + 1, m + 1, by omega, by go_num, by go_num, by omega, Lib.hid (by rw [HN.out, HM.out]), HB2.out⟩
            case measure => simp [intOf]; omega
          | false =>
            have HN := Lib.hid (cntK_no (p := meetS f t) hlt (by rw [← HX.out]; exact HP.out.symm))
            go_wp2
            go_roundw
            case rel => exact ⟨j + 1, m, by omega, by go_num, by first | rfl | go_num, by omega, Lib.hid (by rw [HN.out, HM.out]), HB2.out⟩
            case measure => simp [intOf]; omega
        · have hke : j = sieves.length := by omega
          subst hke
          have hng : ¬ (sieves.length : Int) < (sieves.length : Int) := by omega
          go_wp2
          go_ret
          exact ⟨true, by rw [HM.out, cntK_all]; simp [lookZ, ← HQ0.out, ← HQ1.out], (by simpa using HBB.out), HB.out.trans (HBL.out.mono HB.out.size)⟩

end Go.Proofs.YtfhpkcamigkmdaaGreatDoor.W
namespace Go.Proofs.YtfhpkcamigkmdaaGreatDoor.W
open Go.RowKit K

theorem count_ones (l : List UInt8) : l.count 49 = M.ones l := by
  induction l with
  | nil => rfl
  | cons c t ih =>
    rw [List.count_cons, ih, show M.ones (c :: t) = (if c = 49 then 1 else 0) + M.ones t from rfl]
    by_cases h : c = 49
    · subst h; simp; omega
    · rw [if_neg h, if_neg (by simpa using h)]; omega
theorem count_zeros : ∀ (l : List UInt8), (∀ c ∈ l, c = 48 ∨ c = 49) → l.count 48 + M.ones l = l.length
  | [], _ => rfl
  | c :: t, h => by
    have ih := count_zeros t fun x hx => h x (by simp [hx])
    rw [List.count_cons, List.length_cons, show M.ones (c :: t) = (if c = 49 then 1 else 0) + M.ones t from rfl]
    rcases h c (by simp) with e | e
    · subst e; simp; omega
    · subst e; simp; omega

/-- a trie that is filled: nodes that are done, one that grows, and nodes that are to come -/
structure Fill (w wr : World) (g K : Nat) (D : T.Tr) (ds : List Value) (nv : Value) (cur : List T.TB) (m : Nat) : Prop where
  gl : g < wr.heap.size
  gw : w.heap.size ≤ g
  len : D.length + 1 + m = K
  row : wr.heap[g]? = some (.cells (ds ++ nv :: List.replicate m (.slice none 0 0)).toArray 197 (0, 0))
  held : HeldT wr (fun k => k = g ∨ nv.ownBlock = some k) ds D
  own : Row 165 1 wr (g + 1) nv cur.length (cur.map brV)
  below : Below w.heap.size w wr
section
variable {w wr : World} {g K m : Nat} {D : T.Tr} {ds : List Value} {nv : Value} {cur : List T.TB}
theorem Fill.dlen (P : Fill w wr g K D ds nv cur m) : ds.length = D.length := P.held.1
theorem Fill.quiet (P : Fill w wr g K D ds nv cur m) {W : World} (hA : Agree wr W (fun _ => False)) (hO : W.os = wr.os ∧ W.tape = wr.tape ∧ W.output = wr.output) : Fill w W g K D ds nv cur m :=
  ⟨Nat.lt_of_lt_of_le P.gl hA.size, P.gw, P.len, by rw [hA.block g P.gl (fun h => h)]; exact P.row, P.held.step fun _ _ _ h => h.step hA (fun _ _ h => h.elim) (fun _ _ h => h), Row.agree P.own hA (fun _ _ h => h),
   ⟨by rw [hO.1]; exact P.below.os, by rw [hO.2.1]; exact P.below.tape, by rw [hO.2.2]; exact P.below.output, Nat.le_trans P.below.size hA.size, fun k hk => by rw [hA.block k (by have := P.below.size; omega) (fun h => h)]; exact P.below.block k hk⟩⟩
/-- the cell of the node that grows -/
theorem Fill.cell (P : Fill w wr g K D ds nv cur m) : wr.cell? ⟨g, D.length, none⟩ = some nv ∧ wr.frozen? ⟨g, D.length, none⟩ = false := by
  constructor
  · rw [cell_of_row _ _ _ _ _ _ P.row]
    rw [List.getElem?_toArray, List.getElem?_append_right (by rw [P.dlen]; exact Nat.le_refl _), P.dlen, Nat.sub_self]; rfl
  · rw [frozen_of_row _ _ _ _ _ P.row]
/-- a branch more -/
theorem Fill.more (P : Fill w wr g K D ds nv cur m) {w1 : World} {nv' : Value} {b : T.TB} (ho : Row 165 1 w1 (g + 1) nv' (cur.length + 1) (cur.map brV ++ [brV b])) (hg : Grew wr w1 nv nv') : Fill w (w1.setCell ⟨g, D.length, none⟩ nv') g K D ds nv' (cur ++ [b]) m := by
  have hn : ∀ k, nv.ownBlock = some k → g + 1 ≤ k ∧ k < wr.heap.size := fun k hk => Row.lt_ P.own hk
  have hn' : ∀ k, nv'.ownBlock = some k → g + 1 ≤ k := fun k hk => (Row.lt_ ho hk).1
  have hgl1 : g < w1.heap.size := Nat.lt_of_lt_of_le P.gl hg.grown.size
  have hrow1 : w1.heap[g]? = some (.cells (ds ++ nv :: List.replicate m (.slice none 0 0)).toArray 197 (0, 0)) := by
    rw [hg.agree.block g P.gl (fun h => by have := (hn g h).1; omega)]; exact P.row
  have hset : Agree w1 (w1.setCell ⟨g, D.length, none⟩ nv') (fun k => k = g) := (Agree.refl w1 (fun k => k = g)).setCell (p := ⟨g, D.length, none⟩) (show g = g from rfl) _
  have hall : Agree wr (w1.setCell ⟨g, D.length, none⟩ nv') (fun k => k = g ∨ nv.ownBlock = some k) := (hg.agree.more fun _ _ h => .inr h).trans (hset.more fun _ _ h => .inl h)
  refine ⟨by simpa using hgl1, P.gw, P.len, ?_, ?_, ?_, ?_⟩
  · have := heap_setCell_same w1 g D.length _ _ nv' hrow1
    rw [this]
    congr 1
    rw [← P.dlen]
    simp
  · refine P.held.step fun _ _ _ h => h.step hall (fun _ _ h => h) (fun k hk h => ?_)
    rcases h with h | h
    · exact .inl h
    · rcases hg.row k h with h1 | h1
      · omega
      · exact .inr h1
  · have h1 : Row 165 1 w1 (g + 1) nv' (cur ++ [b]).length ((cur ++ [b]).map brV) := by
      rw [List.length_append, List.map_append]; exact ho
    exact Row.agree h1 hset (fun k hk e => by have := hn' k hk; have e' : k = g := e; omega)
  · have hb1 := below_grew P.below hg (fun k hk => by have := (hn k hk).1; have := P.gw; omega) P.below.size
    exact hb1.setCell (p := ⟨g, D.length, none⟩) P.gw _
/-- the next node -/
theorem Fill.next {A : Option Addr} {n c : Nat} (P : Fill w wr g K D ds (.slice A n c) cur (m + 1)) : Fill w wr g K (D ++ [cur]) (ds ++ [.slice A n c]) (.slice none 0 0) [] m := by
  obtain ⟨A', c', hv, hc1, hc2⟩ := P.own.parts_
  injection hv with e1 e2 e3
  subst e1 e2 e3
  refine ⟨P.gl, P.gw, by rw [List.length_append]; have := P.len; simp; omega, ?_, ?_, World.ownsRow_nil _ _ _ _, P.below⟩
  · rw [P.row]; simp [List.replicate_succ]
  · refine HeldT.snoc (P.held.step fun _ _ _ h => h.step (Agree.refl _ (fun _ => False)) (fun _ _ h => h.elim) (fun k _ h => ?_)) (Brs.of_row P.own rfl (fun k hk h => ?_)) hc1 hc2
    · rcases h with h | h
      · exact .inl h
      · cases h
    · rcases h with h | h
      · have := (Row.lt_ P.own hk).1; omega
      · cases h
/-- all is filled -/
theorem Fill.trs {A : Option Addr} {n c : Nat} (P : Fill w wr g K D ds (.slice A n c) cur 0) : Trs wr (fun k => wr.heap.size ≤ k) (some ⟨g, 0, none⟩) K (D ++ [cur]) := by
  obtain ⟨A', c', hv, hc1, hc2⟩ := P.own.parts_
  injection hv with e1 e2 e3
  subst e1 e2 e3
  have hh : HeldT wr (fun k => wr.heap.size ≤ k) (ds ++ [.slice A cur.length c]) (D ++ [cur]) :=
    HeldT.snoc (P.held.step fun _ _ _ h => h.step (Agree.refl _ (fun _ => False)) (fun _ _ h => h.elim) (fun k hk h => by have h' : wr.heap.size ≤ k := h; omega)) (Brs.of_row P.own rfl (fun k hk h => by have h' : wr.heap.size ≤ k := h; have := (Row.lt_ P.own hk).2; omega)) hc1 hc2
  refine ⟨by rw [List.length_append]; have := P.len; simp; omega, fun i hi => ?_⟩
  have hi2 : i < (ds ++ [Value.slice A cur.length c]).length := by rw [hh.1]; exact hi
  obtain ⟨Ai, ci, hti, h1, h2, hbr⟩ := hh.2 i hi2 hi
  refine ⟨g, 0, rfl, P.gl, by have := P.gl; omega, Ai, ci, ?_, h1, h2, hbr⟩
  rw [Nat.zero_add, cell_of_row _ _ _ _ _ _ P.row, List.getElem?_toArray, ← hti]
  rw [show ds ++ Value.slice A cur.length c :: List.replicate 0 (.slice none 0 0) = ds ++ [.slice A cur.length c] from rfl, List.getElem?_eq_getElem hi2]
end

end Go.Proofs.YtfhpkcamigkmdaaGreatDoor.W
namespace Go.Proofs.YtfhpkcamigkmdaaGreatDoor.W
open Go.RowKit K

theorem bits_of {s : ByteArray} (h : M.okB s.data.toList = true) : s.size ≤ 400 ∧ ∀ c ∈ s.data.toList, c = 48 ∨ c = 49 := by
  unfold M.okB at h
  simp only [Bool.and_eq_true, decide_eq_true_eq, len_l, List.all_eq_true] at h
  refine ⟨by omega, fun c hc => ?_⟩
  first
    | (have := h.1 c hc; unfold M.bitC at this; simpa using this)
    | (have := h.2 c hc; unfold M.bitC at this; simpa using this)
theorem zeros_of {s : ByteArray} (h : M.okB s.data.toList = true) : ((s.toList.count 48 : Nat) : Int) = s.size - cntI s s.size := by
  have h1 := count_zeros s.data.toList (bits_of h).2
  unfold cntI
  rw [List.take_of_length_le (by simp)]
  have h2 : s.data.toList.length = s.size := by simp
  rw [ByteArray.toList_eq]
  omega

set_option maxHeartbeats 2000000 in
set_option maxRecDepth 100000 in
theorem matchI (L M_ F : ByteArray) (A : Option Addr) (n c : Nat) (keep : Int) (w : World) (hM : M_.size ≤ maxLen) (hF : F.size ≤ maxLen) :
    Calls Tryz.prog 184 #[.agg #[.string L, .string M_, .string F, .slice A n c, .int .i64 keep]] w fun e w' => e = .returned (.bool (formB L M_ F n keep)) ∧ Below w.heap.size w w' := by
  have HM := Lib.hid (fun W => okI M_ W hM)
  have HF := Lib.hid (fun W => okI F W hF)
  have HK := Lib.hid (fun W => keepI keep W)
  have HC := Lib.hid (fun W => countI M_ 48 W)
  have hbl : ∀ o m, Below w.heap.size w ((w.alloc o).drewN m) := fun o m => below_drewN ((Below.refl _ _).alloc (Nat.le_refl _) _) m
  have HBL := Lib.hid hbl
  clear hbl
  by_cases h1 : M_.size = L.size
  · have e1 : ((M_.size : Int) != (L.size : Int)) = false := by rw [h1]; simp
    by_cases h2 : F.size = L.size
    · have e2 : ((F.size : Int) != (L.size : Int)) = false := by rw [h2]; simp
      rcases Bool.eq_false_or_eq_true (M.okB M_.data.toList) with h3 | h3
      · rcases Bool.eq_false_or_eq_true (M.okB F.data.toList) with h4 | h4
        · rcases Bool.eq_false_or_eq_true (inB keep 0 5) with h5 | h5
          · rw [h3] at HM
            rw [h4] at HF
            rw [h5] at HK
            have HZ := Lib.hid (zeros_of h3)
            have HFB := Lib.hid (show formB L M_ F n keep = decide ((n : Int) = L.size - cntI M_ L.size) by unfold formB; rw [h3, h4, h5]; simp [h1, h2])
            have H1 := Lib.hid h1
            obtain ⟨z, hz⟩ : ∃ z : Nat, z = M_.toList.count 48 := ⟨_, rfl⟩
            rw [← hz] at HC HZ
            clear h1 h2 h3 h4 h5 hz
            go_enter Tryz.func184, Tryz.ntmps184
            go_wp2_with (first
              | (go_at_call 202; with_reducible refine (HM.out _).mono ?_; rintro e w1 ⟨rfl, hw⟩; subst hw)
              | (go_at_call 202; with_reducible refine (HF.out _).mono ?_; rintro e w1 ⟨rfl, hw⟩; subst hw)
              | (go_at_call 178; refine (HK.out _).mono ?_; rintro e w1 ⟨rfl, hw⟩; subst hw)
              | fail)
            go_quiet ((go_at_call 185; exact quiet_mine (HC.out _)))
            go_wp2
            go_ret
            refine ⟨ret_bool ?_, HBL.out _ _⟩
            rw [HFB.out, Bool.eq_iff_iff, decide_eq_true_eq]
            have h6 := HZ.out
            rw [H1.out] at h6
            simp only [beq_iff_eq]
            omega
          · rw [h3] at HM
            rw [h4] at HF
            rw [h5] at HK
            have HFB := Lib.hid (show formB L M_ F n keep = false by unfold formB; rw [h5]; simp)
            clear h1
            go_enter Tryz.func184, Tryz.ntmps184
            go_wp2_with (first | (go_at_call 202; with_reducible refine (HM.out _).mono ?_; rintro e w1 ⟨rfl, hw⟩; subst hw) | (go_at_call 202; with_reducible refine (HF.out _).mono ?_; rintro e w1 ⟨rfl, hw⟩; subst hw) | (go_at_call 178; with_reducible refine (HK.out _).mono ?_; rintro e w1 ⟨rfl, hw⟩; subst hw))
            go_ret
            exact ⟨ret_bool HFB.out.symm, (Below.refl _ _).alloc (Nat.le_refl _) _⟩
        · rw [h3] at HM
          rw [h4] at HF
          have HFB := Lib.hid (show formB L M_ F n keep = false by unfold formB; rw [h4]; simp)
          clear h1
          go_enter Tryz.func184, Tryz.ntmps184
          go_wp2_with (first | (go_at_call 202; with_reducible refine (HM.out _).mono ?_; rintro e w1 ⟨rfl, hw⟩; subst hw) | (go_at_call 202; with_reducible refine (HF.out _).mono ?_; rintro e w1 ⟨rfl, hw⟩; subst hw))
          go_ret
          exact ⟨ret_bool HFB.out.symm, (Below.refl _ _).alloc (Nat.le_refl _) _⟩
      · rw [h3] at HM
        have HFB := Lib.hid (show formB L M_ F n keep = false by unfold formB; rw [h3]; simp)
        clear h1
        go_enter Tryz.func184, Tryz.ntmps184
        go_wp2_with (first | (go_at_call 202; with_reducible refine (HM.out _).mono ?_; rintro e w1 ⟨rfl, hw⟩; subst hw))
        go_ret
        exact ⟨ret_bool HFB.out.symm, (Below.refl _ _).alloc (Nat.le_refl _) _⟩
    · have e2 : ((F.size : Int) != (L.size : Int)) = true := by simp; omega
      have HFB := Lib.hid (show formB L M_ F n keep = false by unfold formB; rw [decide_eq_false (p := (F.size : Int) = L.size) (by omega)]; simp)
      clear h1
      go_enter Tryz.func184, Tryz.ntmps184
      go_wp2
      go_ret
      exact ⟨ret_bool HFB.out.symm, (Below.refl _ _).alloc (Nat.le_refl _) _⟩
  · have e1 : ((M_.size : Int) != (L.size : Int)) = true := by simp; omega
    have HFB := Lib.hid (show formB L M_ F n keep = false by unfold formB; rw [decide_eq_false (p := (M_.size : Int) = L.size) (by omega)]; simp)
    clear h1
    go_enter Tryz.func184, Tryz.ntmps184
    go_wp2
    go_ret
    exact ⟨ret_bool HFB.out.symm, (Below.refl _ _).alloc (Nat.le_refl _) _⟩

end Go.Proofs.YtfhpkcamigkmdaaGreatDoor.W
namespace Go.Proofs.YtfhpkcamigkmdaaGreatDoor.W
open Go.RowKit K

/-- which nodes are there, behind so many branches -/
def RStep (s : T.Sv) (i : Nat) (D : T.Tr) (cur : List T.TB) (a : Int) : Prop := (i = 0 ∧ a = -1 ∧ D = [] ∧ cur = []) ∨ (0 < i ∧ a = D.length ∧ s.grp i = D ++ [cur])
section
variable {s : T.Sv} {w wr : World} {g K m i : Nat} {D : T.Tr} {ds : List Value} {nv : Value} {cur : List T.TB} {a : Int}
/-- a node begins -/
theorem rt_new (hf : s.first.length = s.letters.length) (hK : K = s.top) (hi : i < s.letters.length) (hb : ∀ k, k < i → ¬ s.bad k) (h49 : s.first.getD i 0 = 49) (hs : RStep s i D cur a) (P : Fill w wr g K D ds nv cur m) :
    ∃ D' ds' nv' cur' m', Fill w wr g K D' ds' nv' cur' m' ∧ a + 1 = (D'.length : Int) ∧ s.grp (i + 1) = D' ++ [cur' ++ [s.br i]] ∧ s.nds (i + 1) = D'.length + 1 := by
  have hn : s.nds (i + 1) = s.nds i + 1 := by have := T.ones_next s.first i (by omega); rw [if_pos h49] at this; exact this
  have hg : s.grp (i + 1) = s.grp i ++ [[s.br i]] := by have := T.grp_add s (i := i) rfl _ rfl; rw [if_pos h49] at this; exact this
  rcases hs with ⟨rfl, rfl, rfl, rfl⟩ | ⟨h0, ha, hgr⟩
  · exact ⟨[], ds, nv, [], m, P, rfl, by rw [hg]; rfl, by rw [hn]; rfl⟩
  · have hl := T.grp_len s hf i (by omega) hb
    rw [hgr, List.length_append] at hl
    have htop : s.nds (i + 1) ≤ T.Sv.top s := by
      have h1 : s.nds (i + 1) ≤ M.ones s.first := by
        have h2 := T.ones_take_mono s.first (i := i + 1) (j := s.first.length) (by omega)
        rw [List.take_length] at h2; exact h2
      unfold T.Sv.top; omega
    have hpl := P.len
    obtain ⟨m', rfl⟩ : ∃ m', m = m' + 1 := ⟨m - 1, by simp at hl; omega⟩
    obtain ⟨A, c, hv, -, -⟩ := P.own.parts_
    subst hv
    refine ⟨D ++ [cur], _, _, [], m', P.next, by rw [ha, List.length_append]; simp, by rw [hg, hgr]; rfl, ?_⟩
    rw [hn, ← hl]; simp
/-- the node goes on -/
theorem rt_same (hf : s.first.length = s.letters.length) (hi : i < s.letters.length) (hb : ∀ k, k < i → ¬ s.bad k) (h48 : ¬ s.first.getD i 0 = 49) (h0 : 0 < i) (hs : RStep s i D cur a) :
    a = (D.length : Int) ∧ s.grp (i + 1) = D ++ [cur ++ [s.br i]] ∧ s.nds (i + 1) = D.length + 1 := by
  rcases hs with ⟨rfl, -⟩ | ⟨-, ha, hgr⟩
  · omega
  · have hn : s.nds (i + 1) = s.nds i := by have := T.ones_next s.first i (by omega); rw [if_neg h48] at this; exact this
    have hg : s.grp (i + 1) = T.snocL (s.grp i) (s.br i) := by have := T.grp_add s (i := i) rfl _ rfl; rw [if_neg h48] at this; exact this
    have hl := T.grp_len s hf i (by omega) hb
    refine ⟨ha, by rw [hg, hgr, T.snocL_eq], ?_⟩
    rw [hn, ← hl, hgr]; simp
/-- the first branch begins no node -/
theorem rt_bad (hf : s.first.length = s.letters.length) (hi : 0 < s.letters.length) (h48 : ¬ s.first.getD 0 0 = 49) : s.bad 0 := by
  left
  have := T.ones_next s.first 0 (by omega)
  rw [if_neg h48] at this
  exact this
/-- all branches are read -/
theorem rt_end (hf : s.first.length = s.letters.length) (hK : K = s.top) (hb : ∀ k, k < s.letters.length → ¬ s.bad k) (hs : RStep s s.letters.length D cur a) (P : Fill w wr g K D ds nv cur m) : m = 0 ∧ s.rd = D ++ [cur] := by
  rcases hs with ⟨h0, -, rfl, rfl⟩ | ⟨h0, -, hgr⟩
  · have hff : s.first = [] := List.eq_nil_of_length_eq_zero (by omega)
    have ht : s.top = 1 := by unfold T.Sv.top; rw [hff]; rfl
    have := P.len
    refine ⟨by simp at this; omega, by unfold T.Sv.rd; rw [if_pos h0]; rfl⟩
  · have hl := T.grp_len s hf _ (Nat.le_refl _) hb
    rw [hgr, List.length_append] at hl
    have e : s.nds s.letters.length = M.ones s.first := by unfold T.Sv.nds; rw [← hf, List.take_length]
    have := P.len
    refine ⟨?_, by unfold T.Sv.rd; rw [if_neg (by omega)]; exact hgr⟩
    unfold T.Sv.top at hK
    simp at hl
    omega
end
theorem grp_sum (s : T.Sv) : ∀ i, ((s.grp i).map List.length).sum = i
  | 0 => rfl
  | i + 1 => by
    have ih := grp_sum s i
    unfold T.Sv.grp
    split
    · rw [List.map_append, List.sum_append, ih]; rfl
    · by_cases h : s.grp i = []
      · rw [h] at ih ⊢
        have : i = 0 := ih.symm
        subst this
        rfl
      · rw [T.snocL_sum h, ih]
theorem cur_le {s : T.Sv} {i : Nat} {D : T.Tr} {cur : List T.TB} {b : T.TB} (h : s.grp (i + 1) = D ++ [cur ++ [b]]) : cur.length ≤ i := by
  have h1 := grp_sum s (i + 1)
  rw [h, List.map_append, List.sum_append] at h1
  simp at h1
  omega
theorem cell_one {w : World} {b : Nat} {x : Value} {t : TypeId} (h : w.heap[b]? = some (.cells #[x] t (0, 0))) : ∀ (j : Nat) (u : Value), [x][j]? = some u → w.cell? ⟨b, j, none⟩ = some u := by
  intro j u hj
  rw [cell_of_row _ _ _ _ _ _ h]
  match j, hj with
  | 0, hj => simpa using hj
theorem ones_le_len (l : List UInt8) : M.ones l ≤ l.length := M.ones_le l
/-- a rest is there for a branch that ends -/
theorem rest_in {s : T.Sv} (hm : s.more.length = s.letters.length) (hr : s.rests.length + M.ones s.more = s.letters.length) {i : Nat} (hi : i < s.letters.length) (h48 : ¬ s.more.getD i 0 = 49) : i - s.rank i < s.rests.length ∧ s.rank i ≤ i ∧ s.rank (i + 1) = s.rank i := by
  have h1 : s.rank (i + 1) = s.rank i := by have := T.ones_next s.more i (by omega); rw [if_neg h48] at this; exact this
  have h2 : M.ones s.more = s.rank (i + 1) + M.ones (s.more.drop (i + 1)) := by
    conv => lhs; rw [← List.take_append_drop (i + 1) s.more]
    rw [M.ones_append]; rfl
  have h3 := ones_le_len (s.more.drop (i + 1))
  rw [List.length_drop] at h3
  have h4 : s.rank i ≤ i := by have := ones_le_len (s.more.take i); rw [List.length_take] at this; show M.ones _ ≤ i; omega
  exact ⟨by omega, h4, h1⟩
theorem fill_start (w w1 : World) (K : Nat) (h1 : 0 < K) (hb : Below w.heap.size w w1) : Fill w (w1.alloc (.cells (List.replicate K (Value.slice none 0 0)).toArray 197)) w1.heap.size K [] [] (.slice none 0 0) [] (K - 1) := by
  refine ⟨by simp, hb.size, by simp; omega, ?_, HeldT.nil _ _, World.ownsRow_nil _ _ _ _, hb.alloc hb.size _⟩
  rw [heap_alloc_new]
  obtain ⟨k, rfl⟩ : ∃ k, K = k + 1 := ⟨K - 1, by omega⟩
  rw [List.replicate_succ]
  rfl

end Go.Proofs.YtfhpkcamigkmdaaGreatDoor.W
namespace Go.Proofs.YtfhpkcamigkmdaaGreatDoor.T
/-- what a filter keeps of what it keeps is all of it -/
theorem kept_self {s : Sv} (h : isSv s) {x : Str} (hx : x ∈ s.heads) : kept s.keep s.heads x = x := by
  obtain ⟨hK, -, -, he⟩ := h
  have h1 : (sieve s.keep s.heads).heads = heads s.keep s.heads := heads_of hK s.keep
  rw [← he] at h1
  obtain ⟨i, hi, rfl⟩ := List.mem_iff_getElem.mp hx
  have h2 : (heads s.keep s.heads)[i]? = some s.heads[i] := by rw [← h1]; exact List.getElem?_eq_getElem hi
  unfold heads at h2
  rw [List.getElem?_map, List.getElem?_eq_getElem hi] at h2
  simpa using h2
end Go.Proofs.YtfhpkcamigkmdaaGreatDoor.T
namespace Go.Proofs.YtfhpkcamigkmdaaGreatDoor.W
open Go.RowKit K

theorem find_idx {α : Type} (p : α → Bool) : ∀ (l : List α), l[l.findIdx p]? = l.find? p
  | [] => rfl
  | a :: t => by
    rw [List.findIdx_cons, List.find?_cons]
    cases h : p a with
    | true => rfl
    | false =>
      show (a :: t)[t.findIdx p + 1]? = t.find? p
      rw [List.getElem?_cons_succ]
      exact find_idx p t
theorem zip_map' {α β γ : Type} (g : α → β) (h : α → γ) : ∀ l : List α, (l.map g).zip (l.map h) = l.map fun x => (g x, h x)
  | [] => rfl
  | a :: t => by rw [List.map_cons, List.map_cons, List.zip_cons_cons, zip_map' g h t]; rfl
end Go.Proofs.YtfhpkcamigkmdaaGreatDoor.W
